/-
  Proved here: for all slices of bytes, laws.FnTwo returns true (the two-hop neighbors by one are those that it has as symmetric, but us; those by others stay) and leaves the slices as they were. No condition. (The walk is written by mkfntwo.py.)
-/
import Derived.Test.YtmelbilepfnmjabTwoT
import Derived.Test.YtmelbilepfnmjabTwoA
import Derived.Test.YtmelbilepfnmjabTwoD
import Derived.Test.YtmelbilepfnmjabSrcT
import Derived.Test.YtmelbilepfnmjabSetK
import Derived.Test.YtmelbilepfnmjabHelU
import Derived.Test.YtmelbilepfnmjabAt
import Derived.Deep.QuietTactic
import Derived.BigQuiet
namespace Go.Proofs.Ytmelbilepfnmjab.fnTwo
open Go.ChangeShapes Go.WideShapes Go.ChangeAt Go.RowKit
open W1 By Sr Tw
set_option linter.unusedVariables false
set_option linter.unusedSimpArgs false
attribute [local go_sem ↓] Go.wp_at_zero Go.wp_at_succ
theorem own : ownKnob Try.prog.godebug = none := by kernel_rfl
theorem laidOut : laidOutB Try.prog = true := by kernel_rfl
theorem below_dN {w : World} (q : Nat) : Below w.heap.size w (w.drewN q) := ⟨rfl, rfl, rfl, Nat.le_refl _, fun _ _ => rfl⟩
set_option maxRecDepth 100000 in
set_option maxHeartbeats 8000000 in
theorem walk (a : Option Addr) (bs : List UInt8) (cap : Nat) (hm0 : bs.length ≤ maxLen) (a' : Option Addr) (bs' : List UInt8) (cap' : Nat) (hm0' : bs'.length ≤ maxLen) (w : World) (hr : Reads w a bs) (hr' : Reads w a' bs') :
    Calls Try.prog 5 #[.slice a bs.length cap, .slice a' bs'.length cap'] w fun e w' => e = .returned (.bool true) ∧ Below w.heap.size w w' := by
  unfold maxLen at hm0 hm0'
  by_cases hb : (1048576 : Int) < bs.length
  · go_enter Try.func5, Try.ntmps5
    go_wp2
    go_ret
    exact ⟨rfl, Below.refl _ _⟩
  by_cases hb' : (1048576 : Int) < bs'.length
  · go_enter Try.func5, Try.ntmps5
    go_wp2
    go_ret
    exact ⟨rfl, Below.refl _ _⟩
  have hbm : bs.length ≤ 1048576 := by omega
  have hbm' : bs'.length ≤ 1048576 := by omega
  have HR := hide hr
  have HR' := hide hr'
  clear hr hr'
  go_enter Try.func5, Try.ntmps5
  go_wp2_with fail
  refine (twoDrawn a bs cap _ hbm (unhide HR)).mono ?_
  rintro e w1 ⟨g, ms, c, rfl, hsm, hl1, b1⟩
  have HS := hide hsm.1
  have L1 := hide hl1
  have hl62 := two_len hsm.1
  have hml : ms.length ≤ 1048576 := by omega
  clear hsm hl1
  have B1 := hide b1
  clear b1
  go_wp2_with fail
  refine (Hl.helloOf a' bs' cap' _ hbm' (Hl.reads_under (unhide HR') (unhide B1))).mono ?_
  rintro e w2 ⟨x, y, b, ns, capn, rfl, hh, hln, b2⟩
  have HH := hide hh
  have h8 := Hl.hel_len hh
  have hv := Hl.hel_valid hh
  have hnl : ns.length ≤ 1048576 := by omega
  have N2 := hide hln
  clear hh hln
  have B2 := hide ((unhide B1).trans (b2.mono (unhide B1).size))
  have L2 := hide ((unhide L1).below b2)
  clear L1
  clear b2
  have b3 : Below w2.heap.size w2 (w2.alloc (.cells #[.int .i64 x, .int .i64 y, .slice b ns.length capn] 38)) := (Below.refl _ _).alloc (Nat.le_refl _) _
  have T3 := hide (bx3_new w2 x y (.slice b ns.length capn) 38)
  have B3 := hide ((unhide B2).trans (b3.mono (unhide B2).size))
  have L3 := hide ((unhide L2).below b3)
  have N3 := hide ((unhide N2).below b3)
  clear b3 L2 N2
  go_wp2_with fail
  generalize hW : w2.alloc (.cells #[.int .i64 x, .int .i64 y, .slice b ns.length capn] 38) = w3 at *
  clear hW
  refine (Go.Proofs.Ytmelbilepfnmjab.At.choice a' bs' cap' 0 8 _ (by omega) (by omega) (by omega) hbm' (Hl.reads_under (unhide HR') (unhide B3))).mono ?_
  rintro e w4 ⟨km, rfl, hkm, q4, hq4⟩
  have b4 : Below w3.heap.size w3 w4 := by rw [hq4]; exact below_dN _
  have B4 := hide ((unhide B3).trans (b4.mono (unhide B3).size))
  have L4 := hide ((unhide L3).below b4)
  have N4 := hide ((unhide N3).below b4)
  have T4 := hide ((unhide T3).below b4)
  clear L3 N3 T3
  clear b4 hq4
  go_wp2_with fail
  refine (Go.Proofs.Ytmelbilepfnmjab.At.choice a' bs' cap' 1 8 _ (by omega) (by omega) (by omega) hbm' (Hl.reads_under (unhide HR') (unhide B4))).mono ?_
  rintro e w5 ⟨kf, rfl, hkf, q5, hq5⟩
  have b5 : Below w4.heap.size w4 w5 := by rw [hq5]; exact below_dN _
  have B5 := hide ((unhide B4).trans (b5.mono (unhide B4).size))
  have L5 := hide ((unhide L4).below b5)
  have N5 := hide ((unhide N4).below b5)
  have T5 := hide ((unhide T4).below b5)
  clear L4 N4 T4
  clear b5 hq5
  go_wp2_with fail
  refine (Go.Proofs.Ytmelbilepfnmjab.At.choice a' bs' cap' 2 20 _ (by omega) (by omega) (by omega) hbm' (Hl.reads_under (unhide HR') (unhide B5))).mono ?_
  rintro e w6 ⟨kn, rfl, hkn, q6, hq6⟩
  have b6 : Below w5.heap.size w5 w6 := by rw [hq6]; exact below_dN _
  have B6 := hide ((unhide B5).trans (b6.mono (unhide B5).size))
  have L6 := hide ((unhide L5).below b6)
  have N6 := hide ((unhide N5).below b6)
  have T6 := hide ((unhide T5).below b6)
  clear L5 N5 T5
  clear b6 hq6
  go_wp2_with fail
  refine (Go.Proofs.Ytmelbilepfnmjab.At.choice a' bs' cap' 3 4 _ (by omega) (by omega) (by omega) hbm' (Hl.reads_under (unhide HR') (unhide B6))).mono ?_
  rintro e w7 ⟨ks, rfl, hks, q7, hq7⟩
  have b7 : Below w6.heap.size w6 w7 := by rw [hq7]; exact below_dN _
  have B7 := hide ((unhide B6).trans (b7.mono (unhide B6).size))
  have L7 := hide ((unhide L6).below b7)
  have N7 := hide ((unhide N6).below b7)
  have T7 := hide ((unhide T6).below b7)
  clear L6 N6 T6
  clear b7 hq7
  obtain ⟨me, hme⟩ : ∃ me : Int, 1 + (km : Int) = me := ⟨_, rfl⟩
  obtain ⟨frm, hfrm⟩ : ∃ frm : Int, 1 + (kf : Int) = frm := ⟨_, rfl⟩
  obtain ⟨now, hnow⟩ : ∃ now : Int, (kn : Int) = now := ⟨_, rfl⟩
  have m1 : 1 ≤ me ∧ me ≤ 8 := by omega
  have f1 : 1 ≤ frm ∧ frm ≤ 8 := by omega
  have n1 : 0 ≤ now ∧ now ≤ 1000000 := by omega
  have HME := hide hme
  have HFR := hide hfrm
  have HNW := hide hnow
  clear hme hfrm hnow
  obtain ⟨sn, hsn⟩ : ∃ sn : Int, (ks : Int) = sn := ⟨_, rfl⟩
  rw [hsn]
  clear hsn hks
  have hwf : (Lit.int .i64 frm).wf = true := WalkArith.wf_i64 ⟨by omega, by omega⟩
  have hTC : hearTC me frm now x y ns = 0 := by
    have i1 : inB me 1 8 = true := by simp [inB]; omega
    have i2 : inB frm 1 8 = true := by simp [inB]; omega
    have i4 : inB now 0 1000000 = true := by simp [inB]; omega
    unfold hearTC; rw [i1, i2, unhide HH, i4]; rfl
  have HTC := hide hTC
  have HTE : Hid (hearTE ms me frm now x y ns = 0) := hide (by unfold hearTE; rw [if_pos (Tw.code_zero (unhide HS))]; exact hTC)
  have HTA : Hid (∀ sym, hearTA ms me frm now sym x y ns = hearTL ms me frm now sym y ns) := hide (fun sym => by unfold hearTA; rw [if_pos (unhide HTE)])
  clear hTC
  obtain ⟨z0, z1, z2⟩ := unhide T7
  go_wp2_with fail
  rw [unhide HME, unhide HFR, unhide HNW]
  clear z0 z1 z2
  generalize decide (0 < sn) = sym at *
  obtain ⟨PP, hPP⟩ : ∃ PP, hearTL ms me frm now sym y ns = PP := ⟨_, rfl⟩
  have HPP := hide hPP
  have HPT : Hid (twoB PP = true) := hide (by rw [← hPP]; exact hearT_two (unhide HS) (unhide HTC))
  have hp62 := two_len (unhide HPT)
  have hpl : PP.length ≤ 1048576 := by omega
  clear hPP
  refine (implHear _ ms c me frm now sym x y b ns capn _ hml hnl (unhide L7).rm (unhide N7).rm).mono ?_
  rintro e w8 ⟨v, rfl, b8, lx⟩
  rw [unhide HTE]
  rw [unhide HTA, unhide HPP] at lx
  obtain ⟨xa, xc, rfl, hlx⟩ := lx
  have X8 := hide hlx
  clear hlx
  have B8 := hide ((unhide B7).trans (b8.mono (unhide B7).size))
  have L8 := hide ((unhide L7).below b8)
  have N8 := hide ((unhide N7).below b8)
  have T8 := hide ((unhide T7).below b8)
  clear L7 N7 T7
  clear b8
  obtain ⟨z0, z1, z2⟩ := unhide T8
  go_wp2_with fail
  clear z0 z1 z2
  refine (specHear _ ms c me frm now sym x y b ns capn _ hml hnl (unhide L8).rm (unhide N8).rm).mono ?_
  rintro e w9 ⟨v, rfl, b9, lx⟩
  rw [unhide HTE]
  rw [unhide HTA, unhide HPP] at lx
  obtain ⟨ya, yc, rfl, hlx⟩ := lx
  have Y9 := hide hlx
  clear hlx
  have B9 := hide ((unhide B8).trans (b9.mono (unhide B8).size))
  have L9 := hide ((unhide L8).below b9)
  have N9 := hide ((unhide N8).below b9)
  have T9 := hide ((unhide T8).below b9)
  have X9 := hide ((unhide X8).below b9)
  clear L8 N8 T8 X8
  clear b9
  have HZZ : Hid (twoA PP frm = ownZ me frm sym ns) := hide (by rw [← unhide HPP]; exact two_own (unhide HS) (unhide HTC))
  have HCP : Hid (codeT PP = 0) := hide (Tw.code_zero (unhide HPT))
  go_wp2_with fail
  refine (implTwoOf _ PP _ frm hwf _ hpl (unhide X9).rm).mono ?_
  rintro e w10 ⟨v, rfl, b10, lx⟩
  rw [unhide HCP]
  rw [unhide HZZ] at lx
  obtain ⟨za, zc, rfl, hlx⟩ := lx
  have Z10 := hide hlx
  clear hlx
  have B10 := hide ((unhide B9).trans (b10.mono (unhide B9).size))
  have L10 := hide ((unhide L9).below b10)
  have N10 := hide ((unhide N9).below b10)
  have T10 := hide ((unhide T9).below b10)
  have X10 := hide ((unhide X9).below b10)
  have Y10 := hide ((unhide Y9).below b10)
  clear L9 N9 T9 X9 Y9
  clear b10
  have HYE : Hid (Hl.symE x y ns = 0) := hide (by unfold Hl.symE; rw [if_pos (unhide HH)])
  have HYA : Hid (Hl.symA x y ns = Hl.symN ns ns.length) := hide (by unfold Hl.symA; rw [if_pos (unhide HH)])
  obtain ⟨z0, z1, z2⟩ := unhide T10
  go_wp2_with fail
  clear z0 z1 z2
  refine (Hl.implSymOf x y b ns capn _ hnl (unhide N10).rm).mono ?_
  rintro e w11 ⟨v, rfl, b11, lx⟩
  rw [unhide HYE]
  rw [unhide HYA] at lx
  obtain ⟨ha, hc, rfl, hlx⟩ := lx
  have H11 := hide hlx
  clear hlx
  have B11 := hide ((unhide B10).trans (b11.mono (unhide B10).size))
  have L11 := hide ((unhide L10).below b11)
  have N11 := hide ((unhide N10).below b11)
  have T11 := hide ((unhide T10).below b11)
  have X11 := hide ((unhide X10).below b11)
  have Y11 := hide ((unhide Y10).below b11)
  have Z11 := hide ((unhide Z10).below b11)
  clear L10 N10 T10 X10 Y10 Z10
  clear b11
  go_wp2_with fail
  refine (sameSet _ _ PP _ _ _ hpl (unhide X11).rm (unhide Y11).rm).mono ?_
  rintro e w12 ⟨rfl, b12⟩
  have B12 := hide ((unhide B11).trans (b12.mono (unhide B11).size))
  have L12 := hide ((unhide L11).below b12)
  have N12 := hide ((unhide N11).below b12)
  have T12 := hide ((unhide T11).below b12)
  have X12 := hide ((unhide X11).below b12)
  have Y12 := hide ((unhide Y11).below b12)
  have Z12 := hide ((unhide Z11).below b12)
  have H12 := hide ((unhide H11).below b12)
  clear L11 N11 T11 X11 Y11 Z11 H11
  clear b12
  have hsl := Hl.symN_len ns ns.length
  have hhe : Hid (ownZ me frm sym ns = if sym = true then (Hl.symN ns ns.length).filter (qF me frm) else []) := hide rfl
  obtain ⟨hs, hhs⟩ : ∃ hs, Hl.symN ns ns.length = hs := ⟨_, rfl⟩
  rw [hhs] at hsl H12 hhe ⊢
  clear hhs
  obtain ⟨oz, hoz⟩ : ∃ oz, ownZ me frm sym ns = oz := ⟨_, rfl⟩
  have HOZ := hide hoz
  rw [hoz] at hhe Z12 ⊢
  clear hoz
  have hol : oz.length ≤ 8 := by
    rw [unhide hhe]
    split
    · exact Nat.le_trans (List.length_filter_le _ _) (by omega)
    · simp
  have HCE : Hid (cntZ me frm sym hs hs.length = oz.length) := hide (by rw [cnt_end, unhide hhe])
  have HFO : Hid (∀ z, z ∈ oz → St.dropE PP (100 * frm + z) = 0 ∧ (St.findA PP (100 * frm + z)).til = now + y ∧ 0 < PP.length ∧ hopB frm z = true) := hide (fun z hz => by rw [← unhide HPP]; exact find_own (unhide HS) (unhide HTC) (by rw [unhide HOZ]; exact hz))
  generalize hNH : hs.length = nh at *
  have HNH := hide hNH
  clear hNH
  go_wp2_with fail
  go_loopw [19, 20] (fun n i wr => ∃ j : Nat, j ≤ nh ∧ n = .int .i64 (cntZ me frm sym hs j : Int) ∧ i = .int .i64 j ∧ Hid (Below w12.heap.size w12 wr)) (fun _ i _ => nh - (intOf i).toNat)
  case atStart => exact ⟨0, by omega, by unfold cntZ; cases sym <;> rfl, rfl, hide (Below.refl _ _)⟩
  case round =>
    obtain ⟨j, hj, rfl, rfl, hbl⟩ := hrel
    by_cases hlt : (j : Int) < (nh : Int)
    · have k0 : (0 : Int) ≤ (j : Int) := by omega
      have hlen : j < hs.length := by rw [unhide HNH]; omega
      have hHr := (unhide H12).rm.below (unhide hbl)
      rcases hHr with e0 | ⟨gh, oh, rfl, hc⟩
      · exfalso; rw [e0] at hlen; simp at hlen
      have c0 := hc j hlen
      have HC0 : Hid (∀ w', Below wr.heap.size wr w' → w'.cell? ⟨gh, oh + j, none⟩ = some (.int .i64 (hs.getD j 0))) := hide (fun w' hb => (hb.cell (p := ⟨gh, oh + j, none⟩) (World.block_lt_of_cell? _ _ c0)).trans c0)
      clear hc
      have HNO : Hid (qF me frm (hs.getD j 0) = false → cntZ me frm sym hs (j + 1) = cntZ me frm sym hs j) := hide (fun h => cnt_no hlen h)
      have HYE : Hid (qF me frm (hs.getD j 0) = true → sym = true → cntZ me frm sym hs (j + 1) = cntZ me frm sym hs j + 1 ∧ cntZ me frm sym hs j < oz.length ∧ oz.getD (cntZ me frm sym hs j) 0 = hs.getD j 0 ∧ hs.getD j 0 ∈ oz) := hide (fun h hsy => by
        have he := unhide hhe
        subst hsy
        rw [if_pos rfl] at he
        rw [he]
        exact ⟨cnt_yes hlen h, cnt_at hlen h⟩)
      have HSF : Hid (sym = false → cntZ me frm sym hs (j + 1) = cntZ me frm sym hs j) := hide (fun h => by subst h; rfl)
      generalize hs.getD j 0 = z at *
      obtain ⟨cn, hcn⟩ : ∃ cn, cntZ me frm sym hs j = cn := ⟨_, rfl⟩
      obtain ⟨cm, hcm⟩ : ∃ cm, cntZ me frm sym hs (j + 1) = cm := ⟨_, rfl⟩
      have HCM := hide hcm
      rw [hcn, hcm] at HNO HYE HSF
      rw [hcn]
      clear hcn hcm
      have hqf : qF me frm z = (z != me && z != frm) := rfl
      have HQF := hide hqf
      clear hqf
      cases q1 : (z == me)
      rotate_left
      · have hcc := unhide HNO (by rw [unhide HQF, bne, q1]; rfl)
        subst hcc
        go_wp2_with fail
        go_roundw
        case rel => exact ⟨j + 1, by omega, by rw [unhide HCM], by go_num, hbl⟩
        case measure => simp [intOf]; omega
      cases q2 : (z == frm)
      rotate_left
      · have hcc := unhide HNO (by rw [unhide HQF, bne, bne, q1, q2]; rfl)
        subst hcc
        go_wp2_with fail
        go_roundw
        case rel => exact ⟨j + 1, by omega, by rw [unhide HCM], by go_num, hbl⟩
        case measure => simp [intOf]; omega
      cases sym
      · have hcc := unhide HSF rfl
        subst hcc
        go_wp2_with fail
        go_roundw
        case rel => exact ⟨j + 1, by omega, by rw [unhide HCM], by go_num, hbl⟩
        case measure => simp [intOf]; omega
      obtain ⟨y1, y2, y3, y4⟩ := unhide HYE (by rw [unhide HQF, bne, bne, q1, q2]; rfl) rfl
      obtain ⟨d1, d2, d3, d4⟩ := unhide HFO z y4
      have HD1 := hide d1
      have HD2 := hide d2
      have HD4 := hide d4
      have HY1 := hide y1
      have HY3 := hide y3
      clear d1 d2 d4 y1 y3 y4 HNO HYE HSF
      obtain ⟨gp, op, rfl⟩ := (unhide X12).rm.form d3
      have HZr : Hid (In.RM wr za oz) := hide ((unhide Z12).rm.below (unhide hbl))
      rcases unhide HZr with e0 | ⟨gz, oz', rfl, hcz⟩
      · exfalso; rw [e0] at y2; simp at y2
      have cz0 := hcz cn y2
      rw [unhide HY3] at cz0
      have HCZ : Hid (∀ w', Below wr.heap.size wr w' → w'.cell? ⟨gz, oz' + cn, none⟩ = some (.int .i64 z)) := hide (fun w' hb => (hb.cell (p := ⟨gz, oz' + cn, none⟩) (World.block_lt_of_cell? _ _ cz0)).trans cz0)
      have HTr := hide ((unhide T12).below (unhide hbl))
      have HXr := hide ((unhide X12).rm.below (unhide hbl))
      clear hcz cz0
      have hbs := (unhide hbl).size
      go_wp2_with fail
      refine (implKey frm z _).mono ?_
      rintro e v1 ⟨rfl, bv1⟩
      rw [unhide HD4, if_pos rfl, if_pos rfl]
      clear c0
      go_wp2_with fail
      refine (St.implFind gp op PP _ (100 * frm + z) _ hpl ((unhide HXr).below bv1)).mono ?_
      rintro e v2 ⟨rfl, bv2⟩
      rw [unhide HD1]
      have bv := bv1.trans (bv2.mono bv1.size)
      clear bv1 bv2
      obtain ⟨F, hF⟩ : ∃ F, St.findA PP (100 * frm + z) = F := ⟨_, rfl⟩
      rw [hF] at HD2 ⊢
      clear hF
      obtain ⟨ke, ti, va⟩ := F
      have hti : ti = now + y := unhide HD2
      clear HD2
      subst hti
      unfold Tu.R.value
      dsimp only
      have bw : Below wr.heap.size wr (v2.alloc (.cells #[.int .i64 ke, .int .i64 (now + y), .int .i64 va] 32)) := bv.alloc bv.size _
      have HBW := hide bw
      have hx0 : (v2.alloc (.cells #[.int .i64 ke, .int .i64 (now + y), .int .i64 va] 32)).cell? ⟨v2.heap.size, 1, none⟩ = some (.int .i64 (now + y)) := by simp [World.cell?_alloc_new]
      have HX0 := hide hx0
      clear hx0 bw bv
      go_wp2_with fail
      generalize hW : v2.alloc (.cells #[.int .i64 ke, .int .i64 (now + y), .int .i64 va] 32) = W0 at *
      clear hW
      have c0 := unhide HC0 W0 (unhide HBW)
      have cz := unhide HCZ W0 (unhide HBW)
      have cx := unhide HX0
      obtain ⟨t0, t1, t2⟩ := (unhide HTr).below (unhide HBW)
      have hwn : IntKind.i64.wrap (now + y) = now + y := by rw [IntKind.wrap_i64]; omega
      have hz0 : (z != z) = false := by simp
      have ht0 : (now + y != now + y) = false := by simp
      have hcn1 : (0 : Int) ≤ (cn : Int) := by omega
      have hcn2 : (cn : Int) < (oz.length : Int) := by omega
      have hcnm : (cn : Int) ≤ 62 := by omega
      have HWl := (unhide HBW).size
      go_quiet (fail)
      have HBN : Hid (∀ q, Below w12.heap.size w12 (W0.drewN q)) := hide (fun q => (unhide hbl).trans (((unhide HBW).trans (below_dN q |>.mono HWl)).mono hbs))
      clear c0 cz cx t0 t1 t2
      go_wp2_with fail
      go_roundw
      case rel => exact ⟨j + 1, by omega, by rw [unhide HCM, unhide HY1]; go_num, by go_num, hide (unhide HBN _)⟩
      case measure => simp [intOf]; omega
    · obtain rfl : j = nh := by omega
      rw [unhide HCE]
      have HL2 := hide (Tw.code_zero (unhide HS))
      have hoo : ((oz.length : Int) == (oz.length : Int)) = true := by simp
      generalize hON : oz.length = on at *
      have HON := hide hON
      clear hON
      go_wp2_with fail
      go_loopw [25] (fun i wr2 => ∃ t : Nat, t ≤ 8 ∧ i = .int .i64 ((t : Int) + 1) ∧ Hid (Below w12.heap.size w12 wr2)) (fun i _ => 9 - (intOf i).toNat)
      case atStart => exact ⟨0, by omega, rfl, hbl⟩
      case round =>
        obtain ⟨t, ht, rfl, hb2⟩ := hrel
        by_cases hlt2 : (t : Int) + 1 ≤ 8
        · have HWV : Hid ((Lit.int .i64 ((t : Int) + 1)).wf = true) := hide (WalkArith.wf_i64 ⟨by omega, by omega⟩)
          have HLr := hide ((unhide L12).rm.below (unhide hb2))
          have HXr := hide ((unhide X12).rm.below (unhide hb2))
          have hbs := (unhide hb2).size
          go_wp2_with fail
          refine (implTwoOf _ ms c ((t : Int) + 1) (unhide HWV) _ hml (unhide HLr)).mono ?_
          rintro e v1 ⟨vp, rfl, bv1, lp⟩
          rw [unhide HL2]
          obtain ⟨pa, pc, rfl, hlp⟩ := lp
          have HP1 := hide hlp.rm
          have HX1 := hide ((unhide HXr).below bv1)
          have HB1 := hide ((unhide hb2).trans (bv1.mono hbs))
          clear bv1 hlp
          go_wp2_with fail
          refine (implTwoOf _ PP _ ((t : Int) + 1) (unhide HWV) _ hpl (unhide HX1)).mono ?_
          rintro e v2 ⟨vq, rfl, bv2, lq⟩
          rw [unhide HCP]
          obtain ⟨qa, qc, rfl, hlq⟩ := lq
          have HQ2 := hide hlq.rm
          have HP2 := hide ((unhide HP1).below bv2)
          have HB2 := hide ((unhide HB1).trans (bv2.mono (unhide HB1).size))
          clear bv2 hlq
          cases hq : ((t : Int) + 1 != frm)
          · go_wp2_with fail
            go_roundw
            case rel => exact ⟨t + 1, by omega, by go_num, HB2⟩
            case measure => simp [intOf]; omega
          · have hne : (t : Int) + 1 ≠ frm := by simpa [bne] using hq
            have HEQ : Hid (twoA PP ((t : Int) + 1) = twoA ms ((t : Int) + 1)) := hide (by rw [← unhide HPP]; exact two_other (unhide HS) (unhide HTC) hne)
            have hll := twoA_len ms ((t : Int) + 1)
            clear hne
            rw [unhide HEQ] at HQ2 ⊢
            generalize twoA ms ((t : Int) + 1) = zs at *
            go_wp2_with fail
            refine (In.sameS _ _ zs _ _ _ (by omega) (unhide HP2) (unhide HQ2)).mono ?_
            rintro e v3 ⟨rfl, bv3⟩
            have HB3 := hide ((unhide HB2).trans (bv3.mono (unhide HB2).size))
            clear bv3
            go_wp2_with fail
            go_roundw
            case rel => exact ⟨t + 1, by omega, by go_num, HB3⟩
            case measure => simp [intOf]; omega
        · have HF := hide ((unhide B12).trans ((unhide hb2).mono (unhide B12).size))
          go_wp2_with fail
          go_ret
          exact ⟨rfl, unhide HF⟩

set_option maxRecDepth 100000 in
theorem lifted (os : Os) (started : os.Started) (H : Type) (enc : TypeId × Value → H) :
    ReturnsInHanded {} Try.checked os 5 .any (Rows.fnTwoSpec.pre6 enc Try.prog Try.f5 Rows.fnTwoRow.domain false) (Rows.fnTwoSpec.post enc Try.prog Try.f5 false true false false) := by
  refine returnsInHanded_of_change (C := Try.checked) own started (by kernel_rfl) Try.func5
    (ChangeSpec.witness6 (enc := enc) (C := Try.checked) false ⟨#[], #[.slice none 0 0, .slice none 0 0], []⟩ 8 (by kernel_rfl) (by kernel_rfl) (by kernel_rfl) (by kernel_rfl)) ?_
  intro W base args ds gs before hval0 hW hcnd _
  have hval : ∀ (j : Nat) t v, Try.f5.params[j]? = some t → args[j]? = some v → Value.okWide Try.prog W .any base t v := hval0
  have hW' := hW
  obtain ⟨p, q, hA0, hV, rfl, hfz, hnd⟩ := hW
  have hA : DataW.TrodAll enc Try.prog W 0 (fun _ => true) true Try.f5.params.toList args.toList ds p := hA0
  rw [Try.params5] at hA hval
  obtain ⟨v0, vs0, d0, ds0, p0, q0, hargs0, rfl, rfl, h0, r0⟩ := trodAll_cons hA
  obtain ⟨v1, vs1, d1, ds1, p1, q1, hargs1, rfl, rfl, h1, r1⟩ := trodAll_cons r0
  obtain ⟨rfl, rfl, rfl⟩ := trodAll_nil r1
  obtain rfl : args = #[v0, v1] := by cases args; simp_all
  obtain ⟨rfl, rfl⟩ := trodVars_none hV
  have k0 := h0
  have lt0 : ∀ x ∈ p0, x.block < W.heap.size := by obtain ⟨m, hm⟩ := k0; exact DataW.trod_lt m _ _ _ hm
  have k1 := h1
  have lt1 : ∀ x ∈ p1, x.block < W.heap.size := by obtain ⟨m, hm⟩ := k1; exact DataW.trod_lt m _ _ _ hm
  obtain ⟨a0, len0, cap0, rfl⟩ := okWide_slice Try.underlying22 (hval 0 22 v0 rfl rfl)
  obtain ⟨bs0, hlen0, hmx0, hrd0⟩ := Op.open_bytes h0
  subst hlen0
  obtain ⟨a1, len1, cap1, rfl⟩ := okWide_slice Try.underlying22 (hval 1 22 v1 rfl rfl)
  obtain ⟨bs1, hlen1, hmx1, hrd1⟩ := Op.open_bytes h1
  subst hlen1
  clear hA0 hval0
  refine (walk a0 bs0 cap0 hmx0 a1 bs1 cap1 hmx1 W hrd0 hrd1).mono fun e W' ⟨he, bel⟩ => ?_
  subst he
  exact ⟨_, rfl, _, _, _, [], _, [], hW', trodAll_mk1 (shut_bool Try.underlying4 _), (trodAll_cons_mk (Below.trod laidOut (by kernel_rfl) (of_decide_eq_true (by kernel_rfl)) k0 bel lt0) (trodAll_cons_mk (Below.trod laidOut (by kernel_rfl) (of_decide_eq_true (by kernel_rfl)) k1 bel lt1) trodAll_mk0)), rfl, bel.frame _, fun h => by cases h⟩

theorem over : Rows.fnTwoRow.holds Try.pinned (OpenSpec.ofChange Rows.fnTwoSpec) :=
  OpenClaim.holds_of_wide 5 Try.f5 rfl rfl rfl rfl rfl rfl rfl ⟨rfl, rfl, rfl, rfl, rfl⟩ rfl rfl rfl rfl rfl (by kernel_rfl) Try.func5 (by kernel_rfl)
    (of_decide_eq_true (by kernel_rfl)) (by unfold Func.isWrapper; first | (rw [if_pos (by decide +kernel)]; kernel_rfl) | (rw [if_neg (by decide +kernel)]; exact ⟨rfl, rfl⟩))
    (fun os started H enc _ => lifted os started H enc)
end Go.Proofs.Ytmelbilepfnmjab.fnTwo
namespace Go.Proofs.Ytmelbilepfnmjab
/-- For all slices of bytes, laws.FnTwo returns true. -/
theorem fnTwo_holds : Rows.FnTwoSaid := fnTwo.over
end Go.Proofs.Ytmelbilepfnmjab
