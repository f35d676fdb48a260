/-
  Proved here: for all slices of bytes, laws.FnTopology returns true (what is advertised is all that there is of its source; other sources' edges stay) and leaves the slices as they were. No condition. (written by mkfntop.py)
-/
import Derived.Test.YtilphgfjgeoiaaaTpoM
import Derived.Test.YtilphgfjgeoiaaaTopQ
import Derived.Test.YtilphgfjgeoiaaaAdvUs
import Derived.Test.YtilphgfjgeoiaaaMt1
import Derived.Deep.DeepHandedRow
import Derived.Deep.QuietTactic
import Derived.BigQuiet
namespace Go.Proofs.Ytilphgfjgeoiaaa.fnTopology
open Go.ChangeShapes Go.WideShapes Go.ChangeAt Go.RowKit
open W1 By Tp
set_option linter.unusedVariables false
set_option linter.unusedSimpArgs false
attribute [local go_sem ↓] Go.wp_at_zero Go.wp_at_succ
theorem own : ownKnob Try.prog.godebug = none := by kernel_rfl
theorem laidOut : laidOutB Try.prog = true := by kernel_rfl
theorem below_dN {w : World} (q : Nat) : Below w.heap.size w (w.drewN q) := ⟨rfl, rfl, rfl, Nat.le_refl _, fun _ _ => rfl⟩
theorem wf_small {i : Int} (h1 : 0 ≤ i) (h2 : i ≤ 100) : (Lit.int .i64 i).wf = true := WalkArith.wf_i64 ⟨by omega, by omega⟩
set_option maxRecDepth 100000 in
set_option maxHeartbeats 16000000 in
theorem walk (a : Option Addr) (bs : List UInt8) (cap : Nat) (hm0 : bs.length ≤ maxLen) (a' : Option Addr) (bs' : List UInt8) (cap' : Nat) (hm0' : bs'.length ≤ maxLen) (w : World) (hr : Reads w a bs) (hr' : Reads w a' bs') :
    Calls Try.prog 3 #[.slice a bs.length cap, .slice a' bs'.length cap'] w fun e w' => e = .returned (.bool true) ∧ Below w.heap.size w w' := by
  unfold maxLen at hm0 hm0'
  by_cases hb : (1048576 : Int) < bs.length
  · go_enter Try.func3, Try.ntmps3
    go_wp2
    go_ret
    exact ⟨rfl, Below.refl _ _⟩
  by_cases hb' : (1048576 : Int) < bs'.length
  · go_enter Try.func3, Try.ntmps3
    go_wp2
    go_ret
    exact ⟨rfl, Below.refl _ _⟩
  have hbm : bs.length ≤ 1048576 := by omega
  have hbm' : bs'.length ≤ 1048576 := by omega
  have HR := hide hr
  have HR' := hide hr'
  clear hr hr'
  go_enter Try.func3, Try.ntmps3
  go_wp2_with fail
  refine (topologyOf a bs cap _ hbm (unhide HR)).mono ?_
  rintro e w1 ⟨v1, ss, es, g, c, h, d, rfl, rfl, hrs, hre, htop, hcc, b1⟩
  have HT := hide htop
  have h8 := src_len (top_src htop)
  have h62 := Tw.two_len (top_two htop)
  have HB1 := hide b1
  have RS1 := hide hrs
  have RE1 := hide hre
  clear b1 hrs hre htop
  obtain ⟨w2, hw2⟩ : ∃ w2, w1.alloc (.cells #[.slice (some ⟨g, 0, none⟩) ss.length c, .slice (some ⟨h, 0, none⟩) es.length d] 26) = w2 := ⟨_, rfl⟩
  have b2 : Below w1.heap.size w1 w2 := by rw [← hw2]; exact (Below.refl _ _).alloc (Nat.le_refl _) _
  have HB2 := hide ((unhide HB1).trans (b2.mono (unhide HB1).size))
  have RS2 := hide ((unhide RS1).below b2)
  have RE2 := hide ((unhide RE1).below b2)
  clear RS1 RE1
  have Q2 : Hid (Bx2 w2 w1.heap.size (.slice (some ⟨g, 0, none⟩) ss.length c) (.slice (some ⟨h, 0, none⟩) es.length d)) := hide (by rw [← hw2]; exact bx2_new _ _ _ _)
  have HW2 := hide hw2
  clear hw2 b2
  go_wp2_with fail
  rw [unhide HW2]
  refine (Av.tcOf a' bs' cap' _ hbm' (reads_und (unhide HR') (unhide HB2))).mono ?_
  rintro e w3 ⟨an, valid, ga, ns, cn, rfl, htc, hls, b3⟩
  have HB3 := hide ((unhide HB2).trans (b3.mono (unhide HB2).size))
  have RS3 := hide ((unhide RS2).below b3)
  have RE3 := hide ((unhide RE2).below b3)
  have Q3 := hide ((unhide Q2).below b3)
  clear RS2 RE2 Q2
  have HC := hide htc
  have hvl := Av.tc_valid htc
  have han := Av.tc_ansn htc
  have hnl := Av.tc_len htc
  have NS3 := hide hls.rm
  clear htc hls b3
  obtain ⟨w4, hw4⟩ : ∃ w4, w3.alloc (.cells #[.int .i64 an, .int .i64 valid, .slice ga ns.length cn] 30) = w4 := ⟨_, rfl⟩
  have b4 : Below w3.heap.size w3 w4 := by rw [← hw4]; exact (Below.refl _ _).alloc (Nat.le_refl _) _
  have HB4 := hide ((unhide HB3).trans (b4.mono (unhide HB3).size))
  have RS4 := hide ((unhide RS3).below b4)
  have RE4 := hide ((unhide RE3).below b4)
  have Q4 := hide ((unhide Q3).below b4)
  have NS4 := hide ((unhide NS3).below b4)
  clear RS3 RE3 Q3 NS3
  have X4 : Hid (Bx3 w4 w3.heap.size an valid (.slice ga ns.length cn)) := hide (by rw [← hw4]; exact bx3_new _ _ _ _ _)
  have HW4 := hide hw4
  clear hw4 b4
  go_wp2_with fail
  rw [unhide HW4]
  refine (At.choice a' bs' cap' 0 8 _ (by omega) (by omega) (by omega) hbm' (reads_und (unhide HR') (unhide HB4))).mono ?_
  rintro e w5 ⟨r1, rfl, hr1, q5, hq5⟩
  have b5 : Below w4.heap.size w4 w5 := by rw [hq5]; exact below_dN _
  clear hq5
  have HB5 := hide ((unhide HB4).trans (b5.mono (unhide HB4).size))
  have RS5 := hide ((unhide RS4).below b5)
  have RE5 := hide ((unhide RE4).below b5)
  have Q5 := hide ((unhide Q4).below b5)
  have NS5 := hide ((unhide NS4).below b5)
  have X5 := hide ((unhide X4).below b5)
  clear RS4 RE4 Q4 NS4 X4
  clear b5
  obtain ⟨frm, hfrm⟩ : ∃ frm : Int, 1 + (r1 : Int) = frm := ⟨_, rfl⟩
  have hf : 1 ≤ frm ∧ frm ≤ 8 := by omega
  have HFRM := hide hfrm
  go_wp2_with fail
  clear hfrm hr1
  refine (At.choice a' bs' cap' 1 20 _ (by omega) (by omega) (by omega) hbm' (reads_und (unhide HR') (unhide HB5))).mono ?_
  rintro e w6 ⟨r2, rfl, hr2, q6, hq6⟩
  have b6 : Below w5.heap.size w5 w6 := by rw [hq6]; exact below_dN _
  clear hq6
  have HB6 := hide ((unhide HB5).trans (b6.mono (unhide HB5).size))
  have RS6 := hide ((unhide RS5).below b6)
  have RE6 := hide ((unhide RE5).below b6)
  have Q6 := hide ((unhide Q5).below b6)
  have NS6 := hide ((unhide NS5).below b6)
  have X6 := hide ((unhide X5).below b6)
  clear RS5 RE5 Q5 NS5 X5
  clear b6
  obtain ⟨now, hnow⟩ : ∃ now : Int, (r2 : Int) = now := ⟨_, rfl⟩
  have hn : 0 ≤ now ∧ now ≤ 19 := by omega
  rw [hnow]
  clear hnow hr2
  obtain ⟨zQ0, zQ1⟩ := unhide Q6
  obtain ⟨zX0, zX1, zX2⟩ := unhide X6
  go_wp2_with fail
  clear zQ0 zQ1 zX0 zX1 zX2
  rcases hear_ways (unhide HT) (ns := ns) (an := an) (valid := valid) hf hn (unhide HC) with ⟨e1, e2, e3⟩ | ⟨e1, e2, e3, hhas, hnew⟩
  · obtain ⟨hT2, hoth, hown, hsrc, hsre⟩ := heard_all (unhide HT) hf hn (unhide HC)
    have HSR := hide hsrc
    have HSE := hide hsre
    have HOW := hide hown
    clear hsrc hsre hown
    generalize withS ss ⟨frm, an, now + valid⟩ = S at *
    generalize nowE es frm (now + valid) ns = E at *
    have HED : Hid (∀ i, i ≠ frm → edgA S E i = edgA ss es i) := hide hoth
    clear hoth
    have HT2 := hide hT2
    have k8 : S.length ≤ 8 := src_len (top_src hT2)
    have k62 : E.length ≤ 64 := by have := Tw.two_len (top_two hT2); omega
    have HTZ := hide (top_zero (unhide HT))
    have HTY := hide (top_zero hT2)
    clear hT2
    have HCD := hide e1
    have HSD := hide e2
    have HEE := hide e3
    clear e1 e2 e3
    refine (implHear g 0 ss c h 0 es d frm now an valid ga ns cn _ hcc (by omega) (by omega) (by omega) (unhide RS6) (unhide RE6) (unhide NS6)).mono ?_
    rintro e w7 ⟨v7, rfl, b7, l7⟩
    rw [unhide HSD, unhide HEE] at l7
    rw [unhide HCD]
    obtain ⟨vs7, ve7, mid7, rfl, ⟨as7, cs7, rfl, L7⟩, ⟨ae7, ce7, rfl, M7⟩, _, _⟩ := l7
    have HB7 := hide ((unhide HB6).trans (b7.mono (unhide HB6).size))
    have RS7 := hide ((unhide RS6).below b7)
    have RE7 := hide ((unhide RE6).below b7)
    have Q7 := hide ((unhide Q6).below b7)
    have NS7 := hide ((unhide NS6).below b7)
    have X7 := hide ((unhide X6).below b7)
    clear RS6 RE6 Q6 NS6 X6
    have YS7 := hide L7.rm
    have YE7 := hide M7.rm
    clear L7 M7 b7
    obtain ⟨w8, hw8⟩ : ∃ w8, w7.alloc (.cells #[.slice as7 S.length cs7, .slice ae7 E.length ce7] 26) = w8 := ⟨_, rfl⟩
    have b8 : Below w7.heap.size w7 w8 := by rw [← hw8]; exact (Below.refl _ _).alloc (Nat.le_refl _) _
    have HB8 := hide ((unhide HB7).trans (b8.mono (unhide HB7).size))
    have RS8 := hide ((unhide RS7).below b8)
    have RE8 := hide ((unhide RE7).below b8)
    have Q8 := hide ((unhide Q7).below b8)
    have NS8 := hide ((unhide NS7).below b8)
    have X8 := hide ((unhide X7).below b8)
    have YS8 := hide ((unhide YS7).below b8)
    have YE8 := hide ((unhide YE7).below b8)
    clear RS7 RE7 Q7 NS7 X7 YS7 YE7
    have Y8 : Hid (Bx2 w8 w7.heap.size (.slice as7 S.length cs7) (.slice ae7 E.length ce7)) := hide (by rw [← hw8]; exact bx2_new _ _ _ _)
    have HW8 := hide hw8
    clear hw8 b8
    obtain ⟨zQ0, zQ1⟩ := unhide Q8
    obtain ⟨zX0, zX1, zX2⟩ := unhide X8
    rw [← unhide HW8] at zQ0 zQ1 zX0 zX1 zX2
    go_wp2_with fail
    clear zQ0 zQ1 zX0 zX1 zX2
    rw [unhide HW8]
    refine (specHear g 0 ss c h 0 es d frm now an valid ga ns cn _ hcc (by omega) (by omega) (by omega) (unhide RS8) (unhide RE8) (unhide NS8)).mono ?_
    rintro e w9 ⟨v9, rfl, b9, l9⟩
    rw [unhide HSD, unhide HEE] at l9
    rw [unhide HCD]
    obtain ⟨vs9, ve9, mid9, rfl, ⟨as9, cs9, rfl, L9⟩, ⟨ae9, ce9, rfl, M9⟩, _, _⟩ := l9
    have HB9 := hide ((unhide HB8).trans (b9.mono (unhide HB8).size))
    have RS9 := hide ((unhide RS8).below b9)
    have RE9 := hide ((unhide RE8).below b9)
    have Q9 := hide ((unhide Q8).below b9)
    have NS9 := hide ((unhide NS8).below b9)
    have X9 := hide ((unhide X8).below b9)
    have YS9 := hide ((unhide YS8).below b9)
    have YE9 := hide ((unhide YE8).below b9)
    have Y9 := hide ((unhide Y8).below b9)
    clear RS8 RE8 Q8 NS8 X8 YS8 YE8 Y8
    have US9 := hide L9.rm
    have UE9 := hide M9.rm
    clear L9 M9 b9
    obtain ⟨w10, hw10⟩ : ∃ w10, w9.alloc (.cells #[.slice as9 S.length cs9, .slice ae9 E.length ce9] 26) = w10 := ⟨_, rfl⟩
    have b10 : Below w9.heap.size w9 w10 := by rw [← hw10]; exact (Below.refl _ _).alloc (Nat.le_refl _) _
    have HB10 := hide ((unhide HB9).trans (b10.mono (unhide HB9).size))
    have RS10 := hide ((unhide RS9).below b10)
    have RE10 := hide ((unhide RE9).below b10)
    have Q10 := hide ((unhide Q9).below b10)
    have NS10 := hide ((unhide NS9).below b10)
    have X10 := hide ((unhide X9).below b10)
    have YS10 := hide ((unhide YS9).below b10)
    have YE10 := hide ((unhide YE9).below b10)
    have Y10 := hide ((unhide Y9).below b10)
    have US10 := hide ((unhide US9).below b10)
    have UE10 := hide ((unhide UE9).below b10)
    clear RS9 RE9 Q9 NS9 X9 YS9 YE9 Y9 US9 UE9
    have U10 : Hid (Bx2 w10 w9.heap.size (.slice as9 S.length cs9) (.slice ae9 E.length ce9)) := hide (by rw [← hw10]; exact bx2_new _ _ _ _)
    have HW10 := hide hw10
    clear hw10 b10
    obtain ⟨zY0, zY1⟩ := unhide Y10
    obtain ⟨zU0, zU1⟩ := unhide U10
    rw [← unhide HW10] at zY0 zY1 zU0 zU1
    go_wp2_with fail
    clear zY0 zY1 zU0 zU1
    rw [unhide HW10]
    refine (sameTop _ _ _ _ S E _ _ _ _ _ (by omega) (by omega) (unhide YS10) (unhide YE10) (unhide US10) (unhide UE10)).mono ?_
    rintro e w11 ⟨rfl, b11⟩
    have HB11 := hide ((unhide HB10).trans (b11.mono (unhide HB10).size))
    have RS11 := hide ((unhide RS10).below b11)
    have RE11 := hide ((unhide RE10).below b11)
    have Q11 := hide ((unhide Q10).below b11)
    have NS11 := hide ((unhide NS10).below b11)
    have X11 := hide ((unhide X10).below b11)
    have YS11 := hide ((unhide YS10).below b11)
    have YE11 := hide ((unhide YE10).below b11)
    have Y11 := hide ((unhide Y10).below b11)
    have US11 := hide ((unhide US10).below b11)
    have UE11 := hide ((unhide UE10).below b11)
    have U11 := hide ((unhide U10).below b11)
    clear RS10 RE10 Q10 NS10 X10 YS10 YE10 Y10 US10 UE10 U10
    clear b11
    clear U11 US11 UE11
    obtain ⟨zY0, zY1⟩ := unhide Y11
    go_wp2_with fail
    clear zY0 zY1
    refine (implOK _ S _ _ E _ _ (by omega) (by omega) (unhide YS11) (unhide YE11)).mono ?_
    rintro e w12 ⟨rfl, b12⟩
    rw [unhide HT2]
    have HB12 := hide ((unhide HB11).trans (b12.mono (unhide HB11).size))
    have RS12 := hide ((unhide RS11).below b12)
    have RE12 := hide ((unhide RE11).below b12)
    have Q12 := hide ((unhide Q11).below b12)
    have NS12 := hide ((unhide NS11).below b12)
    have X12 := hide ((unhide X11).below b12)
    have YS12 := hide ((unhide YS11).below b12)
    have YE12 := hide ((unhide YE11).below b12)
    have Y12 := hide ((unhide Y11).below b12)
    clear RS11 RE11 Q11 NS11 X11 YS11 YE11 Y11
    clear b12
    go_wp2_with fail
    go_loopw [13] (fun i wr => ∃ j : Nat, 1 ≤ j ∧ j ≤ 9 ∧ i = .int .i64 j ∧ Hid (Below w12.heap.size w12 wr)) (fun i _ => 9 - (intOf i).toNat)
    case atStart => exact ⟨1, by omega, by omega, rfl, hide (Below.refl _ _)⟩
    case round =>
      obtain ⟨j, hj1, hj, rfl, hbl⟩ := hrel
      have HB1000 := hide ((unhide HB12).trans ((unhide hbl).mono (unhide HB12).size))
      have B1000 := hide (unhide hbl)
      have RS1000 := hide ((unhide RS12).below (unhide hbl))
      have RE1000 := hide ((unhide RE12).below (unhide hbl))
      have Q1000 := hide ((unhide Q12).below (unhide hbl))
      have NS1000 := hide ((unhide NS12).below (unhide hbl))
      have X1000 := hide ((unhide X12).below (unhide hbl))
      have YS1000 := hide ((unhide YS12).below (unhide hbl))
      have YE1000 := hide ((unhide YE12).below (unhide hbl))
      have Y1000 := hide ((unhide Y12).below (unhide hbl))
      by_cases hlt : (j : Int) ≤ 8
      · have hwf : (Lit.int .i64 (j : Int)).wf = true := wf_small (by omega) (by omega)
        have hol : (edgA ss es (j : Int)).length ≤ 1048576 := by have := edgA_len ss es (j : Int); omega
        by_cases hje : (j : Int) = frm
        · have hq : (((j : Int)) != frm) = false := by rw [hje]; simp
          clear hje
          obtain ⟨zQ0, zQ1⟩ := unhide Q1000
          go_wp2_with fail
          clear zQ0 zQ1
          refine (implEdges _ ss _ _ es _ (j : Int) hwf _ (by omega) (by omega) (unhide RS1000) (unhide RE1000)).mono ?_
          rintro e w1001 ⟨v1001, rfl, b1001, l1001⟩
          rw [unhide HTZ]
          obtain ⟨pa, pc, rfl, L1⟩ := l1001
          have BB1001 := hide ((unhide B1000).trans (b1001.mono (unhide B1000).size))
          have HB1001 := hide ((unhide HB1000).trans (b1001.mono (unhide HB1000).size))
          have RS1001 := hide ((unhide RS1000).below b1001)
          have RE1001 := hide ((unhide RE1000).below b1001)
          have Q1001 := hide ((unhide Q1000).below b1001)
          have NS1001 := hide ((unhide NS1000).below b1001)
          have X1001 := hide ((unhide X1000).below b1001)
          have YS1001 := hide ((unhide YS1000).below b1001)
          have YE1001 := hide ((unhide YE1000).below b1001)
          have Y1001 := hide ((unhide Y1000).below b1001)
          clear RS1000 RE1000 Q1000 NS1000 X1000 YS1000 YE1000 Y1000
          have PL1001 := hide L1.rm
          clear L1 b1001
          obtain ⟨zY0, zY1⟩ := unhide Y1001
          go_wp2_with fail
          clear zY0 zY1
          refine (implEdges _ S _ _ E _ (j : Int) hwf _ (by omega) (by omega) (unhide YS1001) (unhide YE1001)).mono ?_
          rintro e w1002 ⟨v1002, rfl, b1002, l1002⟩
          rw [unhide HTY]
          obtain ⟨qa, qc, rfl, L2⟩ := l1002
          have BB1002 := hide ((unhide BB1001).trans (b1002.mono (unhide BB1001).size))
          have HB1002 := hide ((unhide HB1001).trans (b1002.mono (unhide HB1001).size))
          have RS1002 := hide ((unhide RS1001).below b1002)
          have RE1002 := hide ((unhide RE1001).below b1002)
          have Q1002 := hide ((unhide Q1001).below b1002)
          have NS1002 := hide ((unhide NS1001).below b1002)
          have X1002 := hide ((unhide X1001).below b1002)
          have YS1002 := hide ((unhide YS1001).below b1002)
          have YE1002 := hide ((unhide YE1001).below b1002)
          have Y1002 := hide ((unhide Y1001).below b1002)
          have PL1002 := hide ((unhide PL1001).below b1002)
          clear RS1001 RE1001 Q1001 NS1001 X1001 YS1001 YE1001 Y1001 PL1001
          have QL1002 := hide L2.rm
          clear L2 b1002
          go_wp2_with fail
          go_roundw
          case rel => exact ⟨j + 1, by omega, by omega, by go_num, BB1002⟩
          case measure => simp [intOf]; omega
        · have hee := unhide HED (j : Int) hje
          have hq : (((j : Int)) != frm) = true := by simpa using hje
          have HEQ := hide hee
          clear hee hje
          obtain ⟨zQ0, zQ1⟩ := unhide Q1000
          go_wp2_with fail
          clear zQ0 zQ1
          refine (implEdges _ ss _ _ es _ (j : Int) hwf _ (by omega) (by omega) (unhide RS1000) (unhide RE1000)).mono ?_
          rintro e w1001 ⟨v1001, rfl, b1001, l1001⟩
          rw [unhide HTZ]
          obtain ⟨pa, pc, rfl, L1⟩ := l1001
          have BB1001 := hide ((unhide B1000).trans (b1001.mono (unhide B1000).size))
          have HB1001 := hide ((unhide HB1000).trans (b1001.mono (unhide HB1000).size))
          have RS1001 := hide ((unhide RS1000).below b1001)
          have RE1001 := hide ((unhide RE1000).below b1001)
          have Q1001 := hide ((unhide Q1000).below b1001)
          have NS1001 := hide ((unhide NS1000).below b1001)
          have X1001 := hide ((unhide X1000).below b1001)
          have YS1001 := hide ((unhide YS1000).below b1001)
          have YE1001 := hide ((unhide YE1000).below b1001)
          have Y1001 := hide ((unhide Y1000).below b1001)
          clear RS1000 RE1000 Q1000 NS1000 X1000 YS1000 YE1000 Y1000
          have PL1001 := hide L1.rm
          clear L1 b1001
          obtain ⟨zY0, zY1⟩ := unhide Y1001
          go_wp2_with fail
          clear zY0 zY1
          refine (implEdges _ S _ _ E _ (j : Int) hwf _ (by omega) (by omega) (unhide YS1001) (unhide YE1001)).mono ?_
          rintro e w1002 ⟨v1002, rfl, b1002, l1002⟩
          rw [unhide HEQ] at l1002
          rw [unhide HTY]
          obtain ⟨qa, qc, rfl, L2⟩ := l1002
          have BB1002 := hide ((unhide BB1001).trans (b1002.mono (unhide BB1001).size))
          have HB1002 := hide ((unhide HB1001).trans (b1002.mono (unhide HB1001).size))
          have RS1002 := hide ((unhide RS1001).below b1002)
          have RE1002 := hide ((unhide RE1001).below b1002)
          have Q1002 := hide ((unhide Q1001).below b1002)
          have NS1002 := hide ((unhide NS1001).below b1002)
          have X1002 := hide ((unhide X1001).below b1002)
          have YS1002 := hide ((unhide YS1001).below b1002)
          have YE1002 := hide ((unhide YE1001).below b1002)
          have Y1002 := hide ((unhide Y1001).below b1002)
          have PL1002 := hide ((unhide PL1001).below b1002)
          clear RS1001 RE1001 Q1001 NS1001 X1001 YS1001 YE1001 Y1001 PL1001
          have QL1002 := hide L2.rm
          clear L2 b1002
          go_wp2_with fail
          refine (Av.sameEdges _ _ (edgA ss es (j : Int)) _ _ _ hol (unhide PL1002) (unhide QL1002)).mono ?_
          rintro e w1003 ⟨rfl, q3, hq3⟩
          have b1003 : Below w1002.heap.size w1002 w1003 := by rw [hq3]; exact below_dN _
          clear hq3
          have BB1003 := hide ((unhide BB1002).trans (b1003.mono (unhide BB1002).size))
          clear b1003
          go_wp2_with fail
          go_roundw
          case rel => exact ⟨j + 1, by omega, by omega, by go_num, BB1003⟩
          case measure => simp [intOf]; omega
      · have HSV : Hid ((srcA S E frm).value = .agg #[.int .i64 frm, .int .i64 an, .int .i64 (now + valid)]) := hide (by rw [unhide HSR]; rfl)
        have hwf : (Lit.int .i64 frm).wf = true := wf_small (by omega) (by omega)
        obtain ⟨zY0, zY1⟩ := unhide Y1000
        go_wp2_with fail
        clear zY0 zY1
        refine (implSource _ S _ _ E _ frm _ (by omega) (by omega) (unhide YS1000) (unhide YE1000)).mono ?_
        rintro e w1001 ⟨rfl, b1001⟩
        rw [unhide HSE, unhide HSV]
        have HB1001 := hide ((unhide HB1000).trans (b1001.mono (unhide HB1000).size))
        have RS1001 := hide ((unhide RS1000).below b1001)
        have RE1001 := hide ((unhide RE1000).below b1001)
        have Q1001 := hide ((unhide Q1000).below b1001)
        have NS1001 := hide ((unhide NS1000).below b1001)
        have X1001 := hide ((unhide X1000).below b1001)
        have YS1001 := hide ((unhide YS1000).below b1001)
        have YE1001 := hide ((unhide YE1000).below b1001)
        have Y1001 := hide ((unhide Y1000).below b1001)
        clear RS1000 RE1000 Q1000 NS1000 X1000 YS1000 YE1000 Y1000
        clear b1001
        obtain ⟨w1002, hw1002⟩ : ∃ w1002, w1001.alloc (.cells #[.int .i64 frm, .int .i64 an, .int .i64 (now + valid)] 41) = w1002 := ⟨_, rfl⟩
        have b1002 : Below w1001.heap.size w1001 w1002 := by rw [← hw1002]; exact (Below.refl _ _).alloc (Nat.le_refl _) _
        have HB1002 := hide ((unhide HB1001).trans (b1002.mono (unhide HB1001).size))
        have RS1002 := hide ((unhide RS1001).below b1002)
        have RE1002 := hide ((unhide RE1001).below b1002)
        have Q1002 := hide ((unhide Q1001).below b1002)
        have NS1002 := hide ((unhide NS1001).below b1002)
        have X1002 := hide ((unhide X1001).below b1002)
        have YS1002 := hide ((unhide YS1001).below b1002)
        have YE1002 := hide ((unhide YE1001).below b1002)
        have Y1002 := hide ((unhide Y1001).below b1002)
        clear RS1001 RE1001 Q1001 NS1001 X1001 YS1001 YE1001 Y1001
        have Z1002 : Hid (Tp.Bx w1002 w1001.heap.size ⟨frm, an, now + valid⟩) := hide (by rw [← hw1002]; exact Tp.bx_new _ ⟨frm, an, now + valid⟩ _)
        have HW1002 := hide hw1002
        clear hw1002 b1002
        obtain ⟨zY0, zY1⟩ := unhide Y1002
        rw [← unhide HW1002] at zY0 zY1
        go_wp2_with fail
        clear zY0 zY1
        rw [unhide HW1002]
        refine (implEdges _ S _ _ E _ frm hwf _ (by omega) (by omega) (unhide YS1002) (unhide YE1002)).mono ?_
        rintro e w1003 ⟨v1003, rfl, b1003, l1003⟩
        rw [unhide HOW] at l1003
        rw [unhide HTY]
        obtain ⟨fa, fc, rfl, LF⟩ := l1003
        have HB1003 := hide ((unhide HB1002).trans (b1003.mono (unhide HB1002).size))
        have RS1003 := hide ((unhide RS1002).below b1003)
        have RE1003 := hide ((unhide RE1002).below b1003)
        have Q1003 := hide ((unhide Q1002).below b1003)
        have NS1003 := hide ((unhide NS1002).below b1003)
        have X1003 := hide ((unhide X1002).below b1003)
        have YS1003 := hide ((unhide YS1002).below b1003)
        have YE1003 := hide ((unhide YE1002).below b1003)
        have Y1003 := hide ((unhide Y1002).below b1003)
        have Z1003 := hide ((unhide Z1002).below b1003)
        clear RS1002 RE1002 Q1002 NS1002 X1002 YS1002 YE1002 Y1002 Z1002
        have FL1003 := hide LF.rm
        clear LF b1003
        have hn1 : (an != an) = false := by simp
        have hn2 : (now + valid != now + valid) = false := by simp
        have hfl : (ns.filter (neE frm)).length ≤ 8 := by have := List.length_filter_le (neE frm) ns; omega
        have HFA : Hid (∀ j, j < ns.length → neE frm (ns.getD j Ed.R.zero) = true → cntE frm ns j < (ns.filter (neE frm)).length ∧ (ns.filter (neE frm)).getD (cntE frm ns j) Ed.R.zero = ns.getD j Ed.R.zero) := hide (fun j hj hh => cntE_at hj hh)
        have HFE : Hid (cntE frm ns ns.length = (ns.filter (neE frm)).length) := hide cntE_end
        generalize ns.filter (neE frm) = F at *
        obtain ⟨zZ0, zZ1, zZ2⟩ := unhide Z1003
        obtain ⟨zX0, zX1, zX2⟩ := unhide X1003
        dsimp only at zZ0 zZ1 zZ2
        go_wp2_with fail
        clear zZ0 zZ1 zZ2 zX0 zX1 zX2
        go_loopw [26, 27] (fun n i wr => ∃ j : Nat, j ≤ ns.length ∧ i = .int .i64 j ∧ n = .int .i64 (cntE frm ns j : Nat) ∧ Hid (Below w1003.heap.size w1003 wr)) (fun n i _ => ns.length - (intOf i).toNat)
        case atStart => exact ⟨0, by omega, rfl, rfl, hide (Below.refl _ _)⟩
        case round =>
          obtain ⟨i, hi, rfl, rfl, hbl2⟩ := hrel
          have HB2000 := hide ((unhide HB1003).trans ((unhide hbl2).mono (unhide HB1003).size))
          have X2000 := hide ((unhide X1003).below (unhide hbl2))
          have NS2000 := hide ((unhide NS1003).below (unhide hbl2))
          have FL2000 := hide ((unhide FL1003).below (unhide hbl2))
          have HD : Hid (∀ m, Below w1003.heap.size w1003 (wr.drewN m)) := hide (fun m => (unhide hbl2).trans ((below_dN m).mono (unhide hbl2).size))
          have hcl := cntE_le (frm := frm) (ns := ns) i
          obtain ⟨zX0, zX1, zX2⟩ := unhide X2000
          by_cases hlt2 : (i : Int) < (ns.length : Int)
          · have k0 : (0 : Int) ≤ (i : Int) := by omega
            have hlen : i < ns.length := by omega
            obtain ⟨go, oo, hga⟩ := (unhide NS2000).form (by omega)
            have hAt := unhide NS2000
            rw [hga] at hAt zX2
            have hA := hAt.at hlen
            clear hAt hga
            have hyes := unhide HFA i hlen
            have hcy := cntE_yes (frm := frm) hlen
            have hcn := cntE_no (frm := frm) hlen
            generalize hm : ns.getD i Ed.R.zero = m at *
            obtain ⟨ad, mt⟩ := m
            obtain ⟨t0, t1⟩ := hA
            dsimp only at t0 t1
            clear hm
            have hne : neE frm ⟨ad, mt⟩ = !(ad == frm) := rfl
            rw [hne] at hyes hcy hcn
            clear hne
            obtain ⟨cc1, hcc1⟩ : ∃ cc, cntE frm ns (i + 1) = cc := ⟨_, rfl⟩
            obtain ⟨cc0, hcc0⟩ : ∃ cc, cntE frm ns i = cc := ⟨_, rfl⟩
            rw [hcc0, hcc1] at hcy
            rw [hcc0, hcc1] at hcn
            rw [hcc0] at hyes hcl ⊢
            have HC1 := hide hcc1
            clear hcc0 hcc1
            cases hq : (ad == frm)
            · rw [hq] at hyes hcy
              obtain ⟨hy1, hy2⟩ := hyes rfl
              have hc1 := hide (hcy rfl)
              clear hyes hcy hcn
              have hge : ¬ ((F.length : Int) ≤ (cc0 : Int)) := by omega
              have k1 : (0 : Int) ≤ (cc0 : Int) := by omega
              have k2 : (cc0 : Int) < (F.length : Int) := by omega
              obtain ⟨gf, of, hfa⟩ := (unhide FL2000).form (by omega)
              have hBt := unhide FL2000
              rw [hfa] at hBt
              have hB := hBt.at hy1
              rw [hy2] at hB
              obtain ⟨d0, d1⟩ := hB
              dsimp only at d0 d1
              clear hBt hy2
              subst hfa
              go_wp2_with fail
              go_quiet (fail)
              go_wp2_with fail
              go_roundw
              case rel => exact ⟨i + 1, by omega, by go_num, by rw [unhide HC1, unhide hc1]; go_num, hide (unhide HD _)⟩
              case measure => simp [intOf]; omega
            · rw [hq] at hcn
              have hc1 := hide (hcn rfl)
              clear hyes hcy hcn
              go_wp2_with fail
              go_roundw
              case rel => exact ⟨i + 1, by omega, by go_num, by rw [unhide HC1, unhide hc1], hbl2⟩
              case measure => simp [intOf]; omega
          · obtain rfl : i = ns.length := by omega
            have hen := unhide HFE
            rw [hen]
            have hee : ((F.length : Int) == (F.length : Int)) = true := by simp
            clear hen
            go_wp2_with fail
            go_ret
            exact ⟨rfl, unhide HB2000⟩
  · obtain ⟨hsA, hsE, hs1, hs2⟩ := stale_all (an := an) (unhide HT) hhas
    have HSA := hide hsA
    have HSE := hide hsE
    clear hsA hsE
    have hT2 := unhide HT
    have HST := hide (And.intro e2 e3)
    obtain ⟨S, hS⟩ : ∃ S, ss = S := ⟨_, rfl⟩
    obtain ⟨E, hE⟩ : ∃ E, es = E := ⟨_, rfl⟩
    replace e2 := e2.trans hS
    replace e3 := e3.trans hE
    rw [hS, hE] at hT2
    have HSS := hide (And.intro hS hE)
    clear hS hE
    have HT2 := hide hT2
    have k8 : S.length ≤ 8 := src_len (top_src hT2)
    have k62 : E.length ≤ 64 := by have := Tw.two_len (top_two hT2); omega
    have HTZ := hide (top_zero (unhide HT))
    have HTY := hide (top_zero hT2)
    clear hT2
    have HCD := hide e1
    have HSD := hide e2
    have HEE := hide e3
    clear e1 e2 e3
    refine (implHear g 0 ss c h 0 es d frm now an valid ga ns cn _ hcc (by omega) (by omega) (by omega) (unhide RS6) (unhide RE6) (unhide NS6)).mono ?_
    rintro e w7 ⟨v7, rfl, b7, l7⟩
    rw [unhide HSD, unhide HEE] at l7
    rw [unhide HCD]
    obtain ⟨vs7, ve7, mid7, rfl, ⟨as7, cs7, rfl, L7⟩, ⟨ae7, ce7, rfl, M7⟩, _, _⟩ := l7
    have HB7 := hide ((unhide HB6).trans (b7.mono (unhide HB6).size))
    have RS7 := hide ((unhide RS6).below b7)
    have RE7 := hide ((unhide RE6).below b7)
    have Q7 := hide ((unhide Q6).below b7)
    have NS7 := hide ((unhide NS6).below b7)
    have X7 := hide ((unhide X6).below b7)
    clear RS6 RE6 Q6 NS6 X6
    have YS7 := hide L7.rm
    have YE7 := hide M7.rm
    clear L7 M7 b7
    obtain ⟨w8, hw8⟩ : ∃ w8, w7.alloc (.cells #[.slice as7 S.length cs7, .slice ae7 E.length ce7] 26) = w8 := ⟨_, rfl⟩
    have b8 : Below w7.heap.size w7 w8 := by rw [← hw8]; exact (Below.refl _ _).alloc (Nat.le_refl _) _
    have HB8 := hide ((unhide HB7).trans (b8.mono (unhide HB7).size))
    have RS8 := hide ((unhide RS7).below b8)
    have RE8 := hide ((unhide RE7).below b8)
    have Q8 := hide ((unhide Q7).below b8)
    have NS8 := hide ((unhide NS7).below b8)
    have X8 := hide ((unhide X7).below b8)
    have YS8 := hide ((unhide YS7).below b8)
    have YE8 := hide ((unhide YE7).below b8)
    clear RS7 RE7 Q7 NS7 X7 YS7 YE7
    have Y8 : Hid (Bx2 w8 w7.heap.size (.slice as7 S.length cs7) (.slice ae7 E.length ce7)) := hide (by rw [← hw8]; exact bx2_new _ _ _ _)
    have HW8 := hide hw8
    clear hw8 b8
    obtain ⟨zQ0, zQ1⟩ := unhide Q8
    obtain ⟨zX0, zX1, zX2⟩ := unhide X8
    rw [← unhide HW8] at zQ0 zQ1 zX0 zX1 zX2
    go_wp2_with fail
    clear zQ0 zQ1 zX0 zX1 zX2
    rw [unhide HW8]
    refine (specHear g 0 ss c h 0 es d frm now an valid ga ns cn _ hcc (by omega) (by omega) (by omega) (unhide RS8) (unhide RE8) (unhide NS8)).mono ?_
    rintro e w9 ⟨v9, rfl, b9, l9⟩
    rw [unhide HSD, unhide HEE] at l9
    rw [unhide HCD]
    obtain ⟨vs9, ve9, mid9, rfl, ⟨as9, cs9, rfl, L9⟩, ⟨ae9, ce9, rfl, M9⟩, _, _⟩ := l9
    have HB9 := hide ((unhide HB8).trans (b9.mono (unhide HB8).size))
    have RS9 := hide ((unhide RS8).below b9)
    have RE9 := hide ((unhide RE8).below b9)
    have Q9 := hide ((unhide Q8).below b9)
    have NS9 := hide ((unhide NS8).below b9)
    have X9 := hide ((unhide X8).below b9)
    have YS9 := hide ((unhide YS8).below b9)
    have YE9 := hide ((unhide YE8).below b9)
    have Y9 := hide ((unhide Y8).below b9)
    clear RS8 RE8 Q8 NS8 X8 YS8 YE8 Y8
    have US9 := hide L9.rm
    have UE9 := hide M9.rm
    clear L9 M9 b9
    obtain ⟨w10, hw10⟩ : ∃ w10, w9.alloc (.cells #[.slice as9 S.length cs9, .slice ae9 E.length ce9] 26) = w10 := ⟨_, rfl⟩
    have b10 : Below w9.heap.size w9 w10 := by rw [← hw10]; exact (Below.refl _ _).alloc (Nat.le_refl _) _
    have HB10 := hide ((unhide HB9).trans (b10.mono (unhide HB9).size))
    have RS10 := hide ((unhide RS9).below b10)
    have RE10 := hide ((unhide RE9).below b10)
    have Q10 := hide ((unhide Q9).below b10)
    have NS10 := hide ((unhide NS9).below b10)
    have X10 := hide ((unhide X9).below b10)
    have YS10 := hide ((unhide YS9).below b10)
    have YE10 := hide ((unhide YE9).below b10)
    have Y10 := hide ((unhide Y9).below b10)
    have US10 := hide ((unhide US9).below b10)
    have UE10 := hide ((unhide UE9).below b10)
    clear RS9 RE9 Q9 NS9 X9 YS9 YE9 Y9 US9 UE9
    have U10 : Hid (Bx2 w10 w9.heap.size (.slice as9 S.length cs9) (.slice ae9 E.length ce9)) := hide (by rw [← hw10]; exact bx2_new _ _ _ _)
    have HW10 := hide hw10
    clear hw10 b10
    obtain ⟨zY0, zY1⟩ := unhide Y10
    obtain ⟨zU0, zU1⟩ := unhide U10
    rw [← unhide HW10] at zY0 zY1 zU0 zU1
    go_wp2_with fail
    clear zY0 zY1 zU0 zU1
    rw [unhide HW10]
    refine (sameTop _ _ _ _ S E _ _ _ _ _ (by omega) (by omega) (unhide YS10) (unhide YE10) (unhide US10) (unhide UE10)).mono ?_
    rintro e w11 ⟨rfl, b11⟩
    have HB11 := hide ((unhide HB10).trans (b11.mono (unhide HB10).size))
    have RS11 := hide ((unhide RS10).below b11)
    have RE11 := hide ((unhide RE10).below b11)
    have Q11 := hide ((unhide Q10).below b11)
    have NS11 := hide ((unhide NS10).below b11)
    have X11 := hide ((unhide X10).below b11)
    have YS11 := hide ((unhide YS10).below b11)
    have YE11 := hide ((unhide YE10).below b11)
    have Y11 := hide ((unhide Y10).below b11)
    have US11 := hide ((unhide US10).below b11)
    have UE11 := hide ((unhide UE10).below b11)
    have U11 := hide ((unhide U10).below b11)
    clear RS10 RE10 Q10 NS10 X10 YS10 YE10 Y10 US10 UE10 U10
    clear b11
    clear U11 US11 UE11
    obtain ⟨zY0, zY1⟩ := unhide Y11
    go_wp2_with fail
    clear zY0 zY1
    refine (implOK _ S _ _ E _ _ (by omega) (by omega) (unhide YS11) (unhide YE11)).mono ?_
    rintro e w12 ⟨rfl, b12⟩
    rw [unhide HT2]
    have HB12 := hide ((unhide HB11).trans (b12.mono (unhide HB11).size))
    have RS12 := hide ((unhide RS11).below b12)
    have RE12 := hide ((unhide RE11).below b12)
    have Q12 := hide ((unhide Q11).below b12)
    have NS12 := hide ((unhide NS11).below b12)
    have X12 := hide ((unhide X11).below b12)
    have YS12 := hide ((unhide YS11).below b12)
    have YE12 := hide ((unhide YE11).below b12)
    have Y12 := hide ((unhide Y11).below b12)
    clear RS11 RE11 Q11 NS11 X11 YS11 YE11 Y11
    clear b12
    go_wp2_with fail
    go_loopw [13] (fun i wr => ∃ j : Nat, 1 ≤ j ∧ j ≤ 9 ∧ i = .int .i64 j ∧ Hid (Below w12.heap.size w12 wr)) (fun i _ => 9 - (intOf i).toNat)
    case atStart => exact ⟨1, by omega, by omega, rfl, hide (Below.refl _ _)⟩
    case round =>
      obtain ⟨j, hj1, hj, rfl, hbl⟩ := hrel
      have HB1000 := hide ((unhide HB12).trans ((unhide hbl).mono (unhide HB12).size))
      have B1000 := hide (unhide hbl)
      have RS1000 := hide ((unhide RS12).below (unhide hbl))
      have RE1000 := hide ((unhide RE12).below (unhide hbl))
      have Q1000 := hide ((unhide Q12).below (unhide hbl))
      have NS1000 := hide ((unhide NS12).below (unhide hbl))
      have X1000 := hide ((unhide X12).below (unhide hbl))
      have YS1000 := hide ((unhide YS12).below (unhide hbl))
      have YE1000 := hide ((unhide YE12).below (unhide hbl))
      have Y1000 := hide ((unhide Y12).below (unhide hbl))
      by_cases hlt : (j : Int) ≤ 8
      · have hwf : (Lit.int .i64 (j : Int)).wf = true := wf_small (by omega) (by omega)
        have hol : (edgA ss es (j : Int)).length ≤ 1048576 := by have := edgA_len ss es (j : Int); omega
        by_cases hje : (j : Int) = frm
        · have hee : edgA S E (j : Int) = edgA ss es (j : Int) := by rw [← (unhide HSS).1, ← (unhide HSS).2]
          have hq : (((j : Int)) != frm) = false := by rw [hje]; simp
          have HEQ := hide hee
          clear hee hje
          obtain ⟨zQ0, zQ1⟩ := unhide Q1000
          go_wp2_with fail
          clear zQ0 zQ1
          refine (implEdges _ ss _ _ es _ (j : Int) hwf _ (by omega) (by omega) (unhide RS1000) (unhide RE1000)).mono ?_
          rintro e w1001 ⟨v1001, rfl, b1001, l1001⟩
          rw [unhide HTZ]
          obtain ⟨pa, pc, rfl, L1⟩ := l1001
          have BB1001 := hide ((unhide B1000).trans (b1001.mono (unhide B1000).size))
          have HB1001 := hide ((unhide HB1000).trans (b1001.mono (unhide HB1000).size))
          have RS1001 := hide ((unhide RS1000).below b1001)
          have RE1001 := hide ((unhide RE1000).below b1001)
          have Q1001 := hide ((unhide Q1000).below b1001)
          have NS1001 := hide ((unhide NS1000).below b1001)
          have X1001 := hide ((unhide X1000).below b1001)
          have YS1001 := hide ((unhide YS1000).below b1001)
          have YE1001 := hide ((unhide YE1000).below b1001)
          have Y1001 := hide ((unhide Y1000).below b1001)
          clear RS1000 RE1000 Q1000 NS1000 X1000 YS1000 YE1000 Y1000
          have PL1001 := hide L1.rm
          clear L1 b1001
          obtain ⟨zY0, zY1⟩ := unhide Y1001
          go_wp2_with fail
          clear zY0 zY1
          refine (implEdges _ S _ _ E _ (j : Int) hwf _ (by omega) (by omega) (unhide YS1001) (unhide YE1001)).mono ?_
          rintro e w1002 ⟨v1002, rfl, b1002, l1002⟩
          rw [unhide HEQ] at l1002
          rw [unhide HTY]
          obtain ⟨qa, qc, rfl, L2⟩ := l1002
          have BB1002 := hide ((unhide BB1001).trans (b1002.mono (unhide BB1001).size))
          have HB1002 := hide ((unhide HB1001).trans (b1002.mono (unhide HB1001).size))
          have RS1002 := hide ((unhide RS1001).below b1002)
          have RE1002 := hide ((unhide RE1001).below b1002)
          have Q1002 := hide ((unhide Q1001).below b1002)
          have NS1002 := hide ((unhide NS1001).below b1002)
          have X1002 := hide ((unhide X1001).below b1002)
          have YS1002 := hide ((unhide YS1001).below b1002)
          have YE1002 := hide ((unhide YE1001).below b1002)
          have Y1002 := hide ((unhide Y1001).below b1002)
          have PL1002 := hide ((unhide PL1001).below b1002)
          clear RS1001 RE1001 Q1001 NS1001 X1001 YS1001 YE1001 Y1001 PL1001
          have QL1002 := hide L2.rm
          clear L2 b1002
          go_wp2_with fail
          refine (Av.sameEdges _ _ (edgA ss es (j : Int)) _ _ _ hol (unhide PL1002) (unhide QL1002)).mono ?_
          rintro e w1003 ⟨rfl, q3, hq3⟩
          have b1003 : Below w1002.heap.size w1002 w1003 := by rw [hq3]; exact below_dN _
          clear hq3
          have BB1003 := hide ((unhide BB1002).trans (b1003.mono (unhide BB1002).size))
          clear b1003
          go_wp2_with fail
          go_roundw
          case rel => exact ⟨j + 1, by omega, by omega, by go_num, BB1003⟩
          case measure => simp [intOf]; omega
        · have hee : edgA S E (j : Int) = edgA ss es (j : Int) := by rw [← (unhide HSS).1, ← (unhide HSS).2]
          have hq : (((j : Int)) != frm) = true := by simpa using hje
          have HEQ := hide hee
          clear hee hje
          obtain ⟨zQ0, zQ1⟩ := unhide Q1000
          go_wp2_with fail
          clear zQ0 zQ1
          refine (implEdges _ ss _ _ es _ (j : Int) hwf _ (by omega) (by omega) (unhide RS1000) (unhide RE1000)).mono ?_
          rintro e w1001 ⟨v1001, rfl, b1001, l1001⟩
          rw [unhide HTZ]
          obtain ⟨pa, pc, rfl, L1⟩ := l1001
          have BB1001 := hide ((unhide B1000).trans (b1001.mono (unhide B1000).size))
          have HB1001 := hide ((unhide HB1000).trans (b1001.mono (unhide HB1000).size))
          have RS1001 := hide ((unhide RS1000).below b1001)
          have RE1001 := hide ((unhide RE1000).below b1001)
          have Q1001 := hide ((unhide Q1000).below b1001)
          have NS1001 := hide ((unhide NS1000).below b1001)
          have X1001 := hide ((unhide X1000).below b1001)
          have YS1001 := hide ((unhide YS1000).below b1001)
          have YE1001 := hide ((unhide YE1000).below b1001)
          have Y1001 := hide ((unhide Y1000).below b1001)
          clear RS1000 RE1000 Q1000 NS1000 X1000 YS1000 YE1000 Y1000
          have PL1001 := hide L1.rm
          clear L1 b1001
          obtain ⟨zY0, zY1⟩ := unhide Y1001
          go_wp2_with fail
          clear zY0 zY1
          refine (implEdges _ S _ _ E _ (j : Int) hwf _ (by omega) (by omega) (unhide YS1001) (unhide YE1001)).mono ?_
          rintro e w1002 ⟨v1002, rfl, b1002, l1002⟩
          rw [unhide HEQ] at l1002
          rw [unhide HTY]
          obtain ⟨qa, qc, rfl, L2⟩ := l1002
          have BB1002 := hide ((unhide BB1001).trans (b1002.mono (unhide BB1001).size))
          have HB1002 := hide ((unhide HB1001).trans (b1002.mono (unhide HB1001).size))
          have RS1002 := hide ((unhide RS1001).below b1002)
          have RE1002 := hide ((unhide RE1001).below b1002)
          have Q1002 := hide ((unhide Q1001).below b1002)
          have NS1002 := hide ((unhide NS1001).below b1002)
          have X1002 := hide ((unhide X1001).below b1002)
          have YS1002 := hide ((unhide YS1001).below b1002)
          have YE1002 := hide ((unhide YE1001).below b1002)
          have Y1002 := hide ((unhide Y1001).below b1002)
          have PL1002 := hide ((unhide PL1001).below b1002)
          clear RS1001 RE1001 Q1001 NS1001 X1001 YS1001 YE1001 Y1001 PL1001
          have QL1002 := hide L2.rm
          clear L2 b1002
          go_wp2_with fail
          refine (Av.sameEdges _ _ (edgA ss es (j : Int)) _ _ _ hol (unhide PL1002) (unhide QL1002)).mono ?_
          rintro e w1003 ⟨rfl, q3, hq3⟩
          have b1003 : Below w1002.heap.size w1002 w1003 := by rw [hq3]; exact below_dN _
          clear hq3
          have BB1003 := hide ((unhide BB1002).trans (b1003.mono (unhide BB1002).size))
          clear b1003
          go_wp2_with fail
          go_roundw
          case rel => exact ⟨j + 1, by omega, by omega, by go_num, BB1003⟩
          case measure => simp [intOf]; omega
      · obtain ⟨s0, s1, s2, hss⟩ : ∃ s0 s1 s2, fS ss frm = ⟨s0, s1, s2⟩ := ⟨_, _, _, rfl⟩
        rw [hss] at hs1 hs2 hnew
        dsimp only at hs1 hs2 hnew
        have HSV : Hid ((srcA ss es frm).value = .agg #[.int .i64 s0, .int .i64 s1, .int .i64 s2]) := hide (by rw [unhide HSA, hss]; rfl)
        clear hss
        have hi1 : inB s1 0 65535 = true := by unfold inB; simp; omega
        have hi2 : inB an 0 65535 = true := by unfold inB; simp; omega
        have KN := hide (fun W => Mtr.implNewer s1 an W)
        rw [hi1, hi2, hnew] at KN
        clear hi1 hi2 hnew
        obtain ⟨zQ0, zQ1⟩ := unhide Q1000
        go_wp2_with fail
        clear zQ0 zQ1
        refine (implSource _ ss _ _ es _ frm _ (by omega) (by omega) (unhide RS1000) (unhide RE1000)).mono ?_
        rintro e w1001 ⟨rfl, b1001⟩
        rw [unhide HSE, unhide HSV]
        have HB1001 := hide ((unhide HB1000).trans (b1001.mono (unhide HB1000).size))
        have RS1001 := hide ((unhide RS1000).below b1001)
        have RE1001 := hide ((unhide RE1000).below b1001)
        have Q1001 := hide ((unhide Q1000).below b1001)
        have NS1001 := hide ((unhide NS1000).below b1001)
        have X1001 := hide ((unhide X1000).below b1001)
        have YS1001 := hide ((unhide YS1000).below b1001)
        have YE1001 := hide ((unhide YE1000).below b1001)
        have Y1001 := hide ((unhide Y1000).below b1001)
        clear RS1000 RE1000 Q1000 NS1000 X1000 YS1000 YE1000 Y1000
        clear b1001
        obtain ⟨w1002, hw1002⟩ : ∃ w1002, w1001.alloc (.cells #[.int .i64 s0, .int .i64 s1, .int .i64 s2] 41) = w1002 := ⟨_, rfl⟩
        have b1002 : Below w1001.heap.size w1001 w1002 := by rw [← hw1002]; exact (Below.refl _ _).alloc (Nat.le_refl _) _
        have HB1002 := hide ((unhide HB1001).trans (b1002.mono (unhide HB1001).size))
        have RS1002 := hide ((unhide RS1001).below b1002)
        have RE1002 := hide ((unhide RE1001).below b1002)
        have Q1002 := hide ((unhide Q1001).below b1002)
        have NS1002 := hide ((unhide NS1001).below b1002)
        have X1002 := hide ((unhide X1001).below b1002)
        have YS1002 := hide ((unhide YS1001).below b1002)
        have YE1002 := hide ((unhide YE1001).below b1002)
        have Y1002 := hide ((unhide Y1001).below b1002)
        clear RS1001 RE1001 Q1001 NS1001 X1001 YS1001 YE1001 Y1001
        have Z1002 : Hid (Tp.Bx w1002 w1001.heap.size ⟨s0, s1, s2⟩) := hide (by rw [← hw1002]; exact Tp.bx_new _ ⟨s0, s1, s2⟩ _)
        have HW1002 := hide hw1002
        clear hw1002 b1002
        obtain ⟨zZ0, zZ1, zZ2⟩ := unhide Z1002
        obtain ⟨zX0, zX1, zX2⟩ := unhide X1002
        dsimp only at zZ0 zZ1 zZ2
        rw [← unhide HW1002] at zZ0 zZ1 zZ2 zX0 zX1 zX2
        go_wp2_with fail
        clear zZ0 zZ1 zZ2 zX0 zX1 zX2
        rw [unhide HW1002]
        refine (unhide KN _).mono ?_
        rintro e wk ⟨rfl, hwk⟩
        rw [hwk]
        clear hwk wk
        obtain ⟨zY0, zY1⟩ := unhide Y1002
        obtain ⟨zQ0, zQ1⟩ := unhide Q1002
        go_wp2_with fail
        clear zY0 zY1 zQ0 zQ1
        have RS9 : Hid (So.RM w1002 (some ⟨g, 0, none⟩) S) := hide (by rw [← (unhide HSS).1]; exact unhide RS1002)
        have RE9 : Hid (Tu.RM w1002 (some ⟨h, 0, none⟩) E) := hide (by rw [← (unhide HSS).2]; exact unhide RE1002)
        have hL1 : ss.length = S.length := by rw [(unhide HSS).1]
        have hL2 : es.length = E.length := by rw [(unhide HSS).2]
        rw [hL1, hL2]
        refine (sameTop _ _ _ _ S E _ _ _ _ _ (by omega) (by omega) (unhide YS1002) (unhide YE1002) (unhide RS9) (unhide RE9)).mono ?_
        rintro e w1003 ⟨rfl, b1003⟩
        have HBF := hide ((unhide HB1002).trans (b1003.mono (unhide HB1002).size))
        clear b1003
        clear hL1 hL2
        go_wp2_with fail
        go_ret
        exact ⟨rfl, unhide HBF⟩

set_option maxRecDepth 100000 in
theorem lifted (os : Os) (started : os.Started) (H : Type) (enc : TypeId × Value → H) :
    ReturnsInHanded {} Try.checked os 3 .any (Rows.fnTopologySpec.pre6 enc Try.prog Try.f3 Rows.fnTopologyRow.domain false) (Rows.fnTopologySpec.post enc Try.prog Try.f3 false true false false) := by
  refine returnsInHanded_of_change (C := Try.checked) own started (by kernel_rfl) Try.func3
    (ChangeSpec.witness6 (enc := enc) (C := Try.checked) false ⟨#[], #[.slice none 0 0, .slice none 0 0], []⟩ 8 (by kernel_rfl) (by kernel_rfl) (by kernel_rfl) (by kernel_rfl)) ?_
  intro W base args ds gs before hval0 hW hcnd _
  have hval : ∀ (j : Nat) t v, Try.f3.params[j]? = some t → args[j]? = some v → Value.okWide Try.prog W .any base t v := hval0
  have hW' := hW
  obtain ⟨p, q, hA0, hV, rfl, hfz, hnd⟩ := hW
  have hA : DataW.TrodAll enc Try.prog W 0 (fun _ => true) true Try.f3.params.toList args.toList ds p := hA0
  rw [Try.params3] at hA hval
  obtain ⟨v0, vs0, d0, ds0, p0, q0, hargs0, rfl, rfl, h0, r0⟩ := trodAll_cons hA
  obtain ⟨v1, vs1, d1, ds1, p1, q1, hargs1, rfl, rfl, h1, r1⟩ := trodAll_cons r0
  obtain ⟨rfl, rfl, rfl⟩ := trodAll_nil r1
  obtain rfl : args = #[v0, v1] := by cases args; simp_all
  obtain ⟨rfl, rfl⟩ := trodVars_none hV
  have k0 := h0
  have lt0 : ∀ x ∈ p0, x.block < W.heap.size := by obtain ⟨m, hm⟩ := k0; exact DataW.trod_lt m _ _ _ hm
  have k1 := h1
  have lt1 : ∀ x ∈ p1, x.block < W.heap.size := by obtain ⟨m, hm⟩ := k1; exact DataW.trod_lt m _ _ _ hm
  obtain ⟨a0, len0, cap0, rfl⟩ := okWide_slice Try.underlying22 (hval 0 22 v0 rfl rfl)
  obtain ⟨bs0, hlen0, hmx0, hrd0⟩ := Op.open_bytes h0
  subst hlen0
  obtain ⟨a1, len1, cap1, rfl⟩ := okWide_slice Try.underlying22 (hval 1 22 v1 rfl rfl)
  obtain ⟨bs1, hlen1, hmx1, hrd1⟩ := Op.open_bytes h1
  subst hlen1
  clear hA0 hval0
  refine (walk a0 bs0 cap0 hmx0 a1 bs1 cap1 hmx1 W hrd0 hrd1).mono fun e W' ⟨he, bel⟩ => ?_
  subst he
  exact ⟨_, rfl, _, _, _, [], _, [], hW', trodAll_mk1 (shut_bool Try.underlying4 _), (trodAll_cons_mk (Below.trod laidOut (by kernel_rfl) (of_decide_eq_true (by kernel_rfl)) k0 bel lt0) (trodAll_cons_mk (Below.trod laidOut (by kernel_rfl) (of_decide_eq_true (by kernel_rfl)) k1 bel lt1) trodAll_mk0)), rfl, bel.frame _, fun h => by cases h⟩

theorem over : Rows.fnTopologyRow.holds Try.pinned (OpenSpec.ofChange Rows.fnTopologySpec) :=
  OpenClaim.holds_of_wide 3 Try.f3 rfl rfl rfl rfl rfl rfl rfl ⟨rfl, rfl, rfl, rfl, rfl⟩ rfl rfl rfl rfl rfl (by kernel_rfl) Try.func3 (by kernel_rfl)
    (of_decide_eq_true (by kernel_rfl)) (by unfold Func.isWrapper; first | (rw [if_pos (by decide +kernel)]; kernel_rfl) | (rw [if_neg (by decide +kernel)]; exact ⟨rfl, rfl⟩))
    (fun os started H enc _ => lifted os started H enc)
end Go.Proofs.Ytilphgfjgeoiaaa.fnTopology
namespace Go.Proofs.Ytilphgfjgeoiaaa
/-- What is advertised is all that there is of its source; other sources' edges stay. -/
theorem fnTopology_holds : Rows.FnTopologySaid := fnTopology.over
end Go.Proofs.Ytilphgfjgeoiaaa
