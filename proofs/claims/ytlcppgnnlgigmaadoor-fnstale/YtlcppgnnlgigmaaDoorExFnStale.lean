/-
  Proved here: for all slices of bytes, laws.FnStale returns true (a source goes at its time with all its edges; what is told of a topology is as the document says) and leaves the slices as they were. No condition but the table that the card ties to the library's text.
-/
import Derived.Test.YtlcppgnnlgigmaaDoorMs5
import Derived.Test.YtlcppgnnlgigmaaDoorAt
import Derived.Test.YtlcppgnnlgigmaaDoorCards
import Derived.Test.YtlcppgnnlgigmaaDoorTie
import Derived.OpenVars
import Derived.Deep.DeepHandedRow
import Derived.Lib.LaidTab
namespace Go.Proofs.YtlcppgnnlgigmaaDoor.fnStale
open Go.ChangeShapes Go.WideShapes Go.ChangeAt Go.RowKit
open W1 By Tp
set_option linter.unusedVariables false
set_option linter.unusedSimpArgs false
attribute [local go_sem ↓] Go.wp_at_zero Go.wp_at_succ
theorem own : ownKnob Tryd.prog.godebug = none := by kernel_rfl
theorem laidOut : laidOutB Tryd.prog = true := by kernel_rfl
abbrev TabP (w : World) : Prop := Tp.TabP w
theorem below_dN {w : World} (q : Nat) : Below w.heap.size w (w.drewN q) := ⟨rfl, rfl, rfl, Nat.le_refl _, fun _ _ => rfl⟩
theorem sSt {w : World} {b c g o : Nat} {x y x2 y2 : Value} {ad an til : Int} (h : Bx2 w b x y) (h2 : Bx2 w c x2 y2) (h3 : So.At w g o ⟨ad, an, til⟩) :
    (Bx2 w b x y ∧ Bx2 w c x2 y2 ∧ So.At w g o ⟨ad, an, til⟩) ∧ (w.cell? ⟨b, 0, none⟩ = some x ∧ w.cell? ⟨b, 1, none⟩ = some y) ∧ (w.cell? ⟨c, 0, none⟩ = some x2 ∧ w.cell? ⟨c, 1, none⟩ = some y2) ∧ w.cell? ⟨g, o, none⟩ = some (.int .i64 ad) := ⟨⟨h, h2, h3⟩, h, h2, h3.1⟩
set_option maxRecDepth 100000 in
set_option maxHeartbeats 8000000 in
theorem walk (a : Option Addr) (bs : List UInt8) (cap : Nat) (hm0 : bs.length ≤ maxLen) (a' : Option Addr) (bs' : List UInt8) (cap' : Nat) (hm0' : bs'.length ≤ maxLen) (w : World) (hr : Reads w a bs) (hr' : Reads w a' bs') (hp : TabP w) :
    Calls Tryd.prog 3 #[.slice a bs.length cap, .slice a' bs'.length cap'] w fun e w' => e = .returned (.bool true) ∧ Below w.heap.size w w' := by
  unfold maxLen at hm0 hm0'
  by_cases hb : (1048576 : Int) < bs.length
  · go_enter Tryd.func3, Tryd.ntmps3
    go_wp2
    go_ret
    exact ⟨rfl, Below.refl _ _⟩
  by_cases hb' : (1048576 : Int) < bs'.length
  · go_enter Tryd.func3, Tryd.ntmps3
    go_wp2
    go_ret
    exact ⟨rfl, Below.refl _ _⟩
  have hbm : bs.length ≤ 1048576 := by omega
  have hbm' : bs'.length ≤ 1048576 := by omega
  have HTP := hide (Lib.tabBelow_of_tabIs hp)
  have HR := hide hr
  have HR' := hide hr'
  clear hr hr' hp
  go_enter Tryd.func3, Tryd.ntmps3
  go_wp2_with fail
  refine (topologyOf a bs cap _ hbm (unhide HR)).mono ?_
  rintro e w1 ⟨v1, ss, es, g, c, h, d, rfl, rfl, hrs, hre, htop, hcc, b1⟩
  have HT := hide htop
  have h8 := src_len (top_src htop)
  have h62 := Tw.two_len (top_two htop)
  have HB1 := hide b1
  have RS1 := hide hrs
  have RE1 := hide hre
  clear b1 hrs hre htop
  obtain ⟨w2, hw2⟩ : ∃ w2, w1.alloc (.cells #[.slice (some ⟨g, 0, none⟩) ss.length c, .slice (some ⟨h, 0, none⟩) es.length d] 26) = w2 := ⟨_, rfl⟩
  have b2 : Below w1.heap.size w1 w2 := by rw [← hw2]; exact (Below.refl _ _).alloc (Nat.le_refl _) _
  have Q2 : Hid (Bx2 w2 w1.heap.size (.slice (some ⟨g, 0, none⟩) ss.length c) (.slice (some ⟨h, 0, none⟩) es.length d)) := hide (by rw [← hw2]; exact bx2_new _ _ _ _)
  have HW2 := hide hw2
  clear hw2
  have HB2 := hide ((unhide HB1).trans (b2.mono (unhide HB1).size))
  have RS2 := hide ((unhide RS1).below b2)
  have RE2 := hide ((unhide RE1).below b2)
  clear b2 RS1 RE1
  go_wp2_with fail
  rw [unhide HW2]
  refine (At.choice a' bs' cap' 0 45 _ (by omega) (by omega) (by omega) hbm' (reads_und (unhide HR') (unhide HB2))).mono ?_
  rintro e w3 ⟨now, rfl, hnow, q3, hq3⟩
  have b3 : Below w2.heap.size w2 w3 := by rw [hq3]; exact below_dN _
  clear hq3
  have HB3 := hide ((unhide HB2).trans (b3.mono (unhide HB2).size))
  have RS3 := hide ((unhide RS2).below b3)
  have RE3 := hide ((unhide RE2).below b3)
  have Q3 := hide ((unhide Q2).below b3)
  clear b3 RS2 RE2 Q2
  obtain ⟨z0, z1⟩ := unhide Q3
  go_wp2_with fail
  clear z0 z1
  refine (implExpire _ ss _ _ es _ now _ (by omega) (by omega) (unhide RS3) (unhide RE3)).mono ?_
  rintro e w4 ⟨v4, rfl, b4, l4⟩
  have e0 : topC ss es = 0 := by unfold topC; rw [if_pos (unhide HT)]
  have e1 : expS ss es (now : Int) = srcX ss now := by unfold expS; rw [if_pos (unhide HT)]
  have e2 : expE ss es (now : Int) = edgX ss es now := by unfold expE; rw [if_pos (unhide HT)]
  have HE := hide (And.intro e0 (And.intro e1 e2))
  have HLV : Hid (∀ m ∈ ss, hasS (srcX ss now) m.ad = decide ((now : Int) < m.til)) := hide (fun m hm => live_has (top_src (unhide HT)) now hm)
  have HXT := hide (exp_top (unhide HT) (now : Int))
  have hxl : (srcX ss now).length ≤ 8 := src_len (top_src (unhide HXT))
  have hyl : (edgX ss es now).length ≤ 64 := by have := Tw.two_len (top_two (unhide HXT)); omega
  rw [e0]
  rw [e1, e2] at l4
  clear e0 e1 e2
  obtain ⟨S, hS⟩ : ∃ S, srcX ss now = S := ⟨_, rfl⟩
  obtain ⟨E, hE⟩ : ∃ E, edgX ss es now = E := ⟨_, rfl⟩
  rw [hS, hE] at l4 HXT
  rw [hS] at HLV hxl
  rw [hE] at hyl
  have HSE := hide (And.intro hS hE)
  clear hS hE
  obtain ⟨vs4, ve4, mid4, rfl, ⟨as4, cs4, rfl, L4⟩, ⟨ae4, ce4, rfl, M4⟩, _, _⟩ := l4
  have XS4 := hide L4.rm
  have XE4 := hide M4.rm
  clear L4 M4
  have HB4 := hide ((unhide HB3).trans (b4.mono (unhide HB3).size))
  have RS4 := hide ((unhide RS3).below b4)
  have RE4 := hide ((unhide RE3).below b4)
  have Q4 := hide ((unhide Q3).below b4)
  clear b4 RS3 RE3 Q3
  obtain ⟨w5, hw5⟩ : ∃ w5, w4.alloc (.cells #[.slice as4 S.length cs4, .slice ae4 E.length ce4] 26) = w5 := ⟨_, rfl⟩
  have b5 : Below w4.heap.size w4 w5 := by rw [← hw5]; exact (Below.refl _ _).alloc (Nat.le_refl _) _
  have V5 : Hid (Bx2 w5 w4.heap.size (.slice as4 S.length cs4) (.slice ae4 E.length ce4)) := hide (by rw [← hw5]; exact bx2_new _ _ _ _)
  have HW5 := hide hw5
  clear hw5
  have HB5 := hide ((unhide HB4).trans (b5.mono (unhide HB4).size))
  have RS5 := hide ((unhide RS4).below b5)
  have RE5 := hide ((unhide RE4).below b5)
  have Q5 := hide ((unhide Q4).below b5)
  have XS5 := hide ((unhide XS4).below b5)
  have XE5 := hide ((unhide XE4).below b5)
  clear b5 RS4 RE4 Q4 XS4 XE4
  obtain ⟨z0, z1⟩ := unhide Q5
  rw [← unhide HW5] at z0 z1
  go_wp2_with fail
  clear z0 z1
  rw [unhide HW5]
  refine (specExpire g 0 ss c h 0 es d now _ hcc (by omega) (by omega) (unhide RS5) (unhide RE5)).mono ?_
  rintro e w6 ⟨v6, rfl, b6, l6⟩
  rw [(unhide HE).1]
  rw [(unhide HE).2.1, (unhide HE).2.2, (unhide HSE).1, (unhide HSE).2] at l6
  obtain ⟨vs6, ve6, mid6, rfl, ⟨as6, cs6, rfl, L6⟩, ⟨ae6, ce6, rfl, M6⟩, _, _⟩ := l6
  have YS6 := hide L6.rm
  have YE6 := hide M6.rm
  clear L6 M6
  have HB6 := hide ((unhide HB5).trans (b6.mono (unhide HB5).size))
  have RS6 := hide ((unhide RS5).below b6)
  have RE6 := hide ((unhide RE5).below b6)
  have Q6 := hide ((unhide Q5).below b6)
  have XS6 := hide ((unhide XS5).below b6)
  have XE6 := hide ((unhide XE5).below b6)
  have V6 := hide ((unhide V5).below b6)
  clear b6 RS5 RE5 Q5 XS5 XE5 V5
  obtain ⟨w7, hw7⟩ : ∃ w7, w6.alloc (.cells #[.slice as6 S.length cs6, .slice ae6 E.length ce6] 26) = w7 := ⟨_, rfl⟩
  have b7 : Below w6.heap.size w6 w7 := by rw [← hw7]; exact (Below.refl _ _).alloc (Nat.le_refl _) _
  have U7 : Hid (Bx2 w7 w6.heap.size (.slice as6 S.length cs6) (.slice ae6 E.length ce6)) := hide (by rw [← hw7]; exact bx2_new _ _ _ _)
  have HW7 := hide hw7
  clear hw7
  have HB7 := hide ((unhide HB6).trans (b7.mono (unhide HB6).size))
  have RS7 := hide ((unhide RS6).below b7)
  have RE7 := hide ((unhide RE6).below b7)
  have Q7 := hide ((unhide Q6).below b7)
  have XS7 := hide ((unhide XS6).below b7)
  have XE7 := hide ((unhide XE6).below b7)
  have V7 := hide ((unhide V6).below b7)
  have YS7 := hide ((unhide YS6).below b7)
  have YE7 := hide ((unhide YE6).below b7)
  clear b7 RS6 RE6 Q6 XS6 XE6 V6 YS6 YE6
  obtain ⟨z0, z1⟩ := unhide V7
  rw [← unhide HW7] at z0 z1
  go_wp2_with fail
  clear z0 z1
  rw [unhide HW7]
  have e3 : topC S E = 0 := by unfold topC; rw [if_pos (unhide HXT)]
  have HTL := hide (txt_length (unhide HXT))
  refine (implText _ S _ _ E _ _ (by omega) (by omega) (unhide XS7) (unhide XE7) (unhide HTP _ (unhide HB7))).mono ?_
  rintro e w8 ⟨v8, rfl, b8, l8⟩
  rw [e3]
  obtain ⟨a8, c8, rfl, L8⟩ := l8
  have TS8 := hide L8.rm
  clear L8
  have HB8 := hide ((unhide HB7).trans (b8.mono (unhide HB7).size))
  have RS8 := hide ((unhide RS7).below b8)
  have RE8 := hide ((unhide RE7).below b8)
  have Q8 := hide ((unhide Q7).below b8)
  have XS8 := hide ((unhide XS7).below b8)
  have XE8 := hide ((unhide XE7).below b8)
  have V8 := hide ((unhide V7).below b8)
  have YS8 := hide ((unhide YS7).below b8)
  have YE8 := hide ((unhide YE7).below b8)
  have U8 := hide ((unhide U7).below b8)
  clear b8 RS7 RE7 Q7 XS7 XE7 V7 YS7 YE7 U7
  obtain ⟨z0, z1⟩ := unhide V8
  go_wp2_with fail
  clear z0 z1
  refine (specText _ S _ _ E _ _ (by omega) (by omega) (unhide XS8) (unhide XE8)).mono ?_
  rintro e w9 ⟨v9, rfl, b9, l9⟩
  rw [e3]
  clear e3
  obtain ⟨a9, c9, rfl, L9⟩ := l9
  have TU9 := hide L9.rm
  clear L9
  have HB9 := hide ((unhide HB8).trans (b9.mono (unhide HB8).size))
  have RS9 := hide ((unhide RS8).below b9)
  have RE9 := hide ((unhide RE8).below b9)
  have Q9 := hide ((unhide Q8).below b9)
  have XS9 := hide ((unhide XS8).below b9)
  have XE9 := hide ((unhide XE8).below b9)
  have V9 := hide ((unhide V8).below b9)
  have YS9 := hide ((unhide YS8).below b9)
  have YE9 := hide ((unhide YE8).below b9)
  have U9 := hide ((unhide U8).below b9)
  have TS9 := hide ((unhide TS8).below b9)
  clear b9 RS8 RE8 Q8 XS8 XE8 V8 YS8 YE8 U8 TS8
  have htl : (txtA S E).length = S.length := unhide HTL
  have hol : (txtA S E).length ≤ 1048576 := by omega
  have HTL2 := hide htl
  clear htl
  obtain ⟨z0, z1⟩ := unhide V9
  obtain ⟨y0, y1⟩ := unhide U9
  go_wp2_with fail
  clear z0 z1 y0 y1
  refine (sameTop _ _ _ _ S E _ _ _ _ _ (by omega) (by omega) (unhide XS9) (unhide XE9) (unhide YS9) (unhide YE9)).mono ?_
  rintro e w10 ⟨rfl, b10⟩
  have HB10 := hide ((unhide HB9).trans (b10.mono (unhide HB9).size))
  have RS10 := hide ((unhide RS9).below b10)
  have RE10 := hide ((unhide RE9).below b10)
  have Q10 := hide ((unhide Q9).below b10)
  have XS10 := hide ((unhide XS9).below b10)
  have XE10 := hide ((unhide XE9).below b10)
  have V10 := hide ((unhide V9).below b10)
  have TS10 := hide ((unhide TS9).below b10)
  have TU10 := hide ((unhide TU9).below b10)
  clear b10 RS9 RE9 Q9 XS9 XE9 V9 TS9 TU9
  obtain ⟨z0, z1⟩ := unhide V10
  go_wp2_with fail
  clear z0 z1
  refine (implOK _ S _ _ E _ _ (by omega) (by omega) (unhide XS10) (unhide XE10)).mono ?_
  rintro e w11 ⟨rfl, b11⟩
  rw [unhide HXT]
  have HB11 := hide ((unhide HB10).trans (b11.mono (unhide HB10).size))
  have RS11 := hide ((unhide RS10).below b11)
  have RE11 := hide ((unhide RE10).below b11)
  have Q11 := hide ((unhide Q10).below b11)
  have XS11 := hide ((unhide XS10).below b11)
  have XE11 := hide ((unhide XE10).below b11)
  have V11 := hide ((unhide V10).below b11)
  have TS11 := hide ((unhide TS10).below b11)
  have TU11 := hide ((unhide TU10).below b11)
  clear b11 RS10 RE10 Q10 XS10 XE10 V10 TS10 TU10
  go_wp2_with fail
  refine (Ss.sameS _ _ (txtA S E) _ _ _ hol (unhide TS11) (unhide TU11)).mono ?_
  rintro e w12 ⟨rfl, b12⟩
  have HB12 := hide ((unhide HB11).trans (b12.mono (unhide HB11).size))
  have RS12 := hide ((unhide RS11).below b12)
  have RE12 := hide ((unhide RE11).below b12)
  have Q12 := hide ((unhide Q11).below b12)
  have XS12 := hide ((unhide XS11).below b12)
  have XE12 := hide ((unhide XE11).below b12)
  have V12 := hide ((unhide V11).below b12)
  clear b12 RS11 RE11 Q11 XS11 XE11 V11
  have hln : (((txtA S E).length : Int) != (S.length : Int)) = false := by rw [unhide HTL2]; simp
  obtain ⟨z0, z1⟩ := unhide V12
  obtain ⟨y0, y1⟩ := unhide Q12
  go_wp2_with fail
  clear z0 z1 y0 y1
  generalize hN : ss.length = n at *
  have HN := hide hN
  clear hN
  go_loopw [15] (fun i wr => ∃ j : Nat, j ≤ n ∧ i = .int .i64 j ∧ Hid (Below w12.heap.size w12 wr)) (fun i _ => n - (intOf i).toNat)
  case atStart => exact ⟨0, by omega, rfl, hide (Below.refl _ _)⟩
  case round =>
    obtain ⟨j, hj, rfl, hbl⟩ := hrel
    have HBw := hide ((unhide HB12).trans ((unhide hbl).mono (unhide HB12).size))
    have Qr := hide ((unhide Q12).below (unhide hbl))
    have Vr := hide ((unhide V12).below (unhide hbl))
    have XSr := hide ((unhide XS12).below (unhide hbl))
    have XEr := hide ((unhide XE12).below (unhide hbl))
    obtain ⟨y0, y1⟩ := unhide Qr
    by_cases hlt : (j : Int) < (n : Int)
    · have k0 : (0 : Int) ≤ (j : Int) := by omega
      have hlen : j < ss.length := by rw [unhide HN]; omega
      have hAt := ((unhide RS12).below (unhide hbl)).at hlen
      rw [Nat.zero_add] at hAt
      have hlv := unhide HLV _ (So.getD_mem hlen)
      generalize ss.getD j So.R.zero = m at *
      obtain ⟨ad, an, til⟩ := m
      dsimp only at hlv
      have HAt := hide hAt
      clear hAt
      obtain ⟨⟨r0, r1, r2⟩, hrr⟩ : ∃ r, srcA S E ad = r := ⟨_, rfl⟩
      have HRR := hide hrr
      clear hrr
      have HSC : Hid (srcE S E ad = if (now : Int) < til then 0 else 5) := hide (by
        unfold srcE
        rw [if_pos (unhide HXT), hlv]
        by_cases hq : (now : Int) < til
        · rw [decide_eq_true hq, if_pos rfl, if_pos hq]
        · rw [decide_eq_false hq, if_neg (by simp), if_neg hq])
      clear hlv
      by_cases hq : (now : Int) < til
      all_goals
        first | rw [if_pos hq] at HSC | rw [if_neg hq] at HSC
        go_wp2_with fail
        refine wp_region_noPanic ?_
        refine wp_region_held_drew (S := fun w' => (Bx2 w' w1.heap.size (.slice (some ⟨g, 0, none⟩) n c) (.slice (some ⟨h, 0, none⟩) es.length d) ∧ Bx2 w' w4.heap.size (.slice as4 S.length cs4) (.slice ae4 E.length ce4) ∧ So.At w' g (j * 3) ⟨ad, an, til⟩) ∧ (w'.cell? ⟨w1.heap.size, 0, none⟩ = some (.slice (some ⟨g, 0, none⟩) n c) ∧ w'.cell? ⟨w1.heap.size, 1, none⟩ = some (.slice (some ⟨h, 0, none⟩) es.length d)) ∧ (w'.cell? ⟨w4.heap.size, 0, none⟩ = some (.slice as4 S.length cs4) ∧ w'.cell? ⟨w4.heap.size, 1, none⟩ = some (.slice ae4 E.length ce4)) ∧ w'.cell? ⟨g, j * 3, none⟩ = some (.int .i64 ad)) (by kernel_rfl) (sSt ((unhide Qr).drew) ((unhide Vr).drew) ((unhide HAt).drew)) (fun hHeld => ?_)
        clear y0 y1
        (refine Rg.tk (i := 0) (d := 91) (v := ?_) rfl rfl (by kernel_rfl) (by kernel_rfl) (by kernel_rfl) (fun _ _ _ h => h) (by rfl) ?_ (by assumption) ?_; rotate_left; (focus (intro w0 hSw; (try dsimp only at hSw); go_simp; (try with_reducible rfl))); (try simp only [Act.put, List.setIfInBounds_toArray, List.set_cons_zero, List.set_cons_succ]))
        (refine Rg.tk (i := 1) (d := 92) (v := ?_) rfl rfl (by kernel_rfl) (by kernel_rfl) (by kernel_rfl) (fun _ _ _ h => h) (by rfl) ?_ (by assumption) ?_; rotate_left; (focus (intro w0 hSw; (try dsimp only at hSw); go_simp; (try with_reducible rfl))); (try simp only [Act.put, List.setIfInBounds_toArray, List.set_cons_zero, List.set_cons_succ]))
        (refine Rg.tk (i := 2) (d := 93) (v := ?_) rfl rfl (by kernel_rfl) (by kernel_rfl) (by kernel_rfl) (fun _ _ _ h => h) (by rfl) ?_ (by assumption) ?_; rotate_left; (focus (intro w0 hSw; (try dsimp only at hSw); go_simp; (try with_reducible rfl))); (try simp only [Act.put, List.setIfInBounds_toArray, List.set_cons_zero, List.set_cons_succ]))
        (refine Rg.tk (i := 3) (d := 94) (v := ?_) rfl rfl (by kernel_rfl) (by kernel_rfl) (by kernel_rfl) (fun _ _ _ h => h) (by rfl) ?_ (by assumption) ?_; rotate_left; (focus (intro w0 hSw; (try dsimp only at hSw); go_simp; (try with_reducible rfl))); (try simp only [Act.put, List.setIfInBounds_toArray, List.set_cons_zero, List.set_cons_succ]))
        (refine Rg.tk (i := 4) (d := 95) (v := ?_) rfl rfl (by kernel_rfl) (by kernel_rfl) (by kernel_rfl) (fun _ _ _ h => h) (by rfl) ?_ (by assumption) ?_; rotate_left; (focus (intro w0 hSw; (try dsimp only at hSw); go_simp; (try with_reducible rfl))); (try simp only [Act.put, List.setIfInBounds_toArray, List.set_cons_zero, List.set_cons_succ]))
        (refine Rg.tk (i := 5) (d := 96) (v := ?_) rfl rfl (by kernel_rfl) (by kernel_rfl) (by kernel_rfl) (fun _ _ _ h => h) (by rfl) ?_ (by assumption) ?_; rotate_left; (focus (intro w0 hSw; (try dsimp only at hSw); go_simp; (try with_reducible rfl))); (try simp only [Act.put, List.setIfInBounds_toArray, List.set_cons_zero, List.set_cons_succ]))
        (refine Rg.tk (i := 6) (d := 97) (v := ?_) rfl rfl (by kernel_rfl) (by kernel_rfl) (by kernel_rfl) (fun _ _ _ h => h) (by rfl) ?_ (by assumption) ?_; rotate_left; (focus (intro w0 hSw; (try dsimp only at hSw); go_simp; (try with_reducible rfl))); (try simp only [Act.put, List.setIfInBounds_toArray, List.set_cons_zero, List.set_cons_succ]))
        (refine wpAnyH_ready (rs := [7, 11]) (by kernel_rfl) (by simp) ?_; refine AllReadyH.cons (o := _) rfl (fun K hK => ?_) (AllReadyH.cons (o := _) rfl (fun K hK => ?_) AllReadyH.nil))
        · go_simp
          refine (implSource _ S _ _ E _ ad _ (by omega) (by omega) ((unhide XSr).below (Below.refl _ _).drew) ((unhide XEr).below (Below.refl _ _).drew)).mono ?_
          rintro e x1 ⟨rfl, f1_⟩
          have f1 : Below wr.heap.size wr x1 := (Below.refl _ _).drew.trans f1_
          rw [unhide HRR, unhide HSC]
          unfold So.R.value
          dsimp only
          clear hHeld f1_
          refine hK.out _ _ (sSt ((unhide Qr).below f1) ((unhide Vr).below f1) ((unhide HAt).below f1)) (fun hHeld => ?_)
          clear hK K
          (try simp only [Act.put, List.setIfInBounds_toArray, List.set_cons_zero, List.set_cons_succ])
          (refine Rg.tk (i := 8) (d := 90) (v := ?_) rfl rfl (by kernel_rfl) (by kernel_rfl) (by kernel_rfl) (fun _ _ _ h => h) (by rfl) ?_ (by assumption) ?_; rotate_left; (focus (intro w0 hSw; (try dsimp only at hSw); go_simp; (try with_reducible rfl))); (try simp only [Act.put, List.setIfInBounds_toArray, List.set_cons_zero, List.set_cons_succ]))
          (refine Rg.tk (i := 9) (d := 99) (v := ?_) rfl rfl (by kernel_rfl) (by kernel_rfl) (by kernel_rfl) (fun _ _ _ h => h) (by rfl) ?_ (by assumption) ?_; rotate_left; (focus (intro w0 hSw; (try dsimp only at hSw); go_simp; (try with_reducible rfl))); (try simp only [Act.put, List.setIfInBounds_toArray, List.set_cons_zero, List.set_cons_succ]))
          (refine Rg.tk (i := 10) (d := 100) (v := ?_) rfl rfl (by kernel_rfl) (by kernel_rfl) (by kernel_rfl) (fun _ _ _ h => h) (by rfl) ?_ (by assumption) ?_; rotate_left; (focus (intro w0 hSw; (try dsimp only at hSw); go_simp; (try with_reducible rfl))); (try simp only [Act.put, List.setIfInBounds_toArray, List.set_cons_zero, List.set_cons_succ]))
          (refine wpAnyH_ready (rs := [11]) (by kernel_rfl) (by simp) ?_; refine AllReadyH.cons (o := _) rfl (fun K hK => ?_) AllReadyH.nil; go_simp)
          have f2 := f1.alloc f1.size (.cells #[.int .i64 0, .int .i64 0, .int .i64 0] 38)
          clear hHeld
          refine hK.out _ _ (sSt ((unhide Qr).below f2) ((unhide Vr).below f2) ((unhide HAt).below f2)) (fun hHeld => ?_)
          clear hK K
          (try simp only [Act.put, List.setIfInBounds_toArray, List.set_cons_zero, List.set_cons_succ])
          (refine wpAnyH_ready (rs := [12]) (by kernel_rfl) (by simp) ?_; refine AllReadyH.cons (o := _) rfl (fun K hK => ?_) AllReadyH.nil; go_simp)
          have f3 := f1.alloc f1.size (.cells #[.int .i64 r0, .int .i64 r1, .int .i64 r2] 38)
          clear hHeld
          refine hK.out _ _ (sSt ((unhide Qr).below f3) ((unhide Vr).below f3) ((unhide HAt).below f3)) (fun hHeld => ?_)
          clear hK K
          (try simp only [Act.put, List.setIfInBounds_toArray, List.set_cons_zero, List.set_cons_succ])
          (refine Rg.tk (i := 13) (d := 17) (v := ?_) rfl rfl (by kernel_rfl) (by kernel_rfl) (by kernel_rfl) (fun _ _ _ h => h) (by rfl) ?_ (by assumption) ?_; rotate_left; (focus (intro w0 hSw; (try dsimp only at hSw); go_simp; (try with_reducible rfl))); (try simp only [Act.put, List.setIfInBounds_toArray, List.set_cons_zero, List.set_cons_succ]))
          refine wpAnyH_done (by kernel_rfl) (NoPanic.normal ?_) _
          clear hHeld
          generalize hxF : x1.alloc (.cells #[.int .i64 r0, .int .i64 r1, .int .i64 r2] 38) = xF at *
          clear hxF
          have HBF := hide ((unhide hbl).trans (f3.mono (unhide hbl).size))
          obtain ⟨y0, y1⟩ := (unhide Qr).below f3
          obtain ⟨q0, q1, q2⟩ := (unhide HAt).below f3
          clear f1 f2 f3
          go_wp2_with fail
          go_roundw
          case rel => exact ⟨j + 1, by omega, by go_num, HBF⟩
          case measure => simp [intOf]; omega
        · go_simp
          have a1 : Below wr.heap.size wr ((wr.alloc (.cells #[.int .i64 0, .int .i64 0, .int .i64 0] 38)).drew) := ((Below.refl _ _).alloc (Nat.le_refl _) _).drew
          have sv : SV ((wr.alloc (.cells #[.int .i64 0, .int .i64 0, .int .i64 0] 38)).drew) wr.heap.size ⟨0, 0, 0⟩ := sv_new wr ⟨0, 0, 0⟩
          clear hHeld
          generalize hv1 : (wr.alloc (.cells #[.int .i64 0, .int .i64 0, .int .i64 0] 38)).drew = x1 at *
          clear hv1
          refine hK.out _ _ (sSt ((unhide Qr).below a1) ((unhide Vr).below a1) ((unhide HAt).below a1)) (fun hHeld => ?_)
          clear hK K
          (try simp only [Act.put, List.setIfInBounds_toArray, List.set_cons_zero, List.set_cons_succ])
          (refine wpAnyH_ready (rs := [7]) (by kernel_rfl) (by simp) ?_; refine AllReadyH.cons (o := _) rfl (fun K hK => ?_) AllReadyH.nil; go_simp)
          refine (implSource _ S _ _ E _ ad _ (by omega) (by omega) ((unhide XSr).below a1) ((unhide XEr).below a1)).mono ?_
          rintro e x2 ⟨rfl, f2⟩
          rw [unhide HRR, unhide HSC]
          unfold So.R.value
          dsimp only
          have a2 := a1.trans (f2.mono a1.size)
          have sv2 := sv.below f2
          clear hHeld
          refine hK.out _ _ (sSt ((unhide Qr).below a2) ((unhide Vr).below a2) ((unhide HAt).below a2)) (fun hHeld => ?_)
          clear hK K
          (try simp only [Act.put, List.setIfInBounds_toArray, List.set_cons_zero, List.set_cons_succ])
          (refine Rg.tk (i := 8) (d := 90) (v := ?_) rfl rfl (by kernel_rfl) (by kernel_rfl) (by kernel_rfl) (fun _ _ _ h => h) (by rfl) ?_ (by assumption) ?_; rotate_left; (focus (intro w0 hSw; (try dsimp only at hSw); go_simp; (try with_reducible rfl))); (try simp only [Act.put, List.setIfInBounds_toArray, List.set_cons_zero, List.set_cons_succ]))
          (refine Rg.tk (i := 9) (d := 99) (v := ?_) rfl rfl (by kernel_rfl) (by kernel_rfl) (by kernel_rfl) (fun _ _ _ h => h) (by rfl) ?_ (by assumption) ?_; rotate_left; (focus (intro w0 hSw; (try dsimp only at hSw); go_simp; (try with_reducible rfl))); (try simp only [Act.put, List.setIfInBounds_toArray, List.set_cons_zero, List.set_cons_succ]))
          (refine Rg.tk (i := 10) (d := 100) (v := ?_) rfl rfl (by kernel_rfl) (by kernel_rfl) (by kernel_rfl) (fun _ _ _ h => h) (by rfl) ?_ (by assumption) ?_; rotate_left; (focus (intro w0 hSw; (try dsimp only at hSw); go_simp; (try with_reducible rfl))); (try simp only [Act.put, List.setIfInBounds_toArray, List.set_cons_zero, List.set_cons_succ]))
          have t0 : x2.cell? ⟨wr.heap.size, 0, none⟩ = some (.int .i64 0) := sv2.cells.1
          have t1 : x2.cell? ⟨wr.heap.size, 1, none⟩ = some (.int .i64 0) := sv2.cells.2.1
          have t2 : x2.cell? ⟨wr.heap.size, 2, none⟩ = some (.int .i64 0) := sv2.cells.2.2
          have fr := sv2.free
          have hbk := sv2.lt
          (refine wpAnyH_ready (rs := [12]) (by kernel_rfl) (by simp) ?_; refine AllReadyH.cons (o := _) rfl (fun K hK => ?_) AllReadyH.nil; go_simp)
          have a3 := ((a2.setCell (p := ⟨wr.heap.size, 0, none⟩) (Nat.le_refl _) (.int .i64 r0)).setCell (p := ⟨wr.heap.size, 1, none⟩) (Nat.le_refl _) (.int .i64 r1)).setCell (p := ⟨wr.heap.size, 2, none⟩) (Nat.le_refl _) (.int .i64 r2)
          clear hHeld t0 t1 t2 fr
          refine hK.out _ _ (sSt ((unhide Qr).below a3) ((unhide Vr).below a3) ((unhide HAt).below a3)) (fun hHeld => ?_)
          clear hK K
          (try simp only [Act.put, List.setIfInBounds_toArray, List.set_cons_zero, List.set_cons_succ])
          (refine Rg.tk (i := 13) (d := 17) (v := ?_) rfl rfl (by kernel_rfl) (by kernel_rfl) (by kernel_rfl) (fun _ _ _ h => h) (by rfl) ?_ (by assumption) ?_; rotate_left; (focus (intro w0 hSw; (try dsimp only at hSw); go_simp; (try with_reducible rfl))); (try simp only [Act.put, List.setIfInBounds_toArray, List.set_cons_zero, List.set_cons_succ]))
          refine wpAnyH_done (by kernel_rfl) (NoPanic.normal ?_) _
          clear hHeld
          generalize hxF : ((x2.setCell ⟨wr.heap.size, 0, none⟩ (.int .i64 r0)).setCell ⟨wr.heap.size, 1, none⟩ (.int .i64 r1)).setCell ⟨wr.heap.size, 2, none⟩ (.int .i64 r2) = xF at *
          clear hxF
          have HBF := hide ((unhide hbl).trans (a3.mono (unhide hbl).size))
          obtain ⟨y0, y1⟩ := (unhide Qr).below a3
          obtain ⟨q0, q1, q2⟩ := (unhide HAt).below a3
          clear a1 a2 a3 f2 sv sv2
          go_wp2_with fail
          go_roundw
          case rel => exact ⟨j + 1, by omega, by go_num, HBF⟩
          case measure => simp [intOf]; omega
    · go_wp2_with fail
      go_ret
      exact ⟨rfl, unhide HBw⟩

set_option maxRecDepth 100000
theorem gTab : Tryd.prog.globalNamed "internal/strconv.uint64pow10" = some 0 := by kernel_rfl
theorem gType : (Tryd.prog.globals[0]?).map (·.type) = some 122 := by kernel_rfl
theorem cellsA : Tryd.prog.cellsOf 122 = 20 := by kernel_rfl
theorem cellsU : Tryd.prog.cellsOf 116 = 1 := by kernel_rfl
theorem table {W : World} (h : laidMetH Tryd.prog Rows.fnStaleRow.laid W) : TabP W := by
  have h1 := h.filter (fun x => x.1 == "internal/strconv.uint64pow10")
  have e : (Rows.fnStaleRow.laid.filter (fun x => x.1 == "internal/strconv.uint64pow10")) = [("internal/strconv.uint64pow10", Lib.tabData .u64 Lib.pow10Tab)] := by kernel_rfl
  rw [e] at h1
  exact Lib.tabIs_of_head gTab gType Tryd.underlying122 Tryd.underlying116 cellsU cellsA (laidMetH_iff.1 h1).1

/-- What the walk gives, for every argument and every world that holds the tables. -/
theorem contract (H : Type) (enc : TypeId × Value → H) (W : World) (base : Nat) (args : Array Value) (ds gs : List (DataW H)) (before : List MemPlace)
    (hval0 : ∀ (j : Nat) t v, Tryd.f3.params[j]? = some t → args[j]? = some v → Value.okWide Tryd.prog W .any base t v)
    (hW : DataW.Whole enc Tryd.prog Tryd.f3.params.toList Rows.fnStaleSpec.vars false W args.toList ds gs before) (hL : laidMetH Tryd.prog Rows.fnStaleRow.laid W) :
    Calls Tryd.prog 3 args W fun e W' => ∃ v, e = .returned v ∧ Rows.fnStaleSpec.post enc Tryd.prog Tryd.f3 false true false false W args v W' := by
  have hval := hval0
  have hW' := hW
  obtain ⟨p, q, hA0, hV, rfl, hfz, hnd⟩ := hW
  have hA : DataW.TrodAll enc Tryd.prog W 0 (fun _ => true) true Tryd.f3.params.toList args.toList ds p := hA0
  rw [Tryd.params3] at hA hval
  obtain ⟨v0, vs0, d0, ds0, p0, q0, hargs0, rfl, rfl, h0, r0⟩ := trodAll_cons hA
  obtain ⟨v1, vs1, d1, ds1, p1, q1, hargs1, rfl, rfl, h1, r1⟩ := trodAll_cons r0
  obtain ⟨rfl, rfl, rfl⟩ := trodAll_nil r1
  obtain rfl : args = #[v0, v1] := by cases args; simp_all
  obtain ⟨rfl, rfl⟩ := trodVars_none hV
  have k0 := h0
  have lt0 : ∀ x ∈ p0, x.block < W.heap.size := by obtain ⟨m, hm⟩ := k0; exact DataW.trod_lt m _ _ _ hm
  have k1 := h1
  have lt1 : ∀ x ∈ p1, x.block < W.heap.size := by obtain ⟨m, hm⟩ := k1; exact DataW.trod_lt m _ _ _ hm
  obtain ⟨a0, len0, cap0, rfl⟩ := okWide_slice Tryd.underlying22 (hval 0 22 v0 rfl rfl)
  obtain ⟨bs0, hlen0, hmx0, hrd0⟩ := Op.open_bytes h0
  subst hlen0
  obtain ⟨a1, len1, cap1, rfl⟩ := okWide_slice Tryd.underlying22 (hval 1 22 v1 rfl rfl)
  obtain ⟨bs1, hlen1, hmx1, hrd1⟩ := Op.open_bytes h1
  subst hlen1
  clear hA0 hval0
  have hT := table hL
  refine (walk a0 bs0 cap0 hmx0 a1 bs1 cap1 hmx1 W hrd0 hrd1 hT).mono fun e W' ⟨he, bel⟩ => ?_
  subst he
  exact ⟨_, rfl, _, _, _, [], _, [], hW', trodAll_mk1 (shut_bool Tryd.underlying4 _), (trodAll_cons_mk (Below.trod laidOut (by kernel_rfl) (of_decide_eq_true (by kernel_rfl)) k0 bel lt0) (trodAll_cons_mk (Below.trod laidOut (by kernel_rfl) (of_decide_eq_true (by kernel_rfl)) k1 bel lt1) trodAll_mk0)), rfl, bel.frame _, fun h => by cases h⟩

def d32 : List Int := [0, 1, 28, 2, 29, 14, 24, 3, 30, 22, 20, 15, 25, 17, 4, 8, 31, 27, 13, 23, 21, 19, 16, 7, 26, 12, 18, 6, 11, 5, 10, 9]
def d64 : List Int := [0, 1, 56, 2, 57, 49, 28, 3, 61, 58, 42, 50, 38, 29, 17, 4, 62, 47, 59, 36, 45, 43, 51, 22, 53, 39, 33, 30, 24, 18, 12, 5, 63, 55, 48, 27, 60, 41, 37, 16, 46, 35, 44, 21, 52, 32, 23, 11, 54, 26, 40, 15, 34, 20, 31, 10, 25, 14, 19, 9, 13, 8, 7, 6]
/-- A block whose cells are these numbers. -/
def laidAs (k : IntKind) (zs : List Int) : Obj → Obj
  | .cells _ t frozen => .cells (zs.map fun z => Value.int k z).toArray t frozen
  | o => o
theorem laid_met (os : Os) : laidMet Tryd.prog Rows.fnStaleRow.laid (({ World.holding Tryd.prog os ⟨#[], #[], []⟩ with heap := (((World.holding Tryd.prog os ⟨#[], #[], []⟩).heap.modify 0 (laidAs .u64 Lib.pow10Tab)).modify 1 (laidAs .u8 d32)).modify 2 (laidAs .u8 d64) } : World).forCall (fun _ _ => 0) ⟨#[], #[.slice none 0 0, .slice none 0 0], []⟩).memory :=
  laidMet_of_run' 8 (by kernel_rfl) (by kernel_rfl)
theorem whole_of_map {α β γ : Type} {o : Option (α × β × γ)} {a : α} {b : β} (h : o.map (fun x => (x.1, x.2.1)) = some (a, b)) : ∃ c, o = some (a, b, c) := by
  cases o with
  | none => cases h
  | some x => obtain ⟨x1, x2, x3⟩ := x; cases h; exact ⟨x3, rfl⟩
theorem reads (os : Os) {H : Type} (enc : TypeId × Value → H) : ∃ places, DataW.whole enc Tryd.prog (({ World.holding Tryd.prog os ⟨#[], #[], []⟩ with heap := (((World.holding Tryd.prog os ⟨#[], #[], []⟩).heap.modify 0 (laidAs .u64 Lib.pow10Tab)).modify 1 (laidAs .u8 d32)).modify 2 (laidAs .u8 d64) } : World).forCall (fun _ _ => 0) ⟨#[], #[.slice none 0 0, .slice none 0 0], []⟩).memory Tryd.f3.params.toList Rows.fnStaleSpec.vars false #[.slice none 0 0, .slice none 0 0].toList 8 = some ([.nil, .nil], [], places) :=
  whole_of_map (by kernel_rfl)

set_option maxRecDepth 100000 in
theorem lifted (os : Os) (started : os.Started) (H : Type) (enc : TypeId × Value → H) (F : Stop.Interp) :
    ReturnsInHanded {} Tryd.checked os 3 .any ((OpenSpec.ofChange Rows.fnStaleSpec).preRow enc Tryd.prog Tryd.f3 Rows.fnStaleRow.domain false Rows.fnStaleRow.laid) (((OpenSpec.ofChange Rows.fnStaleSpec).at F).post enc Tryd.prog Tryd.f3 false true false false) := by
  obtain ⟨places, hx⟩ := reads os enc
  refine returnsInHanded_of_row (C := Tryd.checked) (s := OpenSpec.ofChange Rows.fnStaleSpec) own started (by kernel_rfl) Tryd.func3
    (witness_row_at (enc := enc) (C := Tryd.checked) false ({ World.holding Tryd.prog os ⟨#[], #[], []⟩ with heap := (((World.holding Tryd.prog os ⟨#[], #[], []⟩).heap.modify 0 (laidAs .u64 Lib.pow10Tab)).modify 1 (laidAs .u8 d32)).modify 2 (laidAs .u8 d64) } : World) #[.slice none 0 0, .slice none 0 0] rfl (by kernel_rfl) (by kernel_rfl) (by kernel_rfl)
      (OpenSpec.preRow_of_cond 8 hx (by kernel_rfl) (fun k hk => by cases hk) (by kernel_rfl) (laid_met os))) ?_
  intro W base args ds gs before hval hW _ _ _ hL _ _
  exact contract H enc W base args ds gs before hval hW hL

theorem said : Rows.FnStaleSaid :=
  OpenClaim.holds_of_cond 3 Tryd.f3 rfl rfl rfl rfl rfl rfl rfl ⟨rfl, rfl, rfl, rfl, rfl⟩ rfl rfl rfl rfl rfl (by kernel_rfl) Tryd.func3 (by kernel_rfl)
    (of_decide_eq_true (by kernel_rfl)) (by unfold Func.isWrapper; first | (rw [if_pos (by decide +kernel)]; kernel_rfl) | (rw [if_neg (by decide +kernel)]; exact ⟨rfl, rfl⟩))
    (fun os started H enc _ F => by rw [OpenClaim.pre_eq_preRow]; exact lifted os started H enc F)

theorem plain (f : FuncId) (fn : Func) (hf : Tryd.pinned.checked.prog.funcNamed "loop.example/g00419/laws.FnStale" = some f) (hfn : Tryd.pinned.checked.prog.funcs[f]? = some fn) :
    false = Tryd.pinned.checked.prog.looks [] ∧ ∀ (j : Nat) t, fn.params[j]? = some t → Tryd.pinned.checked.prog.wantsStandIn t = false := by
  obtain rfl : f = 3 := Option.some.inj ((show Tryd.prog.funcNamed "loop.example/g00419/laws.FnStale" = some 3 by kernel_rfl).symm.trans hf) |>.symm
  obtain rfl : fn = Tryd.f3 := (Option.some.inj (Tryd.func3.symm.trans hfn)).symm
  refine ⟨by kernel_rfl, fun j t ht => ?_⟩
  rw [Tryd.params3] at ht
  have e : t = 22 := by have := Array.mem_of_getElem? ht; simpa using this
  subst e
  exact (show Tryd.prog.wantsStandIn 22 = false by kernel_rfl)
end Go.Proofs.YtlcppgnnlgigmaaDoor.fnStale
namespace Go.Proofs.YtlcppgnnlgigmaaDoor
/-- The card: a source goes at its time with all its edges; what is told of a topology is as the document says. -/
theorem fnStale_card : Rows.FnStaleCardSaid :=
  Claim7.holds_tied_plain_at .later [] _ _ _ _ fnStale.said (fun _ h => by cases h) (by kernel_rfl) (fun _ h => by cases h) fnStale_row_tie rfl ⟨rfl, rfl⟩ (by kernel_rfl) rfl fnStale.plain (by kernel_rfl)
end Go.Proofs.YtlcppgnnlgigmaaDoor
