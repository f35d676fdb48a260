/-
  Proved here: for all slices of bytes, laws.FnOnce returns true (a message that was marked is known till its time, and whether it was passed on; others' marks stay) and leaves the slices as they were. No condition.
-/
import Derived.Test.YtlcppgnnlgigmaaDupQ
import Derived.Test.YtlcppgnnlgigmaaAt
namespace Go.Proofs.Ytlcppgnnlgigmaa.fnOnce
open Go.ChangeShapes Go.WideShapes Go.ChangeAt Go.RowKit
open W1 By Tu St Du
set_option linter.unusedVariables false
set_option linter.unusedSimpArgs false
attribute [local go_sem ↓] Go.wp_at_zero Go.wp_at_succ
theorem own : ownKnob Try.prog.godebug = none := by kernel_rfl
theorem laidOut : laidOutB Try.prog = true := by kernel_rfl
theorem below_dN {w : World} (q : Nat) : Below w.heap.size w (w.drewN q) := ⟨rfl, rfl, rfl, Nat.le_refl _, fun _ _ => rfl⟩
theorem reads_under {w w' : World} {a : Option Addr} {bs : List UInt8} (h : Reads w a bs) (hb : Below w.heap.size w w') : Reads w' a bs :=
  Sr.reads_of_cells h (fun e0 g off o e => hb.cell (p := ⟨g, o, none⟩) (Sr.reads_lt h e0 e))
set_option maxRecDepth 100000 in
set_option maxHeartbeats 8000000 in
theorem walk (a : Option Addr) (bs : List UInt8) (cap : Nat) (hm0 : bs.length ≤ maxLen) (a' : Option Addr) (bs' : List UInt8) (cap' : Nat) (hm0' : bs'.length ≤ maxLen) (w : World) (hr : Reads w a bs) (hr' : Reads w a' bs') :
    Calls Try.prog 4 #[.slice a bs.length cap, .slice a' bs'.length cap'] w fun e w' => e = .returned (.bool true) ∧ Below w.heap.size w w' := by
  unfold maxLen at hm0 hm0'
  by_cases hb : (1048576 : Int) < bs.length
  · go_enter Try.func4, Try.ntmps4
    go_wp2
    go_ret
    exact ⟨rfl, Below.refl _ _⟩
  by_cases hb' : (1048576 : Int) < bs'.length
  · go_enter Try.func4, Try.ntmps4
    go_wp2
    go_ret
    exact ⟨rfl, Below.refl _ _⟩
  have hbm : bs.length ≤ 1048576 := by omega
  have hbm' : bs'.length ≤ 1048576 := by omega
  have HR := hide hr
  have HR' := hide hr'
  clear hr hr'
  go_enter Try.func4, Try.ntmps4
  go_wp2_with fail
  refine (dupsOf a bs cap _ hbm (unhide HR)).mono ?_
  rintro e w1 ⟨v1, ms, rfl, hv1, hset, hl1, b1⟩
  obtain ⟨g1, cp, rfl, hg1, hz1, hrm⟩ := hv1
  have HB1 := hide b1
  have HS := hide hset
  have HRM1 := hide hrm
  clear b1 hset hrm hg1 hz1
  go_wp2_with fail
  refine (At.choice a' bs' cap' 0 8 _ (by omega) (by omega) (by omega) hbm' (reads_under (unhide HR') (unhide HB1))).mono ?_
  rintro e w2 ⟨k0, rfl, hk0, q2, hq2⟩
  have b2 : Below w1.heap.size w1 w2 := by rw [hq2]; exact below_dN _
  have HB2 := hide ((unhide HB1).trans (b2.mono (unhide HB1).size))
  have HRM2 := hide ((unhide HRM1).below b2)
  clear HRM1
  clear b2 hq2
  obtain ⟨og, hog⟩ : ∃ og : Int, 1 + (k0 : Int) = og := ⟨_, rfl⟩
  have hog1 : 1 ≤ og ∧ og ≤ 8 := by omega
  have HOG := hide hog
  clear hog
  go_wp2_with fail
  rw [unhide HOG]
  refine (At.choice a' bs' cap' 1 6 _ (by omega) (by omega) (by omega) hbm' (reads_under (unhide HR') (unhide HB2))).mono ?_
  rintro e w3 ⟨k1, rfl, hk1, q3, hq3⟩
  have b3 : Below w2.heap.size w2 w3 := by rw [hq3]; exact below_dN _
  have HB3 := hide ((unhide HB2).trans (b3.mono (unhide HB2).size))
  have HRM3 := hide ((unhide HRM2).below b3)
  clear HRM2
  clear b3 hq3
  go_wp2_with fail
  refine (At.choice a' bs' cap' 2 40 _ (by omega) (by omega) (by omega) hbm' (reads_under (unhide HR') (unhide HB3))).mono ?_
  rintro e w4 ⟨k2, rfl, hk2, q4, hq4⟩
  have b4 : Below w3.heap.size w3 w4 := by rw [hq4]; exact below_dN _
  have HB4 := hide ((unhide HB3).trans (b4.mono (unhide HB3).size))
  have HRM4 := hide ((unhide HRM3).below b4)
  clear HRM3
  clear b4 hq4
  go_wp2_with fail
  refine (At.choice a' bs' cap' 3 2 _ (by omega) (by omega) (by omega) hbm' (reads_under (unhide HR') (unhide HB4))).mono ?_
  rintro e w5 ⟨k3, rfl, hk3, q5, hq5⟩
  have b5 : Below w4.heap.size w4 w5 := by rw [hq5]; exact below_dN _
  have HB5 := hide ((unhide HB4).trans (b5.mono (unhide HB4).size))
  have HRM5 := hide ((unhide HRM4).below b5)
  clear HRM4
  clear b5 hq5
  have HASK : Hid (askB og (k1 : Int) = true) := hide (by unfold askB inB; rw [decide_eq_true hog1.1, decide_eq_true hog1.2, decide_eq_true (by omega), decide_eq_true (by omega)]; rfl)
  have hk3' : k3 = 0 ∨ k3 = 1 := by omega
  clear hk3
  obtain rfl | rfl := hk3'
  · obtain ⟨P, hPA, hPE, hP0, hPl, hP1, hP2, hP3, hP4, hP5, hP6⟩ := once (unhide HS) (by omega) (og := og) (sq := (k1 : Int)) (now := (k2 : Int)) false (unhide HASK) (by omega) (by omega)
    have HPA := hide hPA
    have HPE := hide hPE
    have HP1 := hide hP1
    have HP2 := hide hP2
    have HP3 := hide hP3
    have HP4 := hide hP4
    have HP5 := hide hP5
    have HP6 := hide hP6
    clear hPA hPE hP1 hP2 hP3 hP4 hP5 hP6
    go_wp2_with fail
    refine (implMark g1 0 ms cp og k1 k2 false _ (by omega) (unhide HRM5)).mono ?_
    rintro e w6 ⟨v6, rfl, b6, l6⟩
    rw [unhide HPE]
    rw [unhide HPA] at l6
    obtain ⟨a6, c6, rfl, L6⟩ := l6
    obtain ⟨g6, rfl, hu6⟩ : ∃ g6, a6 = some ⟨g6, 0, none⟩ ∧ Upto w6 g6 P.length P.length P := by
      rcases L6 with h0 | ⟨g6, h1, _, _, _, h2⟩
      · rw [h0] at hP0; simp at hP0
      · exact ⟨g6, h1, h2⟩
    have HB6 := hide ((unhide HB5).trans (b6.mono (unhide HB5).size))
    have HRM6 := hide ((unhide HRM5).below b6)
    have HX6 := hide (rm_of hu6)
    clear b6 L6 hu6 HRM5
    go_wp2_with fail
    refine (specMark g1 0 ms cp og k1 k2 false _ (by omega) (unhide HRM6)).mono ?_
    rintro e w7 ⟨v7, rfl, b7, l7⟩
    rw [unhide HPE]
    rw [unhide HPA] at l7
    obtain ⟨a7, c7, rfl, L7⟩ := l7
    obtain ⟨g7, rfl, hu7⟩ : ∃ g7, a7 = some ⟨g7, 0, none⟩ ∧ Upto w7 g7 P.length P.length P := by
      rcases L7 with h0 | ⟨g7, h1, _, _, _, h2⟩
      · rw [h0] at hP0; simp at hP0
      · exact ⟨g7, h1, h2⟩
    have HB7 := hide ((unhide HB6).trans (b7.mono (unhide HB6).size))
    have HRM7 := hide ((unhide HRM6).below b7)
    have HX7 := hide ((unhide HX6).below b7)
    have HY7 := hide (rm_of hu7)
    clear b7 L7 hu7 HRM6 HX6
    go_wp2_with fail
    refine (implSeen _ P _ og k1 _ _ (by omega) (unhide HX7)).mono ?_
    rintro e w8 ⟨rfl, b8⟩
    rw [(unhide HP1 _ (by omega)).1, (unhide HP1 _ (by omega)).2, unhide HP3]
    have HB8 := hide ((unhide HB7).trans (b8.mono (unhide HB7).size))
    have HRM8 := hide ((unhide HRM7).below b8)
    have HX8 := hide ((unhide HX7).below b8)
    have HY8 := hide ((unhide HY7).below b8)
    clear b8 HRM7 HX7 HY7
    go_wp2_with fail
    refine (implSeen _ P _ og k1 _ _ (by omega) (unhide HX8)).mono ?_
    rintro e w9 ⟨rfl, b9⟩
    rw [(unhide HP2 _ (by omega)).1, (unhide HP2 _ (by omega)).2, unhide HP3]
    have HB9 := hide ((unhide HB8).trans (b9.mono (unhide HB8).size))
    have HRM9 := hide ((unhide HRM8).below b9)
    have HX9 := hide ((unhide HX8).below b9)
    have HY9 := hide ((unhide HY8).below b9)
    clear b9 HRM8 HX8 HY8
    go_wp2_with fail
    refine (implKey og k1 _).mono ?_
    rintro e w10 ⟨rfl, b10⟩
    rw [if_pos (unhide HASK), if_pos (unhide HASK)]
    have HB10 := hide ((unhide HB9).trans (b10.mono (unhide HB9).size))
    have HRM10 := hide ((unhide HRM9).below b10)
    have HX10 := hide ((unhide HX9).below b10)
    have HY10 := hide ((unhide HY9).below b10)
    clear b10 HRM9 HX9 HY9
    obtain ⟨KK, hKK⟩ : ∃ KK, keyD og (k1 : Int) = KK := ⟨_, rfl⟩
    rw [hKK] at HP4 HP5
    rw [hKK]
    clear hKK
    go_wp2_with fail
    refine (implFind g6 0 P c6 KK _ (by omega) (unhide HX10)).mono ?_
    rintro e w11 ⟨rfl, b11⟩
    rw [unhide HP4, unhide HP5]
    unfold R.value
    dsimp only
    have HB11 := hide ((unhide HB10).trans (b11.mono (unhide HB10).size))
    have HRM11 := hide ((unhide HRM10).below b11)
    have HX11 := hide ((unhide HX10).below b11)
    have HY11 := hide ((unhide HY10).below b11)
    clear b11 HRM10 HX10 HY10
    have hti : ((k2 : Int) + 30 != (k2 : Int) + 30) = false := by simp
    obtain ⟨va, hva⟩ : ∃ va, bitD false = va := ⟨_, rfl⟩
    rw [hva]
    clear hva
    have b12 : Below w11.heap.size w11 (w11.alloc (.cells #[.int .i64 KK, .int .i64 ((k2 : Int) + 30), .int .i64 va] 57)) := (Below.refl _ _).alloc (Nat.le_refl _) _
    have HT12 : Hid (Bx (w11.alloc (.cells #[.int .i64 KK, .int .i64 ((k2 : Int) + 30), .int .i64 va] 57)) w11.heap.size ⟨KK, (k2 : Int) + 30, va⟩) := hide (bx_new w11 ⟨KK, (k2 : Int) + 30, va⟩ _)
    obtain ⟨w12, hw12⟩ : ∃ w12, w11.alloc (.cells #[.int .i64 KK, .int .i64 ((k2 : Int) + 30), .int .i64 va] 57) = w12 := ⟨_, rfl⟩
    rw [hw12] at b12 HT12
    have HW12 := hide hw12
    clear hw12
    have HB12 := hide ((unhide HB11).trans (b12.mono (unhide HB11).size))
    have HRM12 := hide ((unhide HRM11).below b12)
    have HX12 := hide ((unhide HX11).below b12)
    have HY12 := hide ((unhide HY11).below b12)
    clear b12 HRM11 HX11 HY11
    go_wp2_with fail
    rw [unhide HW12]
    refine (Sr.sameSet _ _ P _ _ _ (by omega) (unhide HX12) (unhide HY12)).mono ?_
    rintro e w13 ⟨rfl, b13⟩
    have HT13 := hide ((unhide HT12).below b13)
    have HB13 := hide ((unhide HB12).trans (b13.mono (unhide HB12).size))
    have HRM13 := hide ((unhide HRM12).below b13)
    have HX13 := hide ((unhide HX12).below b13)
    clear b13 HRM12 HX12
    obtain ⟨t0, t1, t2⟩ := unhide HT13
    go_wp2_with fail
    clear t0 t1 t2
    refine (At.choice a' bs' cap' 4 8 _ (by omega) (by omega) (by omega) hbm' (reads_under (unhide HR') (unhide HB13))).mono ?_
    rintro e w14 ⟨k4, rfl, hk4, q14, hq14⟩
    have b14 : Below w13.heap.size w13 w14 := by rw [hq14]; exact below_dN _
    have HB14 := hide ((unhide HB13).trans (b14.mono (unhide HB13).size))
    have HRM14 := hide ((unhide HRM13).below b14)
    have HX14 := hide ((unhide HX13).below b14)
    clear b14 HRM13 HX13
    clear hq14
    obtain ⟨ot, hot⟩ : ∃ ot : Int, 1 + (k4 : Int) = ot := ⟨_, rfl⟩
    have hot1 : 1 ≤ ot ∧ ot ≤ 8 := by omega
    have HOT := hide hot
    clear hot
    have HAS2 : Hid (askB ot ((k1 : Int) + 1) = true) := hide (by unfold askB inB; rw [decide_eq_true hot1.1, decide_eq_true hot1.2, decide_eq_true (by omega), decide_eq_true (by omega)]; rfl)
    have HQ := hide (unhide HP6 ot ((k1 : Int) + 1) (k2 : Int) (unhide HAS2) (by omega))
    go_wp2_with fail
    rw [unhide HOT]
    refine (implSeen _ ms _ ot ((k1 : Int) + 1) k2 _ (by omega) (unhide HRM14)).mono ?_
    rintro e w15 ⟨rfl, b15⟩
    rw [(unhide HQ).1]
    have HB15 := hide ((unhide HB14).trans (b15.mono (unhide HB14).size))
    have HX15 := hide ((unhide HX14).below b15)
    clear b15 HX14
    obtain ⟨s1, hs1⟩ : ∃ s1, seenD ms ot ((k1 : Int) + 1) (k2 : Int) = s1 := ⟨_, rfl⟩
    obtain ⟨s2, hs2⟩ : ∃ s2, sentD ms ot ((k1 : Int) + 1) (k2 : Int) = s2 := ⟨_, rfl⟩
    have HQ2 := unhide HQ
    rw [hs1, hs2] at HQ2
    rw [hs1, hs2]
    have HQ3 := hide HQ2
    clear hs1 hs2 HQ2 HQ
    have e1 : (s1 == s1) = true := by simp
    have e2 : (s2 == s2) = true := by simp
    go_wp2_with fail
    try rw [unhide HOT]
    refine (implSeen _ P _ ot ((k1 : Int) + 1) k2 _ (by omega) (unhide HX15)).mono ?_
    rintro e w16 ⟨rfl, b16⟩
    rw [(unhide HQ3).2.1, (unhide HQ3).2.2.1, (unhide HQ3).2.2.2]
    have HF := hide ((unhide HB15).trans (b16.mono (unhide HB15).size))
    clear b16
    go_wp2_with fail
    go_ret
    refine ⟨ret_bool ?_, unhide HF⟩
    simp
  · obtain ⟨P, hPA, hPE, hP0, hPl, hP1, hP2, hP3, hP4, hP5, hP6⟩ := once (unhide HS) (by omega) (og := og) (sq := (k1 : Int)) (now := (k2 : Int)) true (unhide HASK) (by omega) (by omega)
    have HPA := hide hPA
    have HPE := hide hPE
    have HP1 := hide hP1
    have HP2 := hide hP2
    have HP3 := hide hP3
    have HP4 := hide hP4
    have HP5 := hide hP5
    have HP6 := hide hP6
    clear hPA hPE hP1 hP2 hP3 hP4 hP5 hP6
    go_wp2_with fail
    refine (implMark g1 0 ms cp og k1 k2 true _ (by omega) (unhide HRM5)).mono ?_
    rintro e w6 ⟨v6, rfl, b6, l6⟩
    rw [unhide HPE]
    rw [unhide HPA] at l6
    obtain ⟨a6, c6, rfl, L6⟩ := l6
    obtain ⟨g6, rfl, hu6⟩ : ∃ g6, a6 = some ⟨g6, 0, none⟩ ∧ Upto w6 g6 P.length P.length P := by
      rcases L6 with h0 | ⟨g6, h1, _, _, _, h2⟩
      · rw [h0] at hP0; simp at hP0
      · exact ⟨g6, h1, h2⟩
    have HB6 := hide ((unhide HB5).trans (b6.mono (unhide HB5).size))
    have HRM6 := hide ((unhide HRM5).below b6)
    have HX6 := hide (rm_of hu6)
    clear b6 L6 hu6 HRM5
    go_wp2_with fail
    refine (specMark g1 0 ms cp og k1 k2 true _ (by omega) (unhide HRM6)).mono ?_
    rintro e w7 ⟨v7, rfl, b7, l7⟩
    rw [unhide HPE]
    rw [unhide HPA] at l7
    obtain ⟨a7, c7, rfl, L7⟩ := l7
    obtain ⟨g7, rfl, hu7⟩ : ∃ g7, a7 = some ⟨g7, 0, none⟩ ∧ Upto w7 g7 P.length P.length P := by
      rcases L7 with h0 | ⟨g7, h1, _, _, _, h2⟩
      · rw [h0] at hP0; simp at hP0
      · exact ⟨g7, h1, h2⟩
    have HB7 := hide ((unhide HB6).trans (b7.mono (unhide HB6).size))
    have HRM7 := hide ((unhide HRM6).below b7)
    have HX7 := hide ((unhide HX6).below b7)
    have HY7 := hide (rm_of hu7)
    clear b7 L7 hu7 HRM6 HX6
    go_wp2_with fail
    refine (implSeen _ P _ og k1 _ _ (by omega) (unhide HX7)).mono ?_
    rintro e w8 ⟨rfl, b8⟩
    rw [(unhide HP1 _ (by omega)).1, (unhide HP1 _ (by omega)).2, unhide HP3]
    have HB8 := hide ((unhide HB7).trans (b8.mono (unhide HB7).size))
    have HRM8 := hide ((unhide HRM7).below b8)
    have HX8 := hide ((unhide HX7).below b8)
    have HY8 := hide ((unhide HY7).below b8)
    clear b8 HRM7 HX7 HY7
    go_wp2_with fail
    refine (implSeen _ P _ og k1 _ _ (by omega) (unhide HX8)).mono ?_
    rintro e w9 ⟨rfl, b9⟩
    rw [(unhide HP2 _ (by omega)).1, (unhide HP2 _ (by omega)).2, unhide HP3]
    have HB9 := hide ((unhide HB8).trans (b9.mono (unhide HB8).size))
    have HRM9 := hide ((unhide HRM8).below b9)
    have HX9 := hide ((unhide HX8).below b9)
    have HY9 := hide ((unhide HY8).below b9)
    clear b9 HRM8 HX8 HY8
    go_wp2_with fail
    refine (implKey og k1 _).mono ?_
    rintro e w10 ⟨rfl, b10⟩
    rw [if_pos (unhide HASK), if_pos (unhide HASK)]
    have HB10 := hide ((unhide HB9).trans (b10.mono (unhide HB9).size))
    have HRM10 := hide ((unhide HRM9).below b10)
    have HX10 := hide ((unhide HX9).below b10)
    have HY10 := hide ((unhide HY9).below b10)
    clear b10 HRM9 HX9 HY9
    obtain ⟨KK, hKK⟩ : ∃ KK, keyD og (k1 : Int) = KK := ⟨_, rfl⟩
    rw [hKK] at HP4 HP5
    rw [hKK]
    clear hKK
    go_wp2_with fail
    refine (implFind g6 0 P c6 KK _ (by omega) (unhide HX10)).mono ?_
    rintro e w11 ⟨rfl, b11⟩
    rw [unhide HP4, unhide HP5]
    unfold R.value
    dsimp only
    have HB11 := hide ((unhide HB10).trans (b11.mono (unhide HB10).size))
    have HRM11 := hide ((unhide HRM10).below b11)
    have HX11 := hide ((unhide HX10).below b11)
    have HY11 := hide ((unhide HY10).below b11)
    clear b11 HRM10 HX10 HY10
    have hti : ((k2 : Int) + 30 != (k2 : Int) + 30) = false := by simp
    obtain ⟨va, hva⟩ : ∃ va, bitD true = va := ⟨_, rfl⟩
    rw [hva]
    clear hva
    have b12 : Below w11.heap.size w11 (w11.alloc (.cells #[.int .i64 KK, .int .i64 ((k2 : Int) + 30), .int .i64 va] 57)) := (Below.refl _ _).alloc (Nat.le_refl _) _
    have HT12 : Hid (Bx (w11.alloc (.cells #[.int .i64 KK, .int .i64 ((k2 : Int) + 30), .int .i64 va] 57)) w11.heap.size ⟨KK, (k2 : Int) + 30, va⟩) := hide (bx_new w11 ⟨KK, (k2 : Int) + 30, va⟩ _)
    obtain ⟨w12, hw12⟩ : ∃ w12, w11.alloc (.cells #[.int .i64 KK, .int .i64 ((k2 : Int) + 30), .int .i64 va] 57) = w12 := ⟨_, rfl⟩
    rw [hw12] at b12 HT12
    have HW12 := hide hw12
    clear hw12
    have HB12 := hide ((unhide HB11).trans (b12.mono (unhide HB11).size))
    have HRM12 := hide ((unhide HRM11).below b12)
    have HX12 := hide ((unhide HX11).below b12)
    have HY12 := hide ((unhide HY11).below b12)
    clear b12 HRM11 HX11 HY11
    go_wp2_with fail
    rw [unhide HW12]
    refine (Sr.sameSet _ _ P _ _ _ (by omega) (unhide HX12) (unhide HY12)).mono ?_
    rintro e w13 ⟨rfl, b13⟩
    have HT13 := hide ((unhide HT12).below b13)
    have HB13 := hide ((unhide HB12).trans (b13.mono (unhide HB12).size))
    have HRM13 := hide ((unhide HRM12).below b13)
    have HX13 := hide ((unhide HX12).below b13)
    clear b13 HRM12 HX12
    obtain ⟨t0, t1, t2⟩ := unhide HT13
    go_wp2_with fail
    clear t0 t1 t2
    refine (At.choice a' bs' cap' 4 8 _ (by omega) (by omega) (by omega) hbm' (reads_under (unhide HR') (unhide HB13))).mono ?_
    rintro e w14 ⟨k4, rfl, hk4, q14, hq14⟩
    have b14 : Below w13.heap.size w13 w14 := by rw [hq14]; exact below_dN _
    have HB14 := hide ((unhide HB13).trans (b14.mono (unhide HB13).size))
    have HRM14 := hide ((unhide HRM13).below b14)
    have HX14 := hide ((unhide HX13).below b14)
    clear b14 HRM13 HX13
    clear hq14
    obtain ⟨ot, hot⟩ : ∃ ot : Int, 1 + (k4 : Int) = ot := ⟨_, rfl⟩
    have hot1 : 1 ≤ ot ∧ ot ≤ 8 := by omega
    have HOT := hide hot
    clear hot
    have HAS2 : Hid (askB ot ((k1 : Int) + 1) = true) := hide (by unfold askB inB; rw [decide_eq_true hot1.1, decide_eq_true hot1.2, decide_eq_true (by omega), decide_eq_true (by omega)]; rfl)
    have HQ := hide (unhide HP6 ot ((k1 : Int) + 1) (k2 : Int) (unhide HAS2) (by omega))
    go_wp2_with fail
    rw [unhide HOT]
    refine (implSeen _ ms _ ot ((k1 : Int) + 1) k2 _ (by omega) (unhide HRM14)).mono ?_
    rintro e w15 ⟨rfl, b15⟩
    rw [(unhide HQ).1]
    have HB15 := hide ((unhide HB14).trans (b15.mono (unhide HB14).size))
    have HX15 := hide ((unhide HX14).below b15)
    clear b15 HX14
    obtain ⟨s1, hs1⟩ : ∃ s1, seenD ms ot ((k1 : Int) + 1) (k2 : Int) = s1 := ⟨_, rfl⟩
    obtain ⟨s2, hs2⟩ : ∃ s2, sentD ms ot ((k1 : Int) + 1) (k2 : Int) = s2 := ⟨_, rfl⟩
    have HQ2 := unhide HQ
    rw [hs1, hs2] at HQ2
    rw [hs1, hs2]
    have HQ3 := hide HQ2
    clear hs1 hs2 HQ2 HQ
    have e1 : (s1 == s1) = true := by simp
    have e2 : (s2 == s2) = true := by simp
    go_wp2_with fail
    try rw [unhide HOT]
    refine (implSeen _ P _ ot ((k1 : Int) + 1) k2 _ (by omega) (unhide HX15)).mono ?_
    rintro e w16 ⟨rfl, b16⟩
    rw [(unhide HQ3).2.1, (unhide HQ3).2.2.1, (unhide HQ3).2.2.2]
    have HF := hide ((unhide HB15).trans (b16.mono (unhide HB15).size))
    clear b16
    go_wp2_with fail
    go_ret
    refine ⟨ret_bool ?_, unhide HF⟩
    simp

set_option maxRecDepth 100000 in
theorem lifted (os : Os) (started : os.Started) (H : Type) (enc : TypeId × Value → H) :
    ReturnsInHanded {} Try.checked os 4 .any (Rows.fnOnceSpec.pre6 enc Try.prog Try.f4 Rows.fnOnceRow.domain false) (Rows.fnOnceSpec.post enc Try.prog Try.f4 false true false false) := by
  refine returnsInHanded_of_change (C := Try.checked) own started (by kernel_rfl) Try.func4
    (ChangeSpec.witness6 (enc := enc) (C := Try.checked) false ⟨#[], #[.slice none 0 0, .slice none 0 0], []⟩ 8 (by kernel_rfl) (by kernel_rfl) (by kernel_rfl) (by kernel_rfl)) ?_
  intro W base args ds gs before hval0 hW hcnd _
  have hval : ∀ (j : Nat) t v, Try.f4.params[j]? = some t → args[j]? = some v → Value.okWide Try.prog W .any base t v := hval0
  have hW' := hW
  obtain ⟨p, q, hA0, hV, rfl, hfz, hnd⟩ := hW
  have hA : DataW.TrodAll enc Try.prog W 0 (fun _ => true) true Try.f4.params.toList args.toList ds p := hA0
  rw [Try.params4] at hA hval
  obtain ⟨v0, vs0, d0, ds0, p0, q0, hargs0, rfl, rfl, h0, r0⟩ := trodAll_cons hA
  obtain ⟨v1, vs1, d1, ds1, p1, q1, hargs1, rfl, rfl, h1, r1⟩ := trodAll_cons r0
  obtain ⟨rfl, rfl, rfl⟩ := trodAll_nil r1
  obtain rfl : args = #[v0, v1] := by cases args; simp_all
  obtain ⟨rfl, rfl⟩ := trodVars_none hV
  have k0 := h0
  have lt0 : ∀ x ∈ p0, x.block < W.heap.size := by obtain ⟨m, hm⟩ := k0; exact DataW.trod_lt m _ _ _ hm
  have k1 := h1
  have lt1 : ∀ x ∈ p1, x.block < W.heap.size := by obtain ⟨m, hm⟩ := k1; exact DataW.trod_lt m _ _ _ hm
  obtain ⟨a0, len0, cap0, rfl⟩ := okWide_slice Try.underlying22 (hval 0 22 v0 rfl rfl)
  obtain ⟨bs0, hlen0, hmx0, hrd0⟩ := Op.open_bytes h0
  subst hlen0
  obtain ⟨a1, len1, cap1, rfl⟩ := okWide_slice Try.underlying22 (hval 1 22 v1 rfl rfl)
  obtain ⟨bs1, hlen1, hmx1, hrd1⟩ := Op.open_bytes h1
  subst hlen1
  clear hA0 hval0
  refine (walk a0 bs0 cap0 hmx0 a1 bs1 cap1 hmx1 W hrd0 hrd1).mono fun e W' ⟨he, bel⟩ => ?_
  subst he
  exact ⟨_, rfl, _, _, _, [], _, [], hW', trodAll_mk1 (shut_bool Try.underlying4 _), (trodAll_cons_mk (Below.trod laidOut (by kernel_rfl) (of_decide_eq_true (by kernel_rfl)) k0 bel lt0) (trodAll_cons_mk (Below.trod laidOut (by kernel_rfl) (of_decide_eq_true (by kernel_rfl)) k1 bel lt1) trodAll_mk0)), rfl, bel.frame _, fun h => by cases h⟩

theorem over : Rows.fnOnceRow.holds Try.pinned (OpenSpec.ofChange Rows.fnOnceSpec) :=
  OpenClaim.holds_of_wide 4 Try.f4 rfl rfl rfl rfl rfl rfl rfl ⟨rfl, rfl, rfl, rfl, rfl⟩ rfl rfl rfl rfl rfl (by kernel_rfl) Try.func4 (by kernel_rfl)
    (of_decide_eq_true (by kernel_rfl)) (by unfold Func.isWrapper; first | (rw [if_pos (by decide +kernel)]; kernel_rfl) | (rw [if_neg (by decide +kernel)]; exact ⟨rfl, rfl⟩))
    (fun os started H enc _ => lifted os started H enc)
end Go.Proofs.Ytlcppgnnlgigmaa.fnOnce
namespace Go.Proofs.Ytlcppgnnlgigmaa
/-- A message that was marked is known till its time, and whether it was passed on; others' marks stay. -/
theorem fnOnce_holds : Rows.FnOnceSaid := fnOnce.over
end Go.Proofs.Ytlcppgnnlgigmaa
