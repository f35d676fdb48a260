/-
  Proved here: for every argument, laws.FnExactTopologyExpire returns true (the program's TopologyExpire answers as its model, leaves its arguments alone, and answers in memory of its own), and leaves what came in as it was. No condition. (The walk is written by mktoplaw.py.)
-/
import Derived.Test.YtmelbilepfnmjapTopZ
import Derived.Test.YtmelbilepfnmjapStrTop
namespace Go.Proofs.Ytmelbilepfnmjap.fnExactTopologyExpire
open Go.ChangeShapes Go.WideShapes Go.ChangeAt Go.RowKit
open W1 Tp
set_option linter.unusedVariables false
set_option linter.unusedSimpArgs false
theorem own : ownKnob Try.prog.godebug = none := by kernel_rfl
theorem laidOut : laidOutB Try.prog = true := by kernel_rfl
theorem sH2 {w : World} {b c : Nat} {x y x2 y2 : Value} (h : Bx2 w b x y) (h2 : Bx2 w c x2 y2) :
    (Bx2 w b x y ∧ Bx2 w c x2 y2) ∧ w.cell? ⟨b, 0, none⟩ = some x ∧ w.cell? ⟨b, 1, none⟩ = some y ∧ w.cell? ⟨c, 0, none⟩ = some x2 ∧ w.cell? ⟨c, 1, none⟩ = some y2 := ⟨⟨h, h2⟩, h.1, h.2, h2.1, h2.2⟩
set_option maxRecDepth 100000 in
set_option maxHeartbeats 16000000 in
theorem walk (a : Option Addr) (ss : List So.R) (ca : Nat) (b : Option Addr) (es : List Tu.R) (cb : Nat) (hm_ss : ss.length ≤ maxLen) (hm_es : es.length ≤ maxLen) (now : Int) (wf_now : (Lit.int .i64 now).wf = true) (w : World) (hr_ss : So.RM w a ss) (hr_es : Tu.RM w b es) :
    Calls Try.prog 6 #[.agg #[.slice a ss.length ca, .slice b es.length cb], .int .i64 now] w fun e w' => e = .returned (.bool true) ∧ Below w.heap.size w w' := by
  have HR_ss := hide hr_ss
  have HR_es := hide hr_es
  clear hr_ss hr_es
  obtain ⟨w1, hw1⟩ : ∃ w1, w.alloc (.cells #[.slice a ss.length ca, .slice b es.length cb] 37) = w1 := ⟨_, rfl⟩
  have B1 : Below w.heap.size w w1 := by rw [← hw1]; exact (Below.refl _ _).alloc (Nat.le_refl _) _
  have Q1 : Hid (Bx2 w1 w.heap.size (.slice a ss.length ca) (.slice b es.length cb)) := hide (by rw [← hw1]; exact bx2_new _ _ _ _)
  have hq1 : w.heap.size < w1.heap.size := (unhide Q1).lt
  have HW1 := hide hw1
  clear hw1
  go_enter Try.func6, Try.ntmps6
  go_wp2_with fail
  rw [unhide HW1]
  refine (Tq.sz a ss.length ca b es.length cb 1048576 _ (by omega) (by omega) hm_ss hm_es).mono ?_
  rintro e w2 ⟨r2, rfl, b2, hr01⟩
  have B2 := B1.trans (b2.mono B1.size)
  have sz2 : w1.heap.size ≤ w2.heap.size := b2.size
  have Q2 := hide ((unhide Q1).below b2)
  clear Q1
  rcases hr01 with hr0 | ⟨hr0, hr1⟩
  · go_wp2_with fail
    go_ret
    exact ⟨rfl, B2⟩
  have hnn2 : ¬ r2 < 0 := by omega
  have hml_ss : ss.length ≤ 1048576 := by omega
  have hml_es : es.length ≤ 1048576 := by omega
  have hrl2 : r2 ≤ 1048576 := by omega
  clear hr1 hm_ss hm_es
  have hoA : (expS ss es now).length ≤ 1048576 := Nat.le_trans (expS_len ss es now) hml_ss
  have hoB : (expE ss es now).length ≤ 1048576 := Nat.le_trans (expE_len ss es now) hml_es
  obtain ⟨zQ0, zQ1⟩ := unhide Q2
  go_wp2_with fail
  clear zQ0 zQ1
  refine (Tq.to a ss ca b es cb _ hml_ss hml_es ((unhide HR_ss).below B2) ((unhide HR_es).below B2)).mono ?_
  rintro e w3 ⟨g3, h3, rfl, b3, hg3, u3, v3⟩
  have B3 := B2.trans (b3.mono B2.size)
  have sz3 : w2.heap.size ≤ w3.heap.size := b3.size
  have Q3 := hide ((unhide Q2).below b3)
  clear Q2
  have Ss3 : Hid (So.Lst w3 (some ⟨g3, 0, none⟩) ss w2.heap.size h3) := hide (.inr ⟨g3, rfl, hg3.1, hg3.2.1, by omega, u3⟩)
  have Se3 : Hid (Tu.Lst w3 (some ⟨h3, 0, none⟩) es h3 w3.heap.size) := hide (.inr ⟨h3, rfl, Nat.le_refl _, hg3.2.2, hg3.2.2, v3⟩)
  clear u3 v3
  go_wp2_with fail
  refine (specExpire _ _ ss _ _ _ es _ now _ (Nat.le_refl _) hml_ss hml_es (unhide Ss3).rm (unhide Se3).rm).mono ?_
  rintro e w4 ⟨v4, rfl, b4, l4⟩
  have B4 := B3.trans (b4.mono B3.size)
  have sz4 : w3.heap.size ≤ w4.heap.size := b4.size
  have Q4 := hide ((unhide Q3).below b4)
  have Ss4 := hide ((unhide Ss3).below b4)
  have Se4 := hide ((unhide Se3).below b4)
  clear Q3 Ss3 Se3
  obtain ⟨vs4, ve4, mid4, rfl, ⟨as4, cs4, rfl, L4⟩, ⟨ae4, ce4, rfl, M4⟩, q4, p4⟩ := l4
  have Ws4 := hide L4
  have We4 := hide M4
  clear L4 M4
  obtain ⟨cd, hcd⟩ : ∃ cd, topC ss es = cd := ⟨_, rfl⟩
  have HC := hide hcd
  rw [hcd]
  clear hcd
  have hne : (cd != cd) = false := by simp
  clear Ss4
  clear Se4
  obtain ⟨zQ0, zQ1⟩ := unhide Q4
  have yQ := (unhide Q4).lt
  go_wp2_with fail
  clear zQ0 zQ1
  clear yQ
  obtain ⟨w5, hw5⟩ : ∃ w5, w4.alloc (.cells #[.slice as4 (expS ss es now).length cs4, .slice ae4 (expE ss es now).length ce4] 42) = w5 := ⟨_, rfl⟩
  have b5 : Below w4.heap.size w4 w5 := by rw [← hw5]; exact (Below.refl _ _).alloc (Nat.le_refl _) _
  have B5 := B4.trans (b5.mono B4.size)
  have sz5 : w4.heap.size ≤ w5.heap.size := b5.size
  have sy5 : w5.heap.size = w4.heap.size + 1 := by rw [← hw5]; simp
  have Q5 := hide ((unhide Q4).below b5)
  have Ws5 := hide ((unhide Ws4).below b5)
  have We5 := hide ((unhide We4).below b5)
  clear Q4 Ws4 We4
  have WB5 : Hid (Bx2 w5 w4.heap.size (.slice as4 (expS ss es now).length cs4) (.slice ae4 (expE ss es now).length ce4)) := hide (by rw [← hw5]; exact bx2_new _ _ _ _)
  have HW5 := hide hw5
  clear hw5
  rw [unhide HW5]
  refine (Tq.to a ss ca b es cb _ hml_ss hml_es ((unhide HR_ss).below B5) ((unhide HR_es).below B5)).mono ?_
  rintro e w6 ⟨g6, h6, rfl, b6, hg6, u6, v6⟩
  have B6 := B5.trans (b6.mono B5.size)
  have sz6 : w5.heap.size ≤ w6.heap.size := b6.size
  have Q6 := hide ((unhide Q5).below b6)
  have Ws6 := hide ((unhide Ws5).below b6)
  have We6 := hide ((unhide We5).below b6)
  have WB6 := hide ((unhide WB5).below b6)
  clear Q5 Ws5 We5 WB5
  have Xs6 : Hid (So.Lst w6 (some ⟨g6, 0, none⟩) ss w5.heap.size h6) := hide (.inr ⟨g6, rfl, hg6.1, hg6.2.1, by omega, u6⟩)
  have Xe6 : Hid (Tu.Lst w6 (some ⟨h6, 0, none⟩) es h6 w6.heap.size) := hide (.inr ⟨h6, rfl, Nat.le_refl _, hg6.2.2, hg6.2.2, v6⟩)
  clear u6 v6
  obtain ⟨w7, hw7⟩ : ∃ w7, w6.alloc (.cells #[.slice (some ⟨g6, 0, none⟩) ss.length ss.length, .slice (some ⟨h6, 0, none⟩) es.length es.length] 42) = w7 := ⟨_, rfl⟩
  have b7 : Below w6.heap.size w6 w7 := by rw [← hw7]; exact (Below.refl _ _).alloc (Nat.le_refl _) _
  have B7 := B6.trans (b7.mono B6.size)
  have sz7 : w6.heap.size ≤ w7.heap.size := b7.size
  have sy7 : w7.heap.size = w6.heap.size + 1 := by rw [← hw7]; simp
  have Q7 := hide ((unhide Q6).below b7)
  have Ws7 := hide ((unhide Ws6).below b7)
  have We7 := hide ((unhide We6).below b7)
  have WB7 := hide ((unhide WB6).below b7)
  have Xs7 := hide ((unhide Xs6).below b7)
  have Xe7 := hide ((unhide Xe6).below b7)
  clear Q6 Ws6 We6 WB6 Xs6 Xe6
  have V7 : Hid (Bx2 w7 w6.heap.size (.slice (some ⟨g6, 0, none⟩) ss.length ss.length) (.slice (some ⟨h6, 0, none⟩) es.length es.length)) := hide (by rw [← hw7]; exact bx2_new _ _ _ _)
  have HW7 := hide hw7
  clear hw7
  go_wp2_with fail
  rw [unhide HW7]
  refine (implExpire _ ss _ _ es _ now _ hml_ss hml_es (unhide Xs7).rm (unhide Xe7).rm).mono ?_
  rintro e w8 ⟨v8, rfl, b8, l8⟩
  have B8 := B7.trans (b8.mono B7.size)
  have sz8 : w7.heap.size ≤ w8.heap.size := b8.size
  have Q8 := hide ((unhide Q7).below b8)
  have Ws8 := hide ((unhide Ws7).below b8)
  have We8 := hide ((unhide We7).below b8)
  have WB8 := hide ((unhide WB7).below b8)
  have Xs8 := hide ((unhide Xs7).below b8)
  have Xe8 := hide ((unhide Xe7).below b8)
  have V8 := hide ((unhide V7).below b8)
  clear Q7 Ws7 We7 WB7 Xs7 Xe7 V7
  obtain ⟨vs8, ve8, mid8, rfl, ⟨as8, cs8, rfl, L8⟩, ⟨ae8, ce8, rfl, M8⟩, q8, p8⟩ := l8
  have Gs8 := hide L8
  have Ge8 := hide M8
  clear L8 M8
  rw [unhide HC]
  obtain ⟨zWB0, zWB1⟩ := unhide WB8
  have yWB := (unhide WB8).lt
  go_wp2_with fail
  clear zWB0 zWB1
  clear yWB
  obtain ⟨w9, hw9⟩ : ∃ w9, w8.alloc (.cells #[.slice as8 (expS ss es now).length cs8, .slice ae8 (expE ss es now).length ce8] 42) = w9 := ⟨_, rfl⟩
  have b9 : Below w8.heap.size w8 w9 := by rw [← hw9]; exact (Below.refl _ _).alloc (Nat.le_refl _) _
  have B9 := B8.trans (b9.mono B8.size)
  have sz9 : w8.heap.size ≤ w9.heap.size := b9.size
  have sy9 : w9.heap.size = w8.heap.size + 1 := by rw [← hw9]; simp
  have Q9 := hide ((unhide Q8).below b9)
  have Ws9 := hide ((unhide Ws8).below b9)
  have We9 := hide ((unhide We8).below b9)
  have WB9 := hide ((unhide WB8).below b9)
  have Xs9 := hide ((unhide Xs8).below b9)
  have Xe9 := hide ((unhide Xe8).below b9)
  have V9 := hide ((unhide V8).below b9)
  have Gs9 := hide ((unhide Gs8).below b9)
  have Ge9 := hide ((unhide Ge8).below b9)
  clear Q8 Ws8 We8 WB8 Xs8 Xe8 V8 Gs8 Ge8
  have GB9 : Hid (Bx2 w9 w8.heap.size (.slice as8 (expS ss es now).length cs8) (.slice ae8 (expE ss es now).length ce8)) := hide (by rw [← hw9]; exact bx2_new _ _ _ _)
  have HW9 := hide hw9
  clear hw9
  rw [unhide HW9]
  refine (Tq.eq _ (expS ss es now) _ _ (expE ss es now) _ _ _ _ _ _ hoA hoB (unhide Gs9).rm (unhide Ge9).rm (unhide Ws9).rm (unhide We9).rm).mono ?_
  rintro e w10 ⟨rfl, b10⟩
  have B10 := B9.trans (b10.mono B9.size)
  have sz10 : w9.heap.size ≤ w10.heap.size := b10.size
  have Q10 := hide ((unhide Q9).below b10)
  have Ws10 := hide ((unhide Ws9).below b10)
  have We10 := hide ((unhide We9).below b10)
  have WB10 := hide ((unhide WB9).below b10)
  have Xs10 := hide ((unhide Xs9).below b10)
  have Xe10 := hide ((unhide Xe9).below b10)
  have V10 := hide ((unhide V9).below b10)
  have Gs10 := hide ((unhide Gs9).below b10)
  have Ge10 := hide ((unhide Ge9).below b10)
  have GB10 := hide ((unhide GB9).below b10)
  clear Q9 Ws9 We9 WB9 Xs9 Xe9 V9 Gs9 Ge9 GB9
  go_wp2_with fail
  refine wp_region_noPanic ?_
  refine wp_region_held_drew (S := fun w' => (Bx2 w' w6.heap.size (.slice (some ⟨g6, 0, none⟩) ss.length ss.length) (.slice (some ⟨h6, 0, none⟩) es.length es.length) ∧ Bx2 w' w.heap.size (.slice a ss.length ca) (.slice b es.length cb)) ∧ w'.cell? ⟨w6.heap.size, 0, none⟩ = some (.slice (some ⟨g6, 0, none⟩) ss.length ss.length) ∧ w'.cell? ⟨w6.heap.size, 1, none⟩ = some (.slice (some ⟨h6, 0, none⟩) es.length es.length) ∧ w'.cell? ⟨w.heap.size, 0, none⟩ = some (.slice a ss.length ca) ∧ w'.cell? ⟨w.heap.size, 1, none⟩ = some (.slice b es.length cb)) (by kernel_rfl) (sH2 (unhide V10).drew (unhide Q10).drew) (fun hHeld => ?_)
  (refine Rg.tk (i := 0) (d := 45) (v := ?_) rfl rfl (by kernel_rfl) (by kernel_rfl) (by kernel_rfl) (fun _ _ _ h => h) (by rfl) ?_ (by assumption) ?_; rotate_left; (focus (intro w0 hSw; (try dsimp only at hSw); go_simp; (try with_reducible rfl))); (try simp only [Act.put, List.setIfInBounds_toArray, List.set_cons_zero, List.set_cons_succ]))
  (refine Rg.tk (i := 1) (d := 46) (v := ?_) rfl rfl (by kernel_rfl) (by kernel_rfl) (by kernel_rfl) (fun _ _ _ h => h) (by rfl) ?_ (by assumption) ?_; rotate_left; (focus (intro w0 hSw; (try dsimp only at hSw); go_simp; (try with_reducible rfl))); (try simp only [Act.put, List.setIfInBounds_toArray, List.set_cons_zero, List.set_cons_succ]))
  (refine wpAnyH_ready (rs := [2]) (by kernel_rfl) (by simp) ?_; refine AllReadyH.cons (o := _) rfl (fun K hK => ?_) AllReadyH.nil; go_simp)
  refine (Tq.to a ss ca b es cb _ hml_ss hml_es ((unhide HR_ss).below B10.drew) ((unhide HR_es).below B10.drew)).mono ?_
  rintro e w11 ⟨g11, h11, rfl, b11_, hg11, u11, v11⟩
  have b11 : Below w10.heap.size w10 w11 := (Below.refl _ _).drew.trans b11_
  clear b11_
  have B11 := B10.trans (b11.mono B10.size)
  have sz11 : w10.heap.size ≤ w11.heap.size := b11.size
  have Q11 := hide ((unhide Q10).below b11)
  have Ws11 := hide ((unhide Ws10).below b11)
  have We11 := hide ((unhide We10).below b11)
  have WB11 := hide ((unhide WB10).below b11)
  have Xs11 := hide ((unhide Xs10).below b11)
  have Xe11 := hide ((unhide Xe10).below b11)
  have V11 := hide ((unhide V10).below b11)
  have Gs11 := hide ((unhide Gs10).below b11)
  have Ge11 := hide ((unhide Ge10).below b11)
  have GB11 := hide ((unhide GB10).below b11)
  clear Q10 Ws10 We10 WB10 Xs10 Xe10 V10 Gs10 Ge10 GB10
  clear hHeld
  have Ys11 : Hid (So.Lst w11 (some ⟨g11, 0, none⟩) ss w10.heap.size h11) := hide (.inr ⟨g11, rfl, hg11.1, hg11.2.1, by omega, u11⟩)
  have Ye11 : Hid (Tu.Lst w11 (some ⟨h11, 0, none⟩) es h11 w11.heap.size) := hide (.inr ⟨h11, rfl, Nat.le_refl _, hg11.2.2, hg11.2.2, v11⟩)
  clear u11 v11
  refine hK.out _ _ (sH2 (unhide V11) (unhide Q11)) (fun hHeld => ?_)
  clear hK K
  (try simp only [Act.put, List.setIfInBounds_toArray, List.set_cons_zero, List.set_cons_succ])
  (refine wpAnyH_ready (rs := [3]) (by kernel_rfl) (by simp) ?_; refine AllReadyH.cons (o := _) rfl (fun K hK => ?_) AllReadyH.nil; go_simp)
  refine (Tq.eq _ ss _ _ es _ _ _ _ _ _ hml_ss hml_es (unhide Xs11).rm (unhide Xe11).rm (unhide Ys11).rm (unhide Ye11).rm).mono ?_
  rintro e w12 ⟨rfl, b12⟩
  have B12 := B11.trans (b12.mono B11.size)
  have sz12 : w11.heap.size ≤ w12.heap.size := b12.size
  have Q12 := hide ((unhide Q11).below b12)
  have Ws12 := hide ((unhide Ws11).below b12)
  have We12 := hide ((unhide We11).below b12)
  have WB12 := hide ((unhide WB11).below b12)
  have Xs12 := hide ((unhide Xs11).below b12)
  have Xe12 := hide ((unhide Xe11).below b12)
  have V12 := hide ((unhide V11).below b12)
  have Gs12 := hide ((unhide Gs11).below b12)
  have Ge12 := hide ((unhide Ge11).below b12)
  have GB12 := hide ((unhide GB11).below b12)
  have Ys12 := hide ((unhide Ys11).below b12)
  have Ye12 := hide ((unhide Ye11).below b12)
  clear Q11 Ws11 We11 WB11 Xs11 Xe11 V11 Gs11 Ge11 GB11 Ys11 Ye11
  clear hHeld
  clear Ys12
  clear Ye12
  refine hK.out _ _ (sH2 (unhide V12) (unhide Q12)) (fun hHeld => ?_)
  clear hK K
  (try simp only [Act.put, List.setIfInBounds_toArray, List.set_cons_zero, List.set_cons_succ])
  (refine Rg.tk (i := 4) (d := 49) (v := ?_) rfl rfl (by kernel_rfl) (by kernel_rfl) (by kernel_rfl) (fun _ _ _ h => h) (by rfl) ?_ (by assumption) ?_; rotate_left; (focus (intro w0 hSw; (try dsimp only at hSw); go_simp; (try with_reducible rfl))); (try simp only [Act.put, List.setIfInBounds_toArray, List.set_cons_zero, List.set_cons_succ]))
  refine wpAnyH_done (by kernel_rfl) (NoPanic.normal ?_) _
  clear hHeld
  obtain ⟨zV0, zV1⟩ := unhide V12
  go_wp2_with fail
  clear zV0 zV1
  refine (Tq.mark _ _ _ _ _ _ _ 1 ss es _ (by omega) (by omega) hml_ss hml_es (by omega) (by omega) (by omega) (unhide Xs12) (unhide Xe12)).mono ?_
  rintro e w13 ⟨rfl, sz13, b13, ⟨f13, e13⟩, k13⟩
  have sB13 := B12.size
  have B13 := B12.trans (b13.mono (by omega))
  have Q13 := hide ((unhide Q12).but (k13 _ (unhide Q12).lt (by omega)))
  have Ws13 := hide ((unhide Ws12).but (p := fun k => k < w5.heap.size ∨ w6.heap.size ≤ k) sz13 (fun k hk h => k13 k hk h) (fun k h1 h2 => by omega))
  have We13 := hide ((unhide We12).but (p := fun k => k < w5.heap.size ∨ w6.heap.size ≤ k) sz13 (fun k hk h => k13 k hk h) (fun k h1 h2 => by omega))
  have WB13 := hide ((unhide WB12).but (k13 _ (unhide WB12).lt (by omega)))
  have V13 := hide ((unhide V12).but (k13 _ (unhide V12).lt (by omega)))
  have Gs13 := hide ((unhide Gs12).but (p := fun k => k < w5.heap.size ∨ w6.heap.size ≤ k) sz13 (fun k hk h => k13 k hk h) (fun k h1 h2 => by omega))
  have Ge13 := hide ((unhide Ge12).but (p := fun k => k < w5.heap.size ∨ w6.heap.size ≤ k) sz13 (fun k hk h => k13 k hk h) (fun k h1 h2 => by omega))
  have GB13 := hide ((unhide GB12).but (k13 _ (unhide GB12).lt (by omega)))
  clear Q12 Ws12 We12 WB12 Xs12 Xe12 V12 Gs12 Ge12 GB12 f13 k13 b13 e13
  clear V13
  have hpk : ¬ (1 + 3 * (ss.length : Int) + 3 * (es.length : Int) < 0) := by omega
  obtain ⟨zGB0, zGB1⟩ := unhide GB13
  obtain ⟨zWB0, zWB1⟩ := unhide WB13
  go_wp2_with fail
  clear zGB0 zGB1
  clear zWB0 zWB1
  refine (Tq.eq _ (expS ss es now) _ _ (expE ss es now) _ _ _ _ _ _ hoA hoB (unhide Gs13).rm (unhide Ge13).rm (unhide Ws13).rm (unhide We13).rm).mono ?_
  rintro e w14 ⟨rfl, b14⟩
  have B14 := B13.trans (b14.mono B13.size)
  have sz14 : w13.heap.size ≤ w14.heap.size := b14.size
  have Q14 := hide ((unhide Q13).below b14)
  have Ws14 := hide ((unhide Ws13).below b14)
  have We14 := hide ((unhide We13).below b14)
  have WB14 := hide ((unhide WB13).below b14)
  have Gs14 := hide ((unhide Gs13).below b14)
  have Ge14 := hide ((unhide Ge13).below b14)
  have GB14 := hide ((unhide GB13).below b14)
  clear Q13 Ws13 We13 WB13 Gs13 Ge13 GB13
  obtain ⟨zGB0, zGB1⟩ := unhide GB14
  go_wp2_with fail
  clear zGB0 zGB1
  refine (Tq.mark _ _ _ _ _ _ _ 1 (expS ss es now) (expE ss es now) _ (by omega) (by omega) hoA hoB (by omega) (by omega) (by omega) (unhide Gs14) (unhide Ge14)).mono ?_
  rintro e w15 ⟨rfl, sz15, b15, ⟨f15, e15⟩, k15⟩
  have sB15 := B14.size
  have B15 := B14.trans (b15.mono (by omega))
  have Q15 := hide ((unhide Q14).but (k15 _ (unhide Q14).lt (by omega)))
  have Ws15 := hide ((unhide Ws14).but (p := fun k => k < w7.heap.size ∨ w8.heap.size ≤ k) sz15 (fun k hk h => k15 k hk h) (fun k h1 h2 => by omega))
  have We15 := hide ((unhide We14).but (p := fun k => k < w7.heap.size ∨ w8.heap.size ≤ k) sz15 (fun k hk h => k15 k hk h) (fun k h1 h2 => by omega))
  have WB15 := hide ((unhide WB14).but (k15 _ (unhide WB14).lt (by omega)))
  have GB15 := hide ((unhide GB14).but (k15 _ (unhide GB14).lt (by omega)))
  have Ms15 := hide f15
  have Me15 := hide e15
  clear Q14 Ws14 We14 WB14 Gs14 Ge14 GB14 f15 k15 b15 e15
  have hpm : ¬ (1 + 3 * ((expS ss es now).length : Int) + 3 * ((expE ss es now).length : Int) < 0) := by omega
  obtain ⟨zGB0, zGB1⟩ := unhide GB15
  go_wp2_with fail
  clear zGB0 zGB1
  refine (Tq.held _ (expS ss es now).length _ _ (expE ss es now).length _ _ _ _ 1 _ (by omega) (by omega) hoA hoB (unhide Ms15) (unhide Me15)).mono ?_
  rintro e w16 ⟨rfl, b16⟩
  have B16 := B15.trans (b16.mono B15.size)
  have sz16 : w15.heap.size ≤ w16.heap.size := b16.size
  have Q16 := hide ((unhide Q15).below b16)
  have Ws16 := hide ((unhide Ws15).below b16)
  have We16 := hide ((unhide We15).below b16)
  have WB16 := hide ((unhide WB15).below b16)
  have GB16 := hide ((unhide GB15).below b16)
  have Ms16 := hide ((unhide Ms15).below b16)
  have Me16 := hide ((unhide Me15).below b16)
  clear Q15 Ws15 We15 WB15 GB15 Ms15 Me15
  obtain ⟨zQ0, zQ1⟩ := unhide Q16
  go_wp2_with fail
  clear zQ0 zQ1
  refine (Tq.to a ss ca b es cb _ hml_ss hml_es ((unhide HR_ss).below B16) ((unhide HR_es).below B16)).mono ?_
  rintro e w17 ⟨g17, h17, rfl, b17, hg17, u17, v17⟩
  have B17 := B16.trans (b17.mono B16.size)
  have sz17 : w16.heap.size ≤ w17.heap.size := b17.size
  have Q17 := hide ((unhide Q16).below b17)
  have Ws17 := hide ((unhide Ws16).below b17)
  have We17 := hide ((unhide We16).below b17)
  have WB17 := hide ((unhide WB16).below b17)
  have GB17 := hide ((unhide GB16).below b17)
  have Ms17 := hide ((unhide Ms16).below b17)
  have Me17 := hide ((unhide Me16).below b17)
  clear Q16 Ws16 We16 WB16 GB16 Ms16 Me16
  have Zs17 : Hid (So.Lst w17 (some ⟨g17, 0, none⟩) ss w16.heap.size h17) := hide (.inr ⟨g17, rfl, hg17.1, hg17.2.1, by omega, u17⟩)
  have Ze17 : Hid (Tu.Lst w17 (some ⟨h17, 0, none⟩) es h17 w17.heap.size) := hide (.inr ⟨h17, rfl, Nat.le_refl _, hg17.2.2, hg17.2.2, v17⟩)
  clear u17 v17
  go_wp2_with fail
  refine (implExpire _ ss _ _ es _ now _ hml_ss hml_es (unhide Zs17).rm (unhide Ze17).rm).mono ?_
  rintro e w18 ⟨v18, rfl, b18, l18⟩
  have B18 := B17.trans (b18.mono B17.size)
  have sz18 : w17.heap.size ≤ w18.heap.size := b18.size
  have Q18 := hide ((unhide Q17).below b18)
  have Ws18 := hide ((unhide Ws17).below b18)
  have We18 := hide ((unhide We17).below b18)
  have WB18 := hide ((unhide WB17).below b18)
  have GB18 := hide ((unhide GB17).below b18)
  have Ms18 := hide ((unhide Ms17).below b18)
  have Me18 := hide ((unhide Me17).below b18)
  have Zs18 := hide ((unhide Zs17).below b18)
  have Ze18 := hide ((unhide Ze17).below b18)
  clear Q17 Ws17 We17 WB17 GB17 Ms17 Me17 Zs17 Ze17
  obtain ⟨vs18, ve18, mid18, rfl, ⟨as18, cs18, rfl, L18⟩, ⟨ae18, ce18, rfl, M18⟩, q18, p18⟩ := l18
  have Hs18 := hide L18
  have He18 := hide M18
  clear L18 M18
  rw [unhide HC]
  obtain ⟨zWB0, zWB1⟩ := unhide WB18
  have yWB := (unhide WB18).lt
  go_wp2_with fail
  clear zWB0 zWB1
  clear yWB
  obtain ⟨w19, hw19⟩ : ∃ w19, w18.alloc (.cells #[.slice as18 (expS ss es now).length cs18, .slice ae18 (expE ss es now).length ce18] 42) = w19 := ⟨_, rfl⟩
  have b19 : Below w18.heap.size w18 w19 := by rw [← hw19]; exact (Below.refl _ _).alloc (Nat.le_refl _) _
  have B19 := B18.trans (b19.mono B18.size)
  have sz19 : w18.heap.size ≤ w19.heap.size := b19.size
  have sy19 : w19.heap.size = w18.heap.size + 1 := by rw [← hw19]; simp
  have Q19 := hide ((unhide Q18).below b19)
  have Ws19 := hide ((unhide Ws18).below b19)
  have We19 := hide ((unhide We18).below b19)
  have WB19 := hide ((unhide WB18).below b19)
  have GB19 := hide ((unhide GB18).below b19)
  have Ms19 := hide ((unhide Ms18).below b19)
  have Me19 := hide ((unhide Me18).below b19)
  have Zs19 := hide ((unhide Zs18).below b19)
  have Ze19 := hide ((unhide Ze18).below b19)
  have Hs19 := hide ((unhide Hs18).below b19)
  have He19 := hide ((unhide He18).below b19)
  clear Q18 Ws18 We18 WB18 GB18 Ms18 Me18 Zs18 Ze18 Hs18 He18
  have HB19 : Hid (Bx2 w19 w18.heap.size (.slice as18 (expS ss es now).length cs18) (.slice ae18 (expE ss es now).length ce18)) := hide (by rw [← hw19]; exact bx2_new _ _ _ _)
  have HW19 := hide hw19
  clear hw19
  rw [unhide HW19]
  refine (Tq.eq _ (expS ss es now) _ _ (expE ss es now) _ _ _ _ _ _ hoA hoB (unhide Hs19).rm (unhide He19).rm (unhide Ws19).rm (unhide We19).rm).mono ?_
  rintro e w20 ⟨rfl, b20⟩
  have B20 := B19.trans (b20.mono B19.size)
  have sz20 : w19.heap.size ≤ w20.heap.size := b20.size
  have Q20 := hide ((unhide Q19).below b20)
  have Ws20 := hide ((unhide Ws19).below b20)
  have We20 := hide ((unhide We19).below b20)
  have WB20 := hide ((unhide WB19).below b20)
  have GB20 := hide ((unhide GB19).below b20)
  have Ms20 := hide ((unhide Ms19).below b20)
  have Me20 := hide ((unhide Me19).below b20)
  have Zs20 := hide ((unhide Zs19).below b20)
  have Ze20 := hide ((unhide Ze19).below b20)
  have Hs20 := hide ((unhide Hs19).below b20)
  have He20 := hide ((unhide He19).below b20)
  have HB20 := hide ((unhide HB19).below b20)
  clear Q19 Ws19 We19 WB19 GB19 Ms19 Me19 Zs19 Ze19 Hs19 He19 HB19
  obtain ⟨zGB0, zGB1⟩ := unhide GB20
  go_wp2_with fail
  clear zGB0 zGB1
  refine (Tq.held _ (expS ss es now).length _ _ (expE ss es now).length _ _ _ _ 1 _ (by omega) (by omega) hoA hoB (unhide Ms20) (unhide Me20)).mono ?_
  rintro e w21 ⟨rfl, b21⟩
  have B21 := B20.trans (b21.mono B20.size)
  have sz21 : w20.heap.size ≤ w21.heap.size := b21.size
  have Q21 := hide ((unhide Q20).below b21)
  have Ws21 := hide ((unhide Ws20).below b21)
  have We21 := hide ((unhide We20).below b21)
  have WB21 := hide ((unhide WB20).below b21)
  have GB21 := hide ((unhide GB20).below b21)
  have Ms21 := hide ((unhide Ms20).below b21)
  have Me21 := hide ((unhide Me20).below b21)
  have Zs21 := hide ((unhide Zs20).below b21)
  have Ze21 := hide ((unhide Ze20).below b21)
  have Hs21 := hide ((unhide Hs20).below b21)
  have He21 := hide ((unhide He20).below b21)
  have HB21 := hide ((unhide HB20).below b21)
  clear Q20 Ws20 We20 WB20 GB20 Ms20 Me20 Zs20 Ze20 Hs20 He20 HB20
  have HF := hide B21
  go_wp2_with fail
  go_ret
  exact ⟨rfl, unhide HF⟩

set_option maxRecDepth 100000 in
theorem lifted (os : Os) (started : os.Started) (H : Type) (enc : TypeId × Value → H) :
    ReturnsInHanded {} Try.checked os 6 .any (Rows.fnExactTopologyExpireSpec.pre6 enc Try.prog Try.f6 Rows.fnExactTopologyExpireRow.domain false) (Rows.fnExactTopologyExpireSpec.post enc Try.prog Try.f6 false true false false) := by
  refine returnsInHanded_of_change (C := Try.checked) own started (by kernel_rfl) Try.func6
    (ChangeSpec.witness6 (enc := enc) (C := Try.checked) false ⟨#[], #[.agg #[.slice none 0 0, .slice none 0 0], .int .i64 0], []⟩ 8 (by kernel_rfl) (by kernel_rfl) (by kernel_rfl) (by kernel_rfl)) ?_
  intro W base args ds gs before hval0 hW hcnd _
  have hval : ∀ (j : Nat) t v, Try.f6.params[j]? = some t → args[j]? = some v → Value.okWide Try.prog W .any base t v := hval0
  have hW' := hW
  obtain ⟨p, q, hA0, hV, rfl, hfz, hnd⟩ := hW
  have hA : DataW.TrodAll enc Try.prog W 0 (fun _ => true) true Try.f6.params.toList args.toList ds p := hA0
  rw [Try.params6] at hA hval
  obtain ⟨v0, vs0, d0, ds0, p0, q0, hargs0, rfl, rfl, h0, r0⟩ := trodAll_cons hA
  obtain ⟨v1, vs1, d1, ds1, p1, q1, hargs1, rfl, rfl, h1, r1⟩ := trodAll_cons r0
  obtain ⟨rfl, rfl, rfl⟩ := trodAll_nil r1
  obtain rfl : args = #[v0, v1] := by cases args; simp_all
  obtain ⟨rfl, rfl⟩ := trodVars_none hV
  have k0 := h0
  have lt0 : ∀ x ∈ p0, x.block < W.heap.size := by obtain ⟨m, hm⟩ := k0; exact DataW.trod_lt m _ _ _ hm
  have k1 := h1
  have lt1 : ∀ x ∈ p1, x.block < W.heap.size := by obtain ⟨m, hm⟩ := k1; exact DataW.trod_lt m _ _ _ hm
  obtain ⟨a0, len0, cap0, ms0, b0, lem0, cbp0, es0, rfl, hlen0, hlem0, hmx0, hmy0, hrd0, hre0⟩ := Tq.open_top (hval 0 37 v0 rfl rfl) h0
  subst hlen0 hlem0
  obtain ⟨n1, rfl, _, _, wf1⟩ := open_int Try.underlying3 (hval 1 3 v1 rfl rfl) h1
  clear hA0 hval0
  refine (walk a0 ms0 cap0 b0 es0 cbp0 hmx0 hmy0 n1 wf1 W hrd0 hre0).mono fun e W' ⟨he, bel⟩ => ?_
  subst he
  exact ⟨_, rfl, _, _, _, [], _, [], hW', trodAll_mk1 (shut_bool Try.underlying4 _), (trodAll_cons_mk (Below.trod laidOut (by kernel_rfl) (of_decide_eq_true (by kernel_rfl)) k0 bel lt0) (trodAll_cons_mk (Below.trod laidOut (by kernel_rfl) (of_decide_eq_true (by kernel_rfl)) k1 bel lt1) trodAll_mk0)), rfl, bel.frame _, fun h => by cases h⟩

theorem over : Rows.fnExactTopologyExpireRow.holds Try.pinned (OpenSpec.ofChange Rows.fnExactTopologyExpireSpec) :=
  OpenClaim.holds_of_wide 6 Try.f6 rfl rfl rfl rfl rfl rfl rfl ⟨rfl, rfl, rfl, rfl, rfl⟩ rfl rfl rfl rfl rfl (by kernel_rfl) Try.func6 (by kernel_rfl)
    (of_decide_eq_true (by kernel_rfl)) (by unfold Func.isWrapper; first | (rw [if_pos (by decide +kernel)]; kernel_rfl) | (rw [if_neg (by decide +kernel)]; exact ⟨rfl, rfl⟩))
    (fun os started H enc _ => lifted os started H enc)
end Go.Proofs.Ytmelbilepfnmjap.fnExactTopologyExpire
namespace Go.Proofs.Ytmelbilepfnmjap
/-- At every argument the program's TopologyExpire answers as its model. -/
theorem fnExactTopologyExpire_holds : Rows.FnExactTopologyExpireSaid := fnExactTopologyExpire.over
end Go.Proofs.Ytmelbilepfnmjap
