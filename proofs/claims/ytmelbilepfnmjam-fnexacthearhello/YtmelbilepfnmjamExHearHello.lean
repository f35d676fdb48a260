/-
  Proved here: for every argument, laws.FnExactHearHello returns true (the program's HearHello answers as its model, leaves its arguments alone, and answers in memory of its own), and leaves what came in as it was. No condition. (The walk is written by mklaw.py.)
-/
import Derived.Test.YtmelbilepfnmjamLnkT
import Derived.Test.YtmelbilepfnmjamLnkU
import Derived.Test.YtmelbilepfnmjamStrHello
namespace Go.Proofs.Ytmelbilepfnmjam.fnExactHearHello
open Go.ChangeShapes Go.WideShapes Go.ChangeAt Go.RowKit
open W1 Ln
set_option linter.unusedVariables false
theorem own : ownKnob Try.prog.godebug = none := by kernel_rfl
theorem laidOut : laidOutB Try.prog = true := by kernel_rfl
theorem sH1 {w : World} {b : Nat} {x y : Int} {v : Value} (h : Bx3 w b x y v) : Bx3 w b x y v ∧ w.cell? ⟨b, 0, none⟩ = some (.int .i64 x) ∧ w.cell? ⟨b, 1, none⟩ = some (.int .i64 y) ∧ w.cell? ⟨b, 2, none⟩ = some v := ⟨h, h⟩
theorem sH2 {w : World} {b b' : Nat} {x y x' y' : Int} {v v' : Value} (h : Bx3 w b x y v) (h' : Bx3 w b' x' y' v') :
    (Bx3 w b x y v ∧ Bx3 w b' x' y' v') ∧ w.cell? ⟨b, 0, none⟩ = some (.int .i64 x) ∧ w.cell? ⟨b, 1, none⟩ = some (.int .i64 y) ∧ w.cell? ⟨b, 2, none⟩ = some v ∧ w.cell? ⟨b', 0, none⟩ = some (.int .i64 x') ∧ w.cell? ⟨b', 1, none⟩ = some (.int .i64 y') ∧ w.cell? ⟨b', 2, none⟩ = some v' := ⟨⟨h, h'⟩, h.1, h.2.1, h.2.2, h'.1, h'.2.1, h'.2.2⟩

set_option maxRecDepth 100000 in
set_option maxHeartbeats 8000000 in
theorem walk (a : Option Addr) (ms : List Lk.R) (cap : Nat) (hm_ms : ms.length ≤ maxLen) (me : Int) (wf_me : (Lit.int .i64 me).wf = true) (frm : Int) (wf_frm : (Lit.int .i64 frm).wf = true) (cost : Int) (wf_cost : (Lit.int .i64 cost).wf = true) (now : Int) (wf_now : (Lit.int .i64 now).wf = true) (x y : Int) (b : Option Addr) (ns : List Nb.R) (capn : Nat) (hm_ns : ns.length ≤ maxLen) (w : World) (hr_ms : Lk.RM w a ms) (hr_ns : Nb.RM w b ns) :
    Calls Try.prog 6 #[.slice a ms.length cap, .int .i64 me, .int .i64 frm, .int .i64 cost, .int .i64 now, .agg #[.int .i64 x, .int .i64 y, .slice b ns.length capn]] w fun e w' => e = .returned (.bool true) ∧ Below w.heap.size w w' := by
  have HR_ms := hide hr_ms
  clear hr_ms
  have HR_ns := hide hr_ns
  clear hr_ns
  have HBA : Hid (Below w.heap.size w (w.alloc (.cells #[.int .i64 x, .int .i64 y, .slice b ns.length capn] 41))) := hide ((Below.refl _ _).alloc (Nat.le_refl _) _)
  have HQ : Hid (Bx3 (w.alloc (.cells #[.int .i64 x, .int .i64 y, .slice b ns.length capn] 41)) w.heap.size x y (.slice b ns.length capn)) := hide (bx3_new _ _ _ _ _)
  go_enter Try.func6, Try.ntmps6
  obtain ⟨w1, hw1⟩ : ∃ w1, w.alloc (.cells #[.int .i64 x, .int .i64 y, .slice b ns.length capn] 41) = w1 := ⟨_, rfl⟩
  rw [hw1] at HBA HQ
  have B1 : Below w.heap.size w w1 := unhide HBA
  have Q1 := HQ
  have hq1 : w.heap.size < w1.heap.size := (unhide Q1).lt
  have HW1 := hide hw1
  clear HBA HQ hw1
  go_wp2_with fail
  rw [unhide HW1]
  refine (Lk.szS a ms.length cap 1048576 _ (by omega) (by omega) hm_ms).mono ?_
  rintro e w2 ⟨r2, rfl, hw2, hr01⟩
  have b2 : Below w1.heap.size w1 w2 := by rw [hw2]; exact Below.refl _ _
  clear hw2
  have B2 := B1.trans (b2.mono B1.size)
  have sz2 : w1.heap.size ≤ w2.heap.size := b2.size
  have Q2 := hide ((unhide Q1).below b2)
  clear Q1
  rcases hr01 with hr0 | ⟨hr0, hr1⟩
  · go_wp2_with fail
    go_ret
    exact ⟨rfl, B2⟩
  have hnn2 : ¬ r2 < 0 := by omega
  have hml_ms : ms.length ≤ 1048576 := by omega
  have hrl2 : r2 ≤ 1048576 := by omega
  clear hr1 hm_ms
  obtain ⟨zQ0, zQ1, zQ2⟩ := unhide Q2
  go_wp2_with fail
  clear zQ0 zQ1 zQ2
  refine (Hs.sz x y b ns.length capn r2 _ (by omega) (by omega) hm_ns).mono ?_
  rintro e w3 ⟨r3, rfl, b3, hr01⟩
  have B3 := B2.trans (b3.mono B2.size)
  have sz3 : w2.heap.size ≤ w3.heap.size := b3.size
  have Q3 := hide ((unhide Q2).below b3)
  clear Q2
  rcases hr01 with hr0 | ⟨hr0, hr1⟩
  · go_wp2_with fail
    go_ret
    exact ⟨rfl, B3⟩
  have hnn3 : ¬ r3 < 0 := by omega
  have hml_ns : ns.length ≤ 1048576 := by omega
  have hrl3 : r3 ≤ 1048576 := by omega
  clear hr1 hm_ns
  have hol : (hearA ms me frm cost now x y ns).length ≤ 1048576 := (Nat.le_trans (hear_len ms me frm cost now x y ns) (by split <;> omega))
  go_wp2_with fail
  refine wp_region_noPanic ?_
  refine wp_region_held_drew (S := fun w' => Bx3 w' w.heap.size x y (.slice b ns.length capn) ∧ w'.cell? ⟨w.heap.size, 0, none⟩ = some (.int .i64 x) ∧ w'.cell? ⟨w.heap.size, 1, none⟩ = some (.int .i64 y) ∧ w'.cell? ⟨w.heap.size, 2, none⟩ = some (.slice b ns.length capn)) (by kernel_rfl) (sH1 (unhide Q3).drew) (fun hHeld => ?_)
  (refine Rg.tk (i := 0) (d := 36) (v := ?_) rfl rfl (by kernel_rfl) (by kernel_rfl) (by kernel_rfl) (fun _ _ _ h => h) (by rfl) ?_ (by assumption) ?_; rotate_left; (focus (intro w0 hSw; (try dsimp only at hSw); go_simp; (try with_reducible rfl))); (try simp only [Act.put, List.setIfInBounds_toArray, List.set_cons_zero, List.set_cons_succ]))
  (refine Rg.tk (i := 2) (d := 38) (v := ?_) rfl rfl (by kernel_rfl) (by kernel_rfl) (by kernel_rfl) (fun _ _ _ h => h) (by rfl) ?_ (by assumption) ?_; rotate_left; (focus (intro w0 hSw; (try dsimp only at hSw); go_simp; (try with_reducible rfl))); (try simp only [Act.put, List.setIfInBounds_toArray, List.set_cons_zero, List.set_cons_succ]))
  (refine Rg.tk (i := 3) (d := 39) (v := ?_) rfl rfl (by kernel_rfl) (by kernel_rfl) (by kernel_rfl) (fun _ _ _ h => h) (by rfl) ?_ (by assumption) ?_; rotate_left; (focus (intro w0 hSw; (try dsimp only at hSw); go_simp; (try with_reducible rfl))); (try simp only [Act.put, List.setIfInBounds_toArray, List.set_cons_zero, List.set_cons_succ]))
  (refine Rg.tk (i := 4) (d := 40) (v := ?_) rfl rfl (by kernel_rfl) (by kernel_rfl) (by kernel_rfl) (fun _ _ _ h => h) (by rfl) ?_ (by assumption) ?_; rotate_left; (focus (intro w0 hSw; (try dsimp only at hSw); go_simp; (try with_reducible rfl))); (try simp only [Act.put, List.setIfInBounds_toArray, List.set_cons_zero, List.set_cons_succ]))
  (refine Rg.tk (i := 5) (d := 41) (v := ?_) rfl rfl (by kernel_rfl) (by kernel_rfl) (by kernel_rfl) (fun _ _ _ h => h) (by rfl) ?_ (by assumption) ?_; rotate_left; (focus (intro w0 hSw; (try dsimp only at hSw); go_simp; (try with_reducible rfl))); (try simp only [Act.put, List.setIfInBounds_toArray, List.set_cons_zero, List.set_cons_succ]))
  (refine Rg.tk (i := 6) (d := 42) (v := ?_) rfl rfl (by kernel_rfl) (by kernel_rfl) (by kernel_rfl) (fun _ _ _ h => h) (by rfl) ?_ (by assumption) ?_; rotate_left; (focus (intro w0 hSw; (try dsimp only at hSw); go_simp; (try with_reducible rfl))); (try simp only [Act.put, List.setIfInBounds_toArray, List.set_cons_zero, List.set_cons_succ]))
  (refine wpAnyH_ready (rs := [1]) (by kernel_rfl) (by simp) ?_; refine AllReadyH.cons (o := _) rfl (fun K hK => ?_) AllReadyH.nil; go_simp)
  refine (Lk.toS a ms cap _ hml_ms ((unhide HR_ms).below B3.drew)).mono ?_
  rintro e w4 ⟨g4, rfl, b4_, hg4, hz4, u4⟩
  have b4 : Below w3.heap.size w3 w4 := (Below.refl _ _).drew.trans b4_
  have B4 := B3.trans (b4.mono B3.size)
  have sz4 : w3.heap.size ≤ w4.heap.size := b4.size
  clear b4_
  have Q4 := hide ((unhide Q3).below b4)
  clear Q3
  clear hHeld
  have Sa4 : Hid (Lk.Lst w4 (some ⟨g4, 0, none⟩) ms w3.heap.size w4.heap.size) := hide (.inr ⟨g4, rfl, hg4, hz4, hz4, u4⟩)
  clear u4
  refine hK.out _ _ (sH1 (unhide Q4)) (fun hHeld => ?_)
  clear hK K
  (try simp only [Act.put, List.setIfInBounds_toArray, List.set_cons_zero, List.set_cons_succ])
  (refine wpAnyH_ready (rs := [7]) (by kernel_rfl) (by simp) ?_; refine AllReadyH.cons (o := _) rfl (fun K hK => ?_) AllReadyH.nil; go_simp)
  refine (Hs.to x y b ns capn _ hml_ns ((unhide HR_ns).below B4)).mono ?_
  rintro e w5 ⟨g5, rfl, b5, hg5, hz5, u5⟩
  have B5 := B4.trans (b5.mono B4.size)
  have sz5 : w4.heap.size ≤ w5.heap.size := b5.size
  have Q5 := hide ((unhide Q4).below b5)
  have Sa5 := hide ((unhide Sa4).below b5)
  clear Q4 Sa4
  clear hHeld
  have Sb5 : Hid (Nb.Lst w5 (some ⟨g5, 0, none⟩) ns w4.heap.size w5.heap.size) := hide (.inr ⟨g5, rfl, hg5, hz5, hz5, u5⟩)
  clear u5
  refine hK.out _ _ (sH1 (unhide Q5)) (fun hHeld => ?_)
  clear hK K
  (try simp only [Act.put, List.setIfInBounds_toArray, List.set_cons_zero, List.set_cons_succ])
  (refine wpAnyH_ready (rs := [8]) (by kernel_rfl) (by simp) ?_; refine AllReadyH.cons (o := _) rfl (fun K hK => ?_) AllReadyH.nil; go_simp)
  refine (specHear _ _ ms _ me frm cost now x y _ ns _ _ hml_ms hml_ns (unhide Sa5).rm (unhide Sb5).rm).mono ?_
  rintro e w6 ⟨v6, rfl, b6, l6⟩
  have B6 := B5.trans (b6.mono B5.size)
  have sz6 : w5.heap.size ≤ w6.heap.size := b6.size
  have Q6 := hide ((unhide Q5).below b6)
  have Sa6 := hide ((unhide Sa5).below b6)
  have Sb6 := hide ((unhide Sb5).below b6)
  clear Q5 Sa5 Sb5
  clear hHeld
  obtain ⟨a6, c6, rfl, L6⟩ := l6
  have W6 := hide L6
  clear L6
  obtain ⟨cd, hcd⟩ : ∃ cd, hearE ms me frm cost now x y ns = cd := ⟨_, rfl⟩
  have HC := hide hcd
  rw [hcd]
  clear hcd
  have hne : (cd != cd) = false := by simp
  refine hK.out _ _ (sH1 (unhide Q6)) (fun hHeld => ?_)
  clear hK K
  (try simp only [Act.put, List.setIfInBounds_toArray, List.set_cons_zero, List.set_cons_succ])
  (refine Rg.tk (i := 9) (d := 35) (v := ?_) rfl rfl (by kernel_rfl) (by kernel_rfl) (by kernel_rfl) (fun _ _ _ h => h) (by rfl) ?_ (by assumption) ?_; rotate_left; (focus (intro w0 hSw; (try dsimp only at hSw); go_simp; (try with_reducible rfl))); (try simp only [Act.put, List.setIfInBounds_toArray, List.set_cons_zero, List.set_cons_succ]))
  (refine Rg.tk (i := 10) (d := 45) (v := ?_) rfl rfl (by kernel_rfl) (by kernel_rfl) (by kernel_rfl) (fun _ _ _ h => h) (by rfl) ?_ (by assumption) ?_; rotate_left; (focus (intro w0 hSw; (try dsimp only at hSw); go_simp; (try with_reducible rfl))); (try simp only [Act.put, List.setIfInBounds_toArray, List.set_cons_zero, List.set_cons_succ]))
  (refine Rg.tk (i := 11) (d := 46) (v := ?_) rfl rfl (by kernel_rfl) (by kernel_rfl) (by kernel_rfl) (fun _ _ _ h => h) (by rfl) ?_ (by assumption) ?_; rotate_left; (focus (intro w0 hSw; (try dsimp only at hSw); go_simp; (try with_reducible rfl))); (try simp only [Act.put, List.setIfInBounds_toArray, List.set_cons_zero, List.set_cons_succ]))
  (refine Rg.tk (i := 12) (d := 14) (v := ?_) rfl rfl (by kernel_rfl) (by kernel_rfl) (by kernel_rfl) (fun _ _ _ h => h) (by rfl) ?_ (by assumption) ?_; rotate_left; (focus (intro w0 hSw; (try dsimp only at hSw); go_simp; (try with_reducible rfl))); (try simp only [Act.put, List.setIfInBounds_toArray, List.set_cons_zero, List.set_cons_succ]))
  (refine Rg.tk (i := 13) (d := 15) (v := ?_) rfl rfl (by kernel_rfl) (by kernel_rfl) (by kernel_rfl) (fun _ _ _ h => h) (by rfl) ?_ (by assumption) ?_; rotate_left; (focus (intro w0 hSw; (try dsimp only at hSw); go_simp; (try with_reducible rfl))); (try simp only [Act.put, List.setIfInBounds_toArray, List.set_cons_zero, List.set_cons_succ]))
  refine wpAnyH_done (by kernel_rfl) (NoPanic.normal ?_) _
  clear hHeld
  clear Sa6
  clear Sb6
  go_wp2_with fail
  refine (Lk.toS a ms cap _ hml_ms ((unhide HR_ms).below B6)).mono ?_
  rintro e w7 ⟨g7, rfl, b7, hg7, hz7, u7⟩
  have B7 := B6.trans (b7.mono B6.size)
  have sz7 : w6.heap.size ≤ w7.heap.size := b7.size
  have Q7 := hide ((unhide Q6).below b7)
  have W7 := hide ((unhide W6).below b7)
  clear Q6 W6
  have Xa7 : Hid (Lk.Lst w7 (some ⟨g7, 0, none⟩) ms w6.heap.size w7.heap.size) := hide (.inr ⟨g7, rfl, hg7, hz7, hz7, u7⟩)
  clear u7
  obtain ⟨zQ0, zQ1, zQ2⟩ := unhide Q7
  go_wp2_with fail
  clear zQ0 zQ1 zQ2
  refine (Hs.to x y b ns capn _ hml_ns ((unhide HR_ns).below B7)).mono ?_
  rintro e w8 ⟨g8, rfl, b8, hg8, hz8, u8⟩
  have B8 := B7.trans (b8.mono B7.size)
  have sz8 : w7.heap.size ≤ w8.heap.size := b8.size
  have Q8 := hide ((unhide Q7).below b8)
  have W8 := hide ((unhide W7).below b8)
  have Xa8 := hide ((unhide Xa7).below b8)
  clear Q7 W7 Xa7
  have Xb8 : Hid (Nb.Lst w8 (some ⟨g8, 0, none⟩) ns w7.heap.size w8.heap.size) := hide (.inr ⟨g8, rfl, hg8, hz8, hz8, u8⟩)
  clear u8
  obtain ⟨w9, hw9⟩ : ∃ w9, w8.alloc (.cells #[.int .i64 x, .int .i64 y, .slice (some ⟨g8, 0, none⟩) ns.length ns.length] 47) = w9 := ⟨_, rfl⟩
  have b9 : Below w8.heap.size w8 w9 := by rw [← hw9]; exact (Below.refl _ _).alloc (Nat.le_refl _) _
  have B9 := B8.trans (b9.mono B8.size)
  have sz9 : w8.heap.size ≤ w9.heap.size := b9.size
  have Q9 := hide ((unhide Q8).below b9)
  have W9 := hide ((unhide W8).below b9)
  have Xa9 := hide ((unhide Xa8).below b9)
  have Xb9 := hide ((unhide Xb8).below b9)
  clear Q8 W8 Xa8 Xb8
  have V9 : Hid (Bx3 w9 w8.heap.size x y (.slice (some ⟨g8, 0, none⟩) ns.length ns.length)) := hide (by rw [← hw9]; exact bx3_new _ _ _ _ _)
  have HW9 := hide hw9
  clear hw9
  go_wp2_with fail
  rw [unhide HW9]
  refine (implHear _ _ ms _ me frm cost now x y _ ns _ _ hml_ms hml_ns (unhide Xa9).rm (unhide Xb9).rm).mono ?_
  rintro e w10 ⟨v10, rfl, b10, l10⟩
  have B10 := B9.trans (b10.mono B9.size)
  have sz10 : w9.heap.size ≤ w10.heap.size := b10.size
  have Q10 := hide ((unhide Q9).below b10)
  have W10 := hide ((unhide W9).below b10)
  have Xa10 := hide ((unhide Xa9).below b10)
  have Xb10 := hide ((unhide Xb9).below b10)
  have V10 := hide ((unhide V9).below b10)
  clear Q9 W9 Xa9 Xb9 V9
  obtain ⟨a10, c10, rfl, L10⟩ := l10
  have G10 := hide L10
  clear L10
  rw [unhide HC]
  go_wp2_with fail
  refine (Lk.eqS _ _ (hearA ms me frm cost now x y ns) _ _ _ hol (unhide G10).rm (unhide W10).rm).mono ?_
  rintro e w11 ⟨rfl, b11⟩
  have B11 := B10.trans (b11.mono B10.size)
  have sz11 : w10.heap.size ≤ w11.heap.size := b11.size
  have Q11 := hide ((unhide Q10).below b11)
  have W11 := hide ((unhide W10).below b11)
  have Xa11 := hide ((unhide Xa10).below b11)
  have Xb11 := hide ((unhide Xb10).below b11)
  have V11 := hide ((unhide V10).below b11)
  have G11 := hide ((unhide G10).below b11)
  clear Q10 W10 Xa10 Xb10 V10 G10
  go_wp2_with fail
  refine (Lk.toS a ms cap _ hml_ms ((unhide HR_ms).below B11)).mono ?_
  rintro e w12 ⟨g12, rfl, b12, hg12, hz12, u12⟩
  have B12 := B11.trans (b12.mono B11.size)
  have sz12 : w11.heap.size ≤ w12.heap.size := b12.size
  have Q12 := hide ((unhide Q11).below b12)
  have W12 := hide ((unhide W11).below b12)
  have Xa12 := hide ((unhide Xa11).below b12)
  have Xb12 := hide ((unhide Xb11).below b12)
  have V12 := hide ((unhide V11).below b12)
  have G12 := hide ((unhide G11).below b12)
  clear Q11 W11 Xa11 Xb11 V11 G11
  have Y12 : Hid (Lk.Lst w12 (some ⟨g12, 0, none⟩) ms w11.heap.size w12.heap.size) := hide (.inr ⟨g12, rfl, hg12, hz12, hz12, u12⟩)
  clear u12
  go_wp2_with fail
  refine (Lk.eqS _ _ ms _ _ _ hml_ms (unhide Xa12).rm (unhide Y12).rm).mono ?_
  rintro e w13 ⟨rfl, b13⟩
  have B13 := B12.trans (b13.mono B12.size)
  have sz13 : w12.heap.size ≤ w13.heap.size := b13.size
  have Q13 := hide ((unhide Q12).below b13)
  have W13 := hide ((unhide W12).below b13)
  have Xa13 := hide ((unhide Xa12).below b13)
  have Xb13 := hide ((unhide Xb12).below b13)
  have V13 := hide ((unhide V12).below b13)
  have G13 := hide ((unhide G12).below b13)
  have Y13 := hide ((unhide Y12).below b13)
  clear Q12 W12 Xa12 Xb12 V12 G12 Y12
  clear Y13
  go_wp2_with fail
  refine wp_region_noPanic ?_
  refine wp_region_held_drew (S := fun w' => (Bx3 w' w8.heap.size x y (.slice (some ⟨g8, 0, none⟩) ns.length ns.length) ∧ Bx3 w' w.heap.size x y (.slice b ns.length capn)) ∧ w'.cell? ⟨w8.heap.size, 0, none⟩ = some (.int .i64 x) ∧ w'.cell? ⟨w8.heap.size, 1, none⟩ = some (.int .i64 y) ∧ w'.cell? ⟨w8.heap.size, 2, none⟩ = some (.slice (some ⟨g8, 0, none⟩) ns.length ns.length) ∧ w'.cell? ⟨w.heap.size, 0, none⟩ = some (.int .i64 x) ∧ w'.cell? ⟨w.heap.size, 1, none⟩ = some (.int .i64 y) ∧ w'.cell? ⟨w.heap.size, 2, none⟩ = some (.slice b ns.length capn)) (by kernel_rfl) (sH2 (unhide V13).drew (unhide Q13).drew) (fun hHeld => ?_)
  (refine Rg.tk (i := 0) (d := 75) (v := ?_) rfl rfl (by kernel_rfl) (by kernel_rfl) (by kernel_rfl) (fun _ _ _ h => h) (by rfl) ?_ (by assumption) ?_; rotate_left; (focus (intro w0 hSw; (try dsimp only at hSw); go_simp; (try with_reducible rfl))); (try simp only [Act.put, List.setIfInBounds_toArray, List.set_cons_zero, List.set_cons_succ]))
  (refine Rg.tk (i := 1) (d := 76) (v := ?_) rfl rfl (by kernel_rfl) (by kernel_rfl) (by kernel_rfl) (fun _ _ _ h => h) (by rfl) ?_ (by assumption) ?_; rotate_left; (focus (intro w0 hSw; (try dsimp only at hSw); go_simp; (try with_reducible rfl))); (try simp only [Act.put, List.setIfInBounds_toArray, List.set_cons_zero, List.set_cons_succ]))
  (refine wpAnyH_ready (rs := [2]) (by kernel_rfl) (by simp) ?_; refine AllReadyH.cons (o := _) rfl (fun K hK => ?_) AllReadyH.nil; go_simp)
  refine (Hs.to x y b ns capn _ hml_ns ((unhide HR_ns).below B13.drew)).mono ?_
  rintro e w14 ⟨g14, rfl, b14_, hg14, hz14, u14⟩
  have b14 : Below w13.heap.size w13 w14 := (Below.refl _ _).drew.trans b14_
  have B14 := B13.trans (b14.mono B13.size)
  have sz14 : w13.heap.size ≤ w14.heap.size := b14.size
  clear b14_
  have Q14 := hide ((unhide Q13).below b14)
  have W14 := hide ((unhide W13).below b14)
  have Xa14 := hide ((unhide Xa13).below b14)
  have Xb14 := hide ((unhide Xb13).below b14)
  have V14 := hide ((unhide V13).below b14)
  have G14 := hide ((unhide G13).below b14)
  clear Q13 W13 Xa13 Xb13 V13 G13
  clear hHeld
  have Y14 : Hid (Nb.Lst w14 (some ⟨g14, 0, none⟩) ns w13.heap.size w14.heap.size) := hide (.inr ⟨g14, rfl, hg14, hz14, hz14, u14⟩)
  clear u14
  refine hK.out _ _ (sH2 (unhide V14) (unhide Q14)) (fun hHeld => ?_)
  clear hK K
  (try simp only [Act.put, List.setIfInBounds_toArray, List.set_cons_zero, List.set_cons_succ])
  (refine wpAnyH_ready (rs := [3]) (by kernel_rfl) (by simp) ?_; refine AllReadyH.cons (o := _) rfl (fun K hK => ?_) AllReadyH.nil; go_simp)
  refine (Hs.eq x y _ _ ns _ _ _ hml_ns (unhide Xb14).rm (unhide Y14).rm).mono ?_
  rintro e w15 ⟨rfl, b15⟩
  have B15 := B14.trans (b15.mono B14.size)
  have sz15 : w14.heap.size ≤ w15.heap.size := b15.size
  have Q15 := hide ((unhide Q14).below b15)
  have W15 := hide ((unhide W14).below b15)
  have Xa15 := hide ((unhide Xa14).below b15)
  have Xb15 := hide ((unhide Xb14).below b15)
  have V15 := hide ((unhide V14).below b15)
  have G15 := hide ((unhide G14).below b15)
  have Y15 := hide ((unhide Y14).below b15)
  clear Q14 W14 Xa14 Xb14 V14 G14 Y14
  clear hHeld
  clear Y15
  refine hK.out _ _ (sH2 (unhide V15) (unhide Q15)) (fun hHeld => ?_)
  clear hK K
  (try simp only [Act.put, List.setIfInBounds_toArray, List.set_cons_zero, List.set_cons_succ])
  (refine Rg.tk (i := 4) (d := 79) (v := ?_) rfl rfl (by kernel_rfl) (by kernel_rfl) (by kernel_rfl) (fun _ _ _ h => h) (by rfl) ?_ (by assumption) ?_; rotate_left; (focus (intro w0 hSw; (try dsimp only at hSw); go_simp; (try with_reducible rfl))); (try simp only [Act.put, List.setIfInBounds_toArray, List.set_cons_zero, List.set_cons_succ]))
  refine wpAnyH_done (by kernel_rfl) (NoPanic.normal ?_) _
  clear hHeld
  go_wp2_with fail
  refine (Lk.markF _ _ _ _ (1) ms _ (by omega) (by omega) hml_ms (unhide Xa15)).mono ?_
  rintro e w16 ⟨rfl, sz16, b16, f16, k16⟩
  have sB16 := B15.size
  have B16 := B15.trans (b16.mono (by omega))
  have Q16 := hide ((unhide Q15).but (k16 _ (unhide Q15).lt (by omega)))
  have W16 := hide ((unhide W15).but (p := fun k => k < w6.heap.size ∨ w7.heap.size ≤ k) sz16 (fun k hk h => k16 k hk h) (fun k h1 h2 => by omega))
  have Xb16 := hide ((unhide Xb15).but (p := fun k => k < w6.heap.size ∨ w7.heap.size ≤ k) sz16 (fun k hk h => k16 k hk h) (fun k h1 h2 => by omega))
  have V16 := hide ((unhide V15).but (k16 _ (unhide V15).lt (by omega)))
  have G16 := hide ((unhide G15).but (p := fun k => k < w6.heap.size ∨ w7.heap.size ≤ k) sz16 (fun k hk h => k16 k hk h) (fun k h1 h2 => by omega))
  clear Q15 W15 Xa15 Xb15 V15 G15 f16 k16 b16
  obtain ⟨zV0, zV1, zV2⟩ := unhide V16
  go_wp2_with fail
  clear zV0 zV1 zV2
  refine (Hs.mark x y _ _ _ _ (1 + 6 * (ms.length : Int)) ns _ (by omega) (by omega) hml_ns (unhide Xb16)).mono ?_
  rintro e w17 ⟨rfl, sz17, b17, f17, k17⟩
  have sB17 := B16.size
  have B17 := B16.trans (b17.mono (by omega))
  have Q17 := hide ((unhide Q16).but (k17 _ (unhide Q16).lt (by omega)))
  have W17 := hide ((unhide W16).but (p := fun k => k < w7.heap.size ∨ w8.heap.size ≤ k) sz17 (fun k hk h => k17 k hk h) (fun k h1 h2 => by omega))
  have V17 := hide ((unhide V16).but (k17 _ (unhide V16).lt (by omega)))
  have G17 := hide ((unhide G16).but (p := fun k => k < w7.heap.size ∨ w8.heap.size ≤ k) sz17 (fun k hk h => k17 k hk h) (fun k h1 h2 => by omega))
  clear Q16 W16 Xb16 V16 G16 f17 k17 b17
  clear V17
  have hpk : ¬ (1 + 6 * (ms.length : Int) + 4 * (ns.length : Int) < 0) := by omega
  go_wp2_with fail
  refine (Lk.eqS _ _ (hearA ms me frm cost now x y ns) _ _ _ hol (unhide G17).rm (unhide W17).rm).mono ?_
  rintro e w18 ⟨rfl, b18⟩
  have B18 := B17.trans (b18.mono B17.size)
  have sz18 : w17.heap.size ≤ w18.heap.size := b18.size
  have Q18 := hide ((unhide Q17).below b18)
  have W18 := hide ((unhide W17).below b18)
  have G18 := hide ((unhide G17).below b18)
  clear Q17 W17 G17
  go_wp2_with fail
  refine (Lk.markF _ _ _ _ 1 (hearA ms me frm cost now x y ns) _ (by omega) (by omega) hol (unhide G18)).mono ?_
  rintro e w19 ⟨rfl, sz19, b19, f19, k19⟩
  have sB19 := B18.size
  have B19 := B18.trans (b19.mono (by omega))
  have Q19 := hide ((unhide Q18).but (k19 _ (unhide Q18).lt (by omega)))
  have W19 := hide ((unhide W18).but (p := fun k => k < w9.heap.size ∨ w10.heap.size ≤ k) sz19 (fun k hk h => k19 k hk h) (fun k h1 h2 => by omega))
  have M19 := hide f19
  clear Q18 W18 G18 f19 k19 b19
  have hpm : ¬ (1 + 6 * ((hearA ms me frm cost now x y ns).length : Int) < 0) := by omega
  go_wp2_with fail
  refine (Lk.heldF _ _ (hearA ms me frm cost now x y ns).length _ _ 1 _ (by omega) (by omega) hol (unhide M19)).mono ?_
  rintro e wh ⟨rfl, hwh⟩
  rw [hwh]
  clear hwh wh
  go_wp2_with fail
  refine wp_region_noPanic ?_
  refine wp_region_held_drew (S := fun w' => Bx3 w' w.heap.size x y (.slice b ns.length capn) ∧ w'.cell? ⟨w.heap.size, 0, none⟩ = some (.int .i64 x) ∧ w'.cell? ⟨w.heap.size, 1, none⟩ = some (.int .i64 y) ∧ w'.cell? ⟨w.heap.size, 2, none⟩ = some (.slice b ns.length capn)) (by kernel_rfl) (sH1 (unhide Q19).drew) (fun hHeld => ?_)
  (refine Rg.tk (i := 0) (d := 111) (v := ?_) rfl rfl (by kernel_rfl) (by kernel_rfl) (by kernel_rfl) (fun _ _ _ h => h) (by rfl) ?_ (by assumption) ?_; rotate_left; (focus (intro w0 hSw; (try dsimp only at hSw); go_simp; (try with_reducible rfl))); (try simp only [Act.put, List.setIfInBounds_toArray, List.set_cons_zero, List.set_cons_succ]))
  (refine Rg.tk (i := 2) (d := 113) (v := ?_) rfl rfl (by kernel_rfl) (by kernel_rfl) (by kernel_rfl) (fun _ _ _ h => h) (by rfl) ?_ (by assumption) ?_; rotate_left; (focus (intro w0 hSw; (try dsimp only at hSw); go_simp; (try with_reducible rfl))); (try simp only [Act.put, List.setIfInBounds_toArray, List.set_cons_zero, List.set_cons_succ]))
  (refine Rg.tk (i := 3) (d := 114) (v := ?_) rfl rfl (by kernel_rfl) (by kernel_rfl) (by kernel_rfl) (fun _ _ _ h => h) (by rfl) ?_ (by assumption) ?_; rotate_left; (focus (intro w0 hSw; (try dsimp only at hSw); go_simp; (try with_reducible rfl))); (try simp only [Act.put, List.setIfInBounds_toArray, List.set_cons_zero, List.set_cons_succ]))
  (refine Rg.tk (i := 4) (d := 115) (v := ?_) rfl rfl (by kernel_rfl) (by kernel_rfl) (by kernel_rfl) (fun _ _ _ h => h) (by rfl) ?_ (by assumption) ?_; rotate_left; (focus (intro w0 hSw; (try dsimp only at hSw); go_simp; (try with_reducible rfl))); (try simp only [Act.put, List.setIfInBounds_toArray, List.set_cons_zero, List.set_cons_succ]))
  (refine Rg.tk (i := 5) (d := 116) (v := ?_) rfl rfl (by kernel_rfl) (by kernel_rfl) (by kernel_rfl) (fun _ _ _ h => h) (by rfl) ?_ (by assumption) ?_; rotate_left; (focus (intro w0 hSw; (try dsimp only at hSw); go_simp; (try with_reducible rfl))); (try simp only [Act.put, List.setIfInBounds_toArray, List.set_cons_zero, List.set_cons_succ]))
  (refine Rg.tk (i := 6) (d := 117) (v := ?_) rfl rfl (by kernel_rfl) (by kernel_rfl) (by kernel_rfl) (fun _ _ _ h => h) (by rfl) ?_ (by assumption) ?_; rotate_left; (focus (intro w0 hSw; (try dsimp only at hSw); go_simp; (try with_reducible rfl))); (try simp only [Act.put, List.setIfInBounds_toArray, List.set_cons_zero, List.set_cons_succ]))
  (refine wpAnyH_ready (rs := [1]) (by kernel_rfl) (by simp) ?_; refine AllReadyH.cons (o := _) rfl (fun K hK => ?_) AllReadyH.nil; go_simp)
  refine (Lk.toS a ms cap _ hml_ms ((unhide HR_ms).below B19.drew)).mono ?_
  rintro e w20 ⟨g20, rfl, b20_, hg20, hz20, u20⟩
  have b20 : Below w19.heap.size w19 w20 := (Below.refl _ _).drew.trans b20_
  have B20 := B19.trans (b20.mono B19.size)
  have sz20 : w19.heap.size ≤ w20.heap.size := b20.size
  clear b20_
  have Q20 := hide ((unhide Q19).below b20)
  have W20 := hide ((unhide W19).below b20)
  have M20 := hide ((unhide M19).below b20)
  clear Q19 W19 M19
  clear hHeld
  have Za20 : Hid (Lk.Lst w20 (some ⟨g20, 0, none⟩) ms w19.heap.size w20.heap.size) := hide (.inr ⟨g20, rfl, hg20, hz20, hz20, u20⟩)
  clear u20
  refine hK.out _ _ (sH1 (unhide Q20)) (fun hHeld => ?_)
  clear hK K
  (try simp only [Act.put, List.setIfInBounds_toArray, List.set_cons_zero, List.set_cons_succ])
  (refine wpAnyH_ready (rs := [7]) (by kernel_rfl) (by simp) ?_; refine AllReadyH.cons (o := _) rfl (fun K hK => ?_) AllReadyH.nil; go_simp)
  refine (Hs.to x y b ns capn _ hml_ns ((unhide HR_ns).below B20)).mono ?_
  rintro e w21 ⟨g21, rfl, b21, hg21, hz21, u21⟩
  have B21 := B20.trans (b21.mono B20.size)
  have sz21 : w20.heap.size ≤ w21.heap.size := b21.size
  have Q21 := hide ((unhide Q20).below b21)
  have W21 := hide ((unhide W20).below b21)
  have M21 := hide ((unhide M20).below b21)
  have Za21 := hide ((unhide Za20).below b21)
  clear Q20 W20 M20 Za20
  clear hHeld
  have Zb21 : Hid (Nb.Lst w21 (some ⟨g21, 0, none⟩) ns w20.heap.size w21.heap.size) := hide (.inr ⟨g21, rfl, hg21, hz21, hz21, u21⟩)
  clear u21
  refine hK.out _ _ (sH1 (unhide Q21)) (fun hHeld => ?_)
  clear hK K
  (try simp only [Act.put, List.setIfInBounds_toArray, List.set_cons_zero, List.set_cons_succ])
  (refine wpAnyH_ready (rs := [8]) (by kernel_rfl) (by simp) ?_; refine AllReadyH.cons (o := _) rfl (fun K hK => ?_) AllReadyH.nil; go_simp)
  refine (implHear _ _ ms _ me frm cost now x y _ ns _ _ hml_ms hml_ns (unhide Za21).rm (unhide Zb21).rm).mono ?_
  rintro e w22 ⟨v22, rfl, b22, l22⟩
  have B22 := B21.trans (b22.mono B21.size)
  have sz22 : w21.heap.size ≤ w22.heap.size := b22.size
  have Q22 := hide ((unhide Q21).below b22)
  have W22 := hide ((unhide W21).below b22)
  have M22 := hide ((unhide M21).below b22)
  have Za22 := hide ((unhide Za21).below b22)
  have Zb22 := hide ((unhide Zb21).below b22)
  clear Q21 W21 M21 Za21 Zb21
  clear hHeld
  obtain ⟨a22, c22, rfl, L22⟩ := l22
  have H22 := hide L22
  clear L22
  rw [unhide HC]
  refine hK.out _ _ (sH1 (unhide Q22)) (fun hHeld => ?_)
  clear hK K
  (try simp only [Act.put, List.setIfInBounds_toArray, List.set_cons_zero, List.set_cons_succ])
  (refine Rg.tk (i := 9) (d := 110) (v := ?_) rfl rfl (by kernel_rfl) (by kernel_rfl) (by kernel_rfl) (fun _ _ _ h => h) (by rfl) ?_ (by assumption) ?_; rotate_left; (focus (intro w0 hSw; (try dsimp only at hSw); go_simp; (try with_reducible rfl))); (try simp only [Act.put, List.setIfInBounds_toArray, List.set_cons_zero, List.set_cons_succ]))
  (refine Rg.tk (i := 10) (d := 120) (v := ?_) rfl rfl (by kernel_rfl) (by kernel_rfl) (by kernel_rfl) (fun _ _ _ h => h) (by rfl) ?_ (by assumption) ?_; rotate_left; (focus (intro w0 hSw; (try dsimp only at hSw); go_simp; (try with_reducible rfl))); (try simp only [Act.put, List.setIfInBounds_toArray, List.set_cons_zero, List.set_cons_succ]))
  (refine Rg.tk (i := 11) (d := 121) (v := ?_) rfl rfl (by kernel_rfl) (by kernel_rfl) (by kernel_rfl) (fun _ _ _ h => h) (by rfl) ?_ (by assumption) ?_; rotate_left; (focus (intro w0 hSw; (try dsimp only at hSw); go_simp; (try with_reducible rfl))); (try simp only [Act.put, List.setIfInBounds_toArray, List.set_cons_zero, List.set_cons_succ]))
  (refine Rg.tk (i := 12) (d := 23) (v := ?_) rfl rfl (by kernel_rfl) (by kernel_rfl) (by kernel_rfl) (fun _ _ _ h => h) (by rfl) ?_ (by assumption) ?_; rotate_left; (focus (intro w0 hSw; (try dsimp only at hSw); go_simp; (try with_reducible rfl))); (try simp only [Act.put, List.setIfInBounds_toArray, List.set_cons_zero, List.set_cons_succ]))
  (refine Rg.tk (i := 13) (d := 24) (v := ?_) rfl rfl (by kernel_rfl) (by kernel_rfl) (by kernel_rfl) (fun _ _ _ h => h) (by rfl) ?_ (by assumption) ?_; rotate_left; (focus (intro w0 hSw; (try dsimp only at hSw); go_simp; (try with_reducible rfl))); (try simp only [Act.put, List.setIfInBounds_toArray, List.set_cons_zero, List.set_cons_succ]))
  refine wpAnyH_done (by kernel_rfl) (NoPanic.normal ?_) _
  clear hHeld
  go_wp2_with fail
  refine (Lk.eqS _ _ (hearA ms me frm cost now x y ns) _ _ _ hol (unhide H22).rm (unhide W22).rm).mono ?_
  rintro e w23 ⟨rfl, b23⟩
  have B23 := B22.trans (b23.mono B22.size)
  have sz23 : w22.heap.size ≤ w23.heap.size := b23.size
  have Q23 := hide ((unhide Q22).below b23)
  have W23 := hide ((unhide W22).below b23)
  have M23 := hide ((unhide M22).below b23)
  have Za23 := hide ((unhide Za22).below b23)
  have Zb23 := hide ((unhide Zb22).below b23)
  have H23 := hide ((unhide H22).below b23)
  clear Q22 W22 M22 Za22 Zb22 H22
  go_wp2_with fail
  refine (Lk.heldF _ _ (hearA ms me frm cost now x y ns).length _ _ 1 _ (by omega) (by omega) hol (unhide M23)).mono ?_
  rintro e wh ⟨rfl, hwh⟩
  rw [hwh]
  clear hwh wh
  have HF := hide B23
  go_wp2_with fail
  go_ret
  exact ⟨rfl, unhide HF⟩

set_option maxRecDepth 100000 in
theorem lifted (os : Os) (started : os.Started) (H : Type) (enc : TypeId × Value → H) :
    ReturnsInHanded {} Try.checked os 6 .any (Rows.fnExactHearHelloSpec.pre6 enc Try.prog Try.f6 Rows.fnExactHearHelloRow.domain false) (Rows.fnExactHearHelloSpec.post enc Try.prog Try.f6 false true false false) := by
  refine returnsInHanded_of_change (C := Try.checked) own started (by kernel_rfl) Try.func6
    (ChangeSpec.witness6 (enc := enc) (C := Try.checked) false ⟨#[], #[.slice none 0 0, .int .i64 0, .int .i64 0, .int .i64 0, .int .i64 0, .agg #[.int .i64 0, .int .i64 0, .slice none 0 0]], []⟩ 8 (by kernel_rfl) (by kernel_rfl) (by kernel_rfl) (by kernel_rfl)) ?_
  intro W base args ds gs before hval0 hW hcnd _
  have hval : ∀ (j : Nat) t v, Try.f6.params[j]? = some t → args[j]? = some v → Value.okWide Try.prog W .any base t v := hval0
  have hW' := hW
  obtain ⟨p, q, hA0, hV, rfl, hfz, hnd⟩ := hW
  have hA : DataW.TrodAll enc Try.prog W 0 (fun _ => true) true Try.f6.params.toList args.toList ds p := hA0
  rw [Try.params6] at hA hval
  obtain ⟨v0, vs0, d0, ds0, p0, q0, hargs0, rfl, rfl, h0, r0⟩ := trodAll_cons hA
  obtain ⟨v1, vs1, d1, ds1, p1, q1, hargs1, rfl, rfl, h1, r1⟩ := trodAll_cons r0
  obtain ⟨v2, vs2, d2, ds2, p2, q2, hargs2, rfl, rfl, h2, r2⟩ := trodAll_cons r1
  obtain ⟨v3, vs3, d3, ds3, p3, q3, hargs3, rfl, rfl, h3, r3⟩ := trodAll_cons r2
  obtain ⟨v4, vs4, d4, ds4, p4, q4, hargs4, rfl, rfl, h4, r4⟩ := trodAll_cons r3
  obtain ⟨v5, vs5, d5, ds5, p5, q5, hargs5, rfl, rfl, h5, r5⟩ := trodAll_cons r4
  obtain ⟨rfl, rfl, rfl⟩ := trodAll_nil r5
  obtain rfl : args = #[v0, v1, v2, v3, v4, v5] := by cases args; simp_all
  obtain ⟨rfl, rfl⟩ := trodVars_none hV
  have k0 := h0
  have lt0 : ∀ x ∈ p0, x.block < W.heap.size := by obtain ⟨m, hm⟩ := k0; exact DataW.trod_lt m _ _ _ hm
  have k1 := h1
  have lt1 : ∀ x ∈ p1, x.block < W.heap.size := by obtain ⟨m, hm⟩ := k1; exact DataW.trod_lt m _ _ _ hm
  have k2 := h2
  have lt2 : ∀ x ∈ p2, x.block < W.heap.size := by obtain ⟨m, hm⟩ := k2; exact DataW.trod_lt m _ _ _ hm
  have k3 := h3
  have lt3 : ∀ x ∈ p3, x.block < W.heap.size := by obtain ⟨m, hm⟩ := k3; exact DataW.trod_lt m _ _ _ hm
  have k4 := h4
  have lt4 : ∀ x ∈ p4, x.block < W.heap.size := by obtain ⟨m, hm⟩ := k4; exact DataW.trod_lt m _ _ _ hm
  have k5 := h5
  have lt5 : ∀ x ∈ p5, x.block < W.heap.size := by obtain ⟨m, hm⟩ := k5; exact DataW.trod_lt m _ _ _ hm
  obtain ⟨a0, len0, cap0, rfl⟩ := okWide_slice Try.underlying22 (hval 0 22 v0 rfl rfl)
  obtain ⟨ms0, hlen0, hmx0, hrd0⟩ := Lk.open_list h0
  subst hlen0
  obtain ⟨n1, rfl, _, _, wf1⟩ := open_int Try.underlying3 (hval 1 3 v1 rfl rfl) h1
  obtain ⟨n2, rfl, _, _, wf2⟩ := open_int Try.underlying3 (hval 2 3 v2 rfl rfl) h2
  obtain ⟨n3, rfl, _, _, wf3⟩ := open_int Try.underlying3 (hval 3 3 v3 rfl rfl) h3
  obtain ⟨n4, rfl, _, _, wf4⟩ := open_int Try.underlying3 (hval 4 3 v4 rfl rfl) h4
  obtain ⟨x5, y5, a5, len5, cap5, ms5, rfl, hlen5, hmx5, hrd5⟩ := Hs.open_str (hval 5 41 v5 rfl rfl) h5
  subst hlen5
  clear hA0 hval0
  refine (walk a0 ms0 cap0 hmx0 n1 wf1 n2 wf2 n3 wf3 n4 wf4 x5 y5 a5 ms5 cap5 hmx5 W hrd0 hrd5).mono fun e W' ⟨he, bel⟩ => ?_
  subst he
  exact ⟨_, rfl, _, _, _, [], _, [], hW', trodAll_mk1 (shut_bool Try.underlying4 _), (trodAll_cons_mk (Below.trod laidOut (by kernel_rfl) (of_decide_eq_true (by kernel_rfl)) k0 bel lt0) (trodAll_cons_mk (Below.trod laidOut (by kernel_rfl) (of_decide_eq_true (by kernel_rfl)) k1 bel lt1) (trodAll_cons_mk (Below.trod laidOut (by kernel_rfl) (of_decide_eq_true (by kernel_rfl)) k2 bel lt2) (trodAll_cons_mk (Below.trod laidOut (by kernel_rfl) (of_decide_eq_true (by kernel_rfl)) k3 bel lt3) (trodAll_cons_mk (Below.trod laidOut (by kernel_rfl) (of_decide_eq_true (by kernel_rfl)) k4 bel lt4) (trodAll_cons_mk (Below.trod laidOut (by kernel_rfl) (of_decide_eq_true (by kernel_rfl)) k5 bel lt5) trodAll_mk0)))))), rfl, bel.frame _, fun h => by cases h⟩

theorem over : Rows.fnExactHearHelloRow.holds Try.pinned (OpenSpec.ofChange Rows.fnExactHearHelloSpec) :=
  OpenClaim.holds_of_wide 6 Try.f6 rfl rfl rfl rfl rfl rfl rfl ⟨rfl, rfl, rfl, rfl, rfl⟩ rfl rfl rfl rfl rfl (by kernel_rfl) Try.func6 (by kernel_rfl)
    (of_decide_eq_true (by kernel_rfl)) (by unfold Func.isWrapper; first | (rw [if_pos (by decide +kernel)]; kernel_rfl) | (rw [if_neg (by decide +kernel)]; exact ⟨rfl, rfl⟩))
    (fun os started H enc _ => lifted os started H enc)
end Go.Proofs.Ytmelbilepfnmjam.fnExactHearHello
namespace Go.Proofs.Ytmelbilepfnmjam
/-- At every argument the program's HearHello answers as its model. -/
theorem fnExactHearHello_holds : Rows.FnExactHearHelloSaid := fnExactHearHello.over
end Go.Proofs.Ytmelbilepfnmjam
