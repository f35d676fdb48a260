/-
  Proved here: for every argument, laws.FnExactSetPut returns true (the program's SetPut answers as its model, leaves its argument alone, and answers in memory of its own), and leaves what came in as it was. No condition. (The walk is written by mkown.py.)
-/
import Derived.Test.YtmelbilepfnmjajSetZI
namespace Go.Proofs.Ytmelbilepfnmjaj.fnExactSetPut
open Go.ChangeShapes Go.WideShapes Go.ChangeAt Go.RowKit
open W1 St
set_option linter.unusedVariables false
theorem bx_of {w w' : World} {B b : Nat} {m : Tu.R} (h : Bx w b m) (hb : Below B w w') (hlt : b < B) : Bx w' b m := by
  obtain ⟨h0, h1, h2⟩ := h
  exact ⟨(hb.cell hlt).trans h0, (hb.cell hlt).trans h1, (hb.cell hlt).trans h2⟩
theorem own : ownKnob Try.prog.godebug = none := by kernel_rfl
theorem laidOut : laidOutB Try.prog = true := by kernel_rfl

set_option maxHeartbeats 8000000 in
theorem walk (a : Option Addr) (ms : List Tu.R) (cap : Nat) (hm : ms.length ≤ maxLen) (x : Tu.R) (w : World) (hr : Tu.RM w a ms) :
    Calls Try.prog 3 #[.slice a ms.length cap, x.value] w fun e w' => e = .returned (.bool true) ∧ Below w.heap.size w w' := by
  have HR := hide hr
  clear hr
  obtain ⟨key, til, val⟩ := x
  unfold Tu.R.value
  have HBA : Hid (Below w.heap.size w (w.alloc (.cells #[.int .i64 key, .int .i64 til, .int .i64 val] 24))) := hide ((Below.refl _ _).alloc (Nat.le_refl _) _)
  have HQ : Hid (Bx (w.alloc (.cells #[.int .i64 key, .int .i64 til, .int .i64 val] 24)) w.heap.size ⟨key, til, val⟩) := hide (by refine ⟨?_, ?_, ?_⟩ <;> simp [World.cell?_alloc_new])
  go_enter Try.func3, Try.ntmps3
  go_wp2_with fail
  refine (Tu.szS a ms.length cap 1048576 _ (by omega) (by omega) hm).mono ?_
  rintro e w1 ⟨r, rfl, hw1, hr01⟩
  have B1 : Below w.heap.size w w1 := by rw [hw1]; exact unhide HBA
  have Q1 : Hid (Bx w1 w.heap.size ⟨key, til, val⟩) := hide (by rw [hw1]; exact unhide HQ)
  have hq1 : w.heap.size < w1.heap.size := by rw [hw1]; simp
  clear hw1 HBA HQ
  rcases hr01 with hr0 | ⟨hr0, hr1⟩
  · go_wp2_with fail
    go_ret
    exact ⟨rfl, B1⟩
  have hnn : ¬ r < 0 := by omega
  have hml : ms.length ≤ 1048576 := by omega
  clear hr1 hm
  have hol : (putA ms ⟨key, til, val⟩).length ≤ 1048576 := (Nat.le_trans (put_len ms ⟨key, til, val⟩) (by omega))
  go_wp2_with fail
  refine wp_region_noPanic ?_
  refine wp_region_held_drew (S := fun w' => Bx w' w.heap.size ⟨key, til, val⟩ ∧ w'.cell? ⟨w.heap.size, 0, none⟩ = some (.int .i64 key) ∧ w'.cell? ⟨w.heap.size, 1, none⟩ = some (.int .i64 til) ∧ w'.cell? ⟨w.heap.size, 2, none⟩ = some (.int .i64 val)) (by kernel_rfl) (sBox (unhide Q1).drew) (fun hHeld => ?_)
  (refine Rg.tk (i := 0) (d := 22) (v := ?_) rfl rfl (by kernel_rfl) (by kernel_rfl) (by kernel_rfl) (fun _ _ _ h => h) (by rfl) ?_ (by assumption) ?_; rotate_left; (focus (intro w0 hSw; (try dsimp only at hSw); go_simp; (try with_reducible rfl))); (try simp only [Act.put, List.setIfInBounds_toArray, List.set_cons_zero, List.set_cons_succ]))
  (refine Rg.tk (i := 2) (d := 24) (v := ?_) rfl rfl (by kernel_rfl) (by kernel_rfl) (by kernel_rfl) (fun _ _ _ h => h) (by rfl) ?_ (by assumption) ?_; rotate_left; (focus (intro w0 hSw; (try dsimp only at hSw); go_simp; (try with_reducible rfl))); (try simp only [Act.put, List.setIfInBounds_toArray, List.set_cons_zero, List.set_cons_succ]))
  (refine wpAnyH_ready (rs := [1]) (by kernel_rfl) (by simp) ?_; refine AllReadyH.cons (o := _) rfl (fun K hK => ?_) AllReadyH.nil; go_simp)
  refine (Tu.toS a ms cap _ hml ((unhide HR).below B1.drew)).mono ?_
  rintro e w2 ⟨g2, rfl, b2_, hg2, hz2, u2⟩
  have b2 : Below w1.heap.size w1 w2 := (Below.refl _ _).drew.trans b2_
  have B2 := B1.trans (b2.mono B1.size)
  clear b2_
  have Q2 := hide ((unhide Q1).below b2)
  clear Q1
  have S2 : Hid (Tu.Lst w2 (some ⟨g2, 0, none⟩) ms w1.heap.size w2.heap.size) := hide (.inr ⟨g2, rfl, hg2, hz2, hz2, u2⟩)
  clear u2 hHeld
  refine hK.out _ _ (sBox (unhide Q2)) (fun hHeld => ?_)
  clear hK K
  (try simp only [Act.put, List.setIfInBounds_toArray, List.set_cons_zero, List.set_cons_succ])
  (refine wpAnyH_ready (rs := [3]) (by kernel_rfl) (by simp) ?_; refine AllReadyH.cons (o := _) rfl (fun K hK => ?_) AllReadyH.nil; go_simp)
  refine (Tu.toR key til val _).mono ?_
  rintro e w3 ⟨rfl, b3⟩
  have B3 := B2.trans (b3.mono B2.size)
  have Q3 := hide ((unhide Q2).below b3)
  have S3 := hide ((unhide S2).below b3)
  clear hHeld Q2 S2
  refine hK.out _ _ (sBox (unhide Q3)) (fun hHeld => ?_)
  clear hK K
  (try simp only [Act.put, List.setIfInBounds_toArray, List.set_cons_zero, List.set_cons_succ])
  (refine wpAnyH_ready (rs := [4]) (by kernel_rfl) (by simp) ?_; refine AllReadyH.cons (o := _) rfl (fun K hK => ?_) AllReadyH.nil; go_simp)
  refine (specPut _ _ ms _ ⟨key, til, val⟩ _ rfl hml (unhide S3).rm).mono ?_
  rintro e w4 ⟨v4, rfl, b4, l4⟩
  have B4 := B3.trans (b4.mono B3.size)
  have Q4 := hide ((unhide Q3).below b4)
  have S4 := hide ((unhide S3).below b4)
  clear hHeld Q3 S3
  obtain ⟨a4, c4, rfl, L4⟩ := l4
  have W4 := hide L4
  clear L4
  obtain ⟨cd, hcd⟩ : ∃ cd, putE ms ⟨key, til, val⟩ = cd := ⟨_, rfl⟩
  have HC := hide hcd
  rw [hcd]
  clear hcd
  refine hK.out _ _ (sBox (unhide Q4)) (fun hHeld => ?_)
  clear hK K
  (try simp only [Act.put, List.setIfInBounds_toArray, List.set_cons_zero, List.set_cons_succ])
  (refine Rg.tk (i := 5) (d := 21) (v := ?_) rfl rfl (by kernel_rfl) (by kernel_rfl) (by kernel_rfl) (fun _ _ _ h => h) (by rfl) ?_ (by assumption) ?_; rotate_left; (focus (intro w0 hSw; (try dsimp only at hSw); go_simp; (try with_reducible rfl))); (try simp only [Act.put, List.setIfInBounds_toArray, List.set_cons_zero, List.set_cons_succ]))
  (refine Rg.tk (i := 6) (d := 27) (v := ?_) rfl rfl (by kernel_rfl) (by kernel_rfl) (by kernel_rfl) (fun _ _ _ h => h) (by rfl) ?_ (by assumption) ?_; rotate_left; (focus (intro w0 hSw; (try dsimp only at hSw); go_simp; (try with_reducible rfl))); (try simp only [Act.put, List.setIfInBounds_toArray, List.set_cons_zero, List.set_cons_succ]))
  (refine Rg.tk (i := 7) (d := 28) (v := ?_) rfl rfl (by kernel_rfl) (by kernel_rfl) (by kernel_rfl) (fun _ _ _ h => h) (by rfl) ?_ (by assumption) ?_; rotate_left; (focus (intro w0 hSw; (try dsimp only at hSw); go_simp; (try with_reducible rfl))); (try simp only [Act.put, List.setIfInBounds_toArray, List.set_cons_zero, List.set_cons_succ]))
  (refine Rg.tk (i := 8) (d := 6) (v := ?_) rfl rfl (by kernel_rfl) (by kernel_rfl) (by kernel_rfl) (fun _ _ _ h => h) (by rfl) ?_ (by assumption) ?_; rotate_left; (focus (intro w0 hSw; (try dsimp only at hSw); go_simp; (try with_reducible rfl))); (try simp only [Act.put, List.setIfInBounds_toArray, List.set_cons_zero, List.set_cons_succ]))
  (refine Rg.tk (i := 9) (d := 7) (v := ?_) rfl rfl (by kernel_rfl) (by kernel_rfl) (by kernel_rfl) (fun _ _ _ h => h) (by rfl) ?_ (by assumption) ?_; rotate_left; (focus (intro w0 hSw; (try dsimp only at hSw); go_simp; (try with_reducible rfl))); (try simp only [Act.put, List.setIfInBounds_toArray, List.set_cons_zero, List.set_cons_succ]))
  refine wpAnyH_done (by kernel_rfl) (NoPanic.normal ?_) _
  clear hHeld
  clear S4
  go_wp2_with fail
  refine (Tu.toS a ms cap _ hml ((unhide HR).below B4)).mono ?_
  rintro e w5 ⟨g5, rfl, b5, hg5, hz5, u5⟩
  have B5 := B4.trans (b5.mono B4.size)
  have Q5 := hide ((unhide Q4).below b5)
  have W5 := hide ((unhide W4).below b5)
  clear Q4 W4
  have X5 : Hid (Tu.Lst w5 (some ⟨g5, 0, none⟩) ms w4.heap.size w5.heap.size) := hide (.inr ⟨g5, rfl, hg5, hz5, hz5, u5⟩)
  clear u5
  obtain ⟨z0, z1, z2⟩ := unhide Q5
  dsimp only at z0 z1 z2
  go_wp2_with fail
  refine (Tu.toR key til val _).mono ?_
  rintro e w6 ⟨rfl, b6⟩
  have B6 := B5.trans (b6.mono B5.size)
  have Q6 := hide ((unhide Q5).below b6)
  have W6 := hide ((unhide W5).below b6)
  have X6 := hide ((unhide X5).below b6)
  clear Q5 W5 X5
  clear z0 z1 z2
  go_wp2_with fail
  refine (implPut _ _ ms _ ⟨key, til, val⟩ _ rfl hml (unhide X6).rm).mono ?_
  rintro e w7 ⟨v7, rfl, b7, l7⟩
  have B7 := B6.trans (b7.mono B6.size)
  have Q7 := hide ((unhide Q6).below b7)
  have W7 := hide ((unhide W6).below b7)
  have X7 := hide ((unhide X6).below b7)
  clear Q6 W6 X6
  obtain ⟨a7, c7, rfl, L7⟩ := l7
  have G7 := hide L7
  clear L7
  rw [unhide HC]
  have hqx : w.heap.size < w4.heap.size := by have := b2.size; have := b3.size; have := b4.size; omega
  have hqg : w.heap.size < w6.heap.size := by have := b2.size; have := b3.size; have := b4.size; have := b5.size; have := b6.size; omega
  go_wp2_with fail
  refine (Tu.eqS _ _ (putA ms ⟨key, til, val⟩) _ _ _ hol (unhide G7).rm (unhide W7).rm).mono ?_
  rintro e w8 ⟨rfl, b8⟩
  have B8 := B7.trans (b8.mono B7.size)
  have Q8 := hide ((unhide Q7).below b8)
  have W8 := hide ((unhide W7).below b8)
  have X8 := hide ((unhide X7).below b8)
  have G8 := hide ((unhide G7).below b8)
  clear Q7 W7 X7 G7
  go_wp2_with fail
  refine (Tu.toS a ms cap _ hml ((unhide HR).below B8)).mono ?_
  rintro e w9 ⟨g9, rfl, b9, hg9, hz9, u9⟩
  have B9 := B8.trans (b9.mono B8.size)
  have Q9 := hide ((unhide Q8).below b9)
  have W9 := hide ((unhide W8).below b9)
  have X9 := hide ((unhide X8).below b9)
  have G9 := hide ((unhide G8).below b9)
  clear Q8 W8 X8 G8
  have Y9 : Hid (Tu.Lst w9 (some ⟨g9, 0, none⟩) ms w8.heap.size w9.heap.size) := hide (.inr ⟨g9, rfl, hg9, hz9, hz9, u9⟩)
  clear u9
  go_wp2_with fail
  refine (Tu.eqS _ _ ms _ _ _ hml (unhide X9).rm (unhide Y9).rm).mono ?_
  rintro e w10 ⟨rfl, b10⟩
  have B10 := B9.trans (b10.mono B9.size)
  have Q10 := hide ((unhide Q9).below b10)
  have W10 := hide ((unhide W9).below b10)
  have X10 := hide ((unhide X9).below b10)
  have G10 := hide ((unhide G9).below b10)
  have Y10 := hide ((unhide Y9).below b10)
  clear Q9 W9 X9 G9 Y9
  clear Y10
  go_wp2_with fail
  refine (Tu.markF _ _ _ _ 1 ms _ (by omega) (by omega) hml (unhide X10)).mono ?_
  rintro e w11 ⟨rfl, hz11, b11, _, k11⟩
  have s11 : w.heap.size ≤ w4.heap.size := B4.size
  have s11' : w.heap.size ≤ w10.heap.size := B10.size
  have B11 := B10.trans (b11.mono (by omega))
  have W11 := hide ((unhide W10).but (p := fun k => k < w4.heap.size ∨ w5.heap.size ≤ k) hz11 (fun k hk h => k11 k hk h) (fun k h1 h2 => .inl (Nat.lt_of_lt_of_le h2 (Nat.le_refl _))))
  have G11 := hide ((unhide G10).but (p := fun k => k < w4.heap.size ∨ w5.heap.size ≤ k) hz11 (fun k hk h => k11 k hk h) (fun k h1 h2 => .inr (Nat.le_trans (by have := b6.size; omega) h1)))
  have hq11 : w.heap.size < w10.heap.size := World.block_lt_of_cell? _ _ (unhide Q10).1
  have Q11 := hide (bx_of (unhide Q10) b11 (by have := hqx; have := hqg; omega))
  clear Q10 hq11
  clear W10 G10 X10 k11 b11
  have hp11 : ¬ (1 + 3 * (ms.length : Int) < 0) := by omega
  go_wp2_with fail
  refine (Tu.eqS _ _ (putA ms ⟨key, til, val⟩) _ _ _ hol (unhide G11).rm (unhide W11).rm).mono ?_
  rintro e w12 ⟨rfl, b12⟩
  have B12 := B11.trans (b12.mono B11.size)
  have W12 := hide ((unhide W11).below b12)
  have G12 := hide ((unhide G11).below b12)
  have Q12 := hide ((unhide Q11).below b12)
  clear W11 G11 Q11
  go_wp2_with fail
  refine (Tu.markF _ _ _ _ 1 (putA ms ⟨key, til, val⟩) _ (by omega) (by omega) hol (unhide G12)).mono ?_
  rintro e w13 ⟨rfl, hz13, b13, f13, k13⟩
  have s13 : w.heap.size ≤ w6.heap.size := B6.size
  have s13' : w.heap.size ≤ w12.heap.size := B12.size
  have B13 := B12.trans (b13.mono (by omega))
  have q13 : w4.heap.size ≤ w6.heap.size := by have := b5.size; have := b6.size; omega
  have W13 := hide ((unhide W12).but (p := fun k => k < w6.heap.size ∨ w7.heap.size ≤ k) hz13 (fun k hk h => k13 k hk h) (fun k h1 h2 => .inl (by omega)))
  have M13 := hide f13
  have hq13 : w.heap.size < w12.heap.size := World.block_lt_of_cell? _ _ (unhide Q12).1
  have Q13 := hide (bx_of (unhide Q12) b13 (by have := hqx; have := hqg; omega))
  clear Q12 hq13
  clear W12 G12 f13 k13 b13
  have hp13 : ¬ (1 + 3 * ((putA ms ⟨key, til, val⟩).length : Int) < 0) := by omega
  go_wp2_with fail
  refine (Tu.heldF _ _ (putA ms ⟨key, til, val⟩).length _ _ 1 _ (by omega) (by omega) hol (unhide M13)).mono ?_
  rintro e wh ⟨rfl, hwh⟩
  rw [hwh]
  clear hwh wh
  go_wp2_with fail
  refine wp_region_noPanic ?_
  refine wp_region_held_drew (S := fun w' => Bx w' w.heap.size ⟨key, til, val⟩ ∧ w'.cell? ⟨w.heap.size, 0, none⟩ = some (.int .i64 key) ∧ w'.cell? ⟨w.heap.size, 1, none⟩ = some (.int .i64 til) ∧ w'.cell? ⟨w.heap.size, 2, none⟩ = some (.int .i64 val)) (by kernel_rfl) (sBox (unhide Q13).drew) (fun hHeld => ?_)
  (refine Rg.tk (i := 0) (d := 80) (v := ?_) rfl rfl (by kernel_rfl) (by kernel_rfl) (by kernel_rfl) (fun _ _ _ h => h) (by rfl) ?_ (by assumption) ?_; rotate_left; (focus (intro w0 hSw; (try dsimp only at hSw); go_simp; (try with_reducible rfl))); (try simp only [Act.put, List.setIfInBounds_toArray, List.set_cons_zero, List.set_cons_succ]))
  (refine Rg.tk (i := 2) (d := 82) (v := ?_) rfl rfl (by kernel_rfl) (by kernel_rfl) (by kernel_rfl) (fun _ _ _ h => h) (by rfl) ?_ (by assumption) ?_; rotate_left; (focus (intro w0 hSw; (try dsimp only at hSw); go_simp; (try with_reducible rfl))); (try simp only [Act.put, List.setIfInBounds_toArray, List.set_cons_zero, List.set_cons_succ]))
  (refine wpAnyH_ready (rs := [1]) (by kernel_rfl) (by simp) ?_; refine AllReadyH.cons (o := _) rfl (fun K hK => ?_) AllReadyH.nil; go_simp)
  refine (Tu.toS a ms cap _ hml ((unhide HR).below B13.drew)).mono ?_
  rintro e w14 ⟨g14, rfl, b14_, hg14, hz14, u14⟩
  have b14 : Below w13.heap.size w13 w14 := (Below.refl _ _).drew.trans b14_
  have B14 := B13.trans (b14.mono B13.size)
  clear b14_
  have W14 := hide ((unhide W13).below b14)
  have M14 := hide ((unhide M13).below b14)
  have Q14 := hide ((unhide Q13).below b14)
  clear W13 M13 Q13
  have Z14 : Hid (Tu.Lst w14 (some ⟨g14, 0, none⟩) ms w13.heap.size w14.heap.size) := hide (.inr ⟨g14, rfl, hg14, hz14, hz14, u14⟩)
  clear u14 hHeld
  refine hK.out _ _ (sBox (unhide Q14)) (fun hHeld => ?_)
  clear hK K
  (try simp only [Act.put, List.setIfInBounds_toArray, List.set_cons_zero, List.set_cons_succ])
  (refine wpAnyH_ready (rs := [3]) (by kernel_rfl) (by simp) ?_; refine AllReadyH.cons (o := _) rfl (fun K hK => ?_) AllReadyH.nil; go_simp)
  refine (Tu.toR key til val _).mono ?_
  rintro e w15 ⟨rfl, b15⟩
  have B15 := B14.trans (b15.mono B14.size)
  have W15 := hide ((unhide W14).below b15)
  have M15 := hide ((unhide M14).below b15)
  have Q15 := hide ((unhide Q14).below b15)
  have Z15 := hide ((unhide Z14).below b15)
  clear hHeld W14 M14 Q14 Z14
  refine hK.out _ _ (sBox (unhide Q15)) (fun hHeld => ?_)
  clear hK K
  (try simp only [Act.put, List.setIfInBounds_toArray, List.set_cons_zero, List.set_cons_succ])
  (refine wpAnyH_ready (rs := [4]) (by kernel_rfl) (by simp) ?_; refine AllReadyH.cons (o := _) rfl (fun K hK => ?_) AllReadyH.nil; go_simp)
  refine (implPut _ _ ms _ ⟨key, til, val⟩ _ rfl hml (unhide Z15).rm).mono ?_
  rintro e w16 ⟨v16, rfl, b16, l16⟩
  have B16 := B15.trans (b16.mono B15.size)
  have W16 := hide ((unhide W15).below b16)
  have M16 := hide ((unhide M15).below b16)
  have Q16 := hide ((unhide Q15).below b16)
  have Z16 := hide ((unhide Z15).below b16)
  clear hHeld W15 M15 Q15 Z15
  obtain ⟨a16, c16, rfl, L16⟩ := l16
  have H16 := hide L16
  clear L16
  rw [unhide HC]
  refine hK.out _ _ (sBox (unhide Q16)) (fun hHeld => ?_)
  clear hK K
  (try simp only [Act.put, List.setIfInBounds_toArray, List.set_cons_zero, List.set_cons_succ])
  (refine Rg.tk (i := 5) (d := 79) (v := ?_) rfl rfl (by kernel_rfl) (by kernel_rfl) (by kernel_rfl) (fun _ _ _ h => h) (by rfl) ?_ (by assumption) ?_; rotate_left; (focus (intro w0 hSw; (try dsimp only at hSw); go_simp; (try with_reducible rfl))); (try simp only [Act.put, List.setIfInBounds_toArray, List.set_cons_zero, List.set_cons_succ]))
  (refine Rg.tk (i := 6) (d := 85) (v := ?_) rfl rfl (by kernel_rfl) (by kernel_rfl) (by kernel_rfl) (fun _ _ _ h => h) (by rfl) ?_ (by assumption) ?_; rotate_left; (focus (intro w0 hSw; (try dsimp only at hSw); go_simp; (try with_reducible rfl))); (try simp only [Act.put, List.setIfInBounds_toArray, List.set_cons_zero, List.set_cons_succ]))
  (refine Rg.tk (i := 7) (d := 86) (v := ?_) rfl rfl (by kernel_rfl) (by kernel_rfl) (by kernel_rfl) (fun _ _ _ h => h) (by rfl) ?_ (by assumption) ?_; rotate_left; (focus (intro w0 hSw; (try dsimp only at hSw); go_simp; (try with_reducible rfl))); (try simp only [Act.put, List.setIfInBounds_toArray, List.set_cons_zero, List.set_cons_succ]))
  (refine Rg.tk (i := 8) (d := 14) (v := ?_) rfl rfl (by kernel_rfl) (by kernel_rfl) (by kernel_rfl) (fun _ _ _ h => h) (by rfl) ?_ (by assumption) ?_; rotate_left; (focus (intro w0 hSw; (try dsimp only at hSw); go_simp; (try with_reducible rfl))); (try simp only [Act.put, List.setIfInBounds_toArray, List.set_cons_zero, List.set_cons_succ]))
  (refine Rg.tk (i := 9) (d := 15) (v := ?_) rfl rfl (by kernel_rfl) (by kernel_rfl) (by kernel_rfl) (fun _ _ _ h => h) (by rfl) ?_ (by assumption) ?_; rotate_left; (focus (intro w0 hSw; (try dsimp only at hSw); go_simp; (try with_reducible rfl))); (try simp only [Act.put, List.setIfInBounds_toArray, List.set_cons_zero, List.set_cons_succ]))
  refine wpAnyH_done (by kernel_rfl) (NoPanic.normal ?_) _
  clear hHeld
  go_wp2_with fail
  refine (Tu.eqS _ _ (putA ms ⟨key, til, val⟩) _ _ _ hol (unhide H16).rm (unhide W16).rm).mono ?_
  rintro e w17 ⟨rfl, b17⟩
  have B17 := B16.trans (b17.mono B16.size)
  have W17 := hide ((unhide W16).below b17)
  have M17 := hide ((unhide M16).below b17)
  have Q17 := hide ((unhide Q16).below b17)
  have Z17 := hide ((unhide Z16).below b17)
  have H17 := hide ((unhide H16).below b17)
  clear W16 M16 Q16 Z16 H16
  go_wp2_with fail
  refine (Tu.heldF _ _ (putA ms ⟨key, til, val⟩).length _ _ 1 _ (by omega) (by omega) hol (unhide M17)).mono ?_
  rintro e wh ⟨rfl, hwh⟩
  rw [hwh]
  clear hwh wh
  have HF := hide B17
  go_wp2_with fail
  go_ret
  exact ⟨rfl, unhide HF⟩

set_option maxRecDepth 100000 in
theorem lifted (os : Os) (started : os.Started) (H : Type) (enc : TypeId × Value → H) :
    ReturnsInHanded {} Try.checked os 3 .any (Rows.fnExactSetPutSpec.pre6 enc Try.prog Try.f3 Rows.fnExactSetPutRow.domain false) (Rows.fnExactSetPutSpec.post enc Try.prog Try.f3 false true false false) := by
  refine returnsInHanded_of_change (C := Try.checked) own started (by kernel_rfl) Try.func3
    (ChangeSpec.witness6 (enc := enc) (C := Try.checked) false ⟨#[], #[.slice none 0 0, .agg #[.int .i64 0, .int .i64 0, .int .i64 0]], []⟩ 8 (by kernel_rfl) (by kernel_rfl) (by kernel_rfl) (by kernel_rfl)) ?_
  intro W base args ds gs before hval0 hW hcnd _
  have hval : ∀ (j : Nat) t v, Try.f3.params[j]? = some t → args[j]? = some v → Value.okWide Try.prog W .any base t v := hval0
  have hW' := hW
  obtain ⟨p, q, hA0, hV, rfl, hfz, hnd⟩ := hW
  have hA : DataW.TrodAll enc Try.prog W 0 (fun _ => true) true Try.f3.params.toList args.toList ds p := hA0
  rw [Try.params3] at hA hval
  obtain ⟨v0, vs0, d0, ds0, p0, q0, hargs0, rfl, rfl, h0, r0⟩ := trodAll_cons hA
  obtain ⟨v1, vs1, d1, ds1, p1, q1, hargs1, rfl, rfl, h1, r1⟩ := trodAll_cons r0
  obtain ⟨rfl, rfl, rfl⟩ := trodAll_nil r1
  obtain rfl : args = #[v0, v1] := by cases args; simp_all
  obtain ⟨rfl, rfl⟩ := trodVars_none hV
  have k0 := h0
  have lt0 : ∀ x ∈ p0, x.block < W.heap.size := by obtain ⟨m, hm⟩ := k0; exact DataW.trod_lt m _ _ _ hm
  have k1 := h1
  have lt1 : ∀ x ∈ p1, x.block < W.heap.size := by obtain ⟨m, hm⟩ := k1; exact DataW.trod_lt m _ _ _ hm
  obtain ⟨a0, len0, cap0, rfl⟩ := okWide_slice Try.underlying22 (hval 0 22 v0 rfl rfl)
  obtain ⟨ms0, hlen0, hmx0, hrd0⟩ := Tu.open_list h0
  subst hlen0
  obtain ⟨m1, rfl⟩ := Tu.open_rec (hval 1 24 v1 rfl rfl) h1
  clear hA0 hval0
  refine (walk a0 ms0 cap0 hmx0 m1 W hrd0).mono fun e W' ⟨he, bel⟩ => ?_
  subst he
  exact ⟨_, rfl, _, _, _, [], _, [], hW', trodAll_mk1 (shut_bool Try.underlying4 _), (trodAll_cons_mk (Below.trod laidOut (by kernel_rfl) (of_decide_eq_true (by kernel_rfl)) k0 bel lt0) (trodAll_cons_mk (Below.trod laidOut (by kernel_rfl) (of_decide_eq_true (by kernel_rfl)) k1 bel lt1) trodAll_mk0)), rfl, bel.frame _, fun h => by cases h⟩

theorem over : Rows.fnExactSetPutRow.holds Try.pinned (OpenSpec.ofChange Rows.fnExactSetPutSpec) :=
  OpenClaim.holds_of_wide 3 Try.f3 rfl rfl rfl rfl rfl rfl rfl ⟨rfl, rfl, rfl, rfl, rfl⟩ rfl rfl rfl rfl rfl (by kernel_rfl) Try.func3 (by kernel_rfl)
    (of_decide_eq_true (by kernel_rfl)) (by unfold Func.isWrapper; first | (rw [if_pos (by decide +kernel)]; kernel_rfl) | (rw [if_neg (by decide +kernel)]; exact ⟨rfl, rfl⟩))
    (fun os started H enc _ => lifted os started H enc)
end Go.Proofs.Ytmelbilepfnmjaj.fnExactSetPut
namespace Go.Proofs.Ytmelbilepfnmjaj
/-- For every list of tuples and every tuple the program's SetPut answers as its model. -/
theorem fnExactSetPut_holds : Rows.FnExactSetPutSaid := fnExactSetPut.over
end Go.Proofs.Ytmelbilepfnmjaj
