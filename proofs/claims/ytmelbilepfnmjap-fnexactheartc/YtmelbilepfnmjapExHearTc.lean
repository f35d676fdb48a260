/-
  Proved here: for every argument, laws.FnExactHearTc returns true (the program's HearTc answers as its model, leaves its arguments alone, and answers in memory of its own), and leaves what came in as it was. No condition. (The walk is written by mktoplaw.py.)
-/
import Derived.Test.YtmelbilepfnmjapTopH
import Derived.Test.YtmelbilepfnmjapTopK
import Derived.Test.YtmelbilepfnmjapStrTop
import Derived.Test.YtmelbilepfnmjapStrTc
namespace Go.Proofs.Ytmelbilepfnmjap.fnExactHearTc
open Go.ChangeShapes Go.WideShapes Go.ChangeAt Go.RowKit
open W1 Tp
set_option linter.unusedVariables false
set_option linter.unusedSimpArgs false
theorem own : ownKnob Try.prog.godebug = none := by kernel_rfl
theorem laidOut : laidOutB Try.prog = true := by kernel_rfl
theorem sH2 {w : World} {b c : Nat} {x y x2 y2 : Value} (h : Bx2 w b x y) (h2 : Bx2 w c x2 y2) :
    (Bx2 w b x y ∧ Bx2 w c x2 y2) ∧ w.cell? ⟨b, 0, none⟩ = some x ∧ w.cell? ⟨b, 1, none⟩ = some y ∧ w.cell? ⟨c, 0, none⟩ = some x2 ∧ w.cell? ⟨c, 1, none⟩ = some y2 := ⟨⟨h, h2⟩, h.1, h.2, h2.1, h2.2⟩
theorem sH3 {w : World} {b b2 : Nat} {x y x2 y2 : Int} {v v2 : Value} (h : Bx3 w b x y v) (h2 : Bx3 w b2 x2 y2 v2) :
    (Bx3 w b x y v ∧ Bx3 w b2 x2 y2 v2) ∧ w.cell? ⟨b, 0, none⟩ = some (.int .i64 x) ∧ w.cell? ⟨b, 1, none⟩ = some (.int .i64 y) ∧ w.cell? ⟨b, 2, none⟩ = some v ∧ w.cell? ⟨b2, 0, none⟩ = some (.int .i64 x2) ∧ w.cell? ⟨b2, 1, none⟩ = some (.int .i64 y2) ∧ w.cell? ⟨b2, 2, none⟩ = some v2 := ⟨⟨h, h2⟩, h.1, h.2.1, h.2.2, h2.1, h2.2.1, h2.2.2⟩
theorem sQT {w : World} {b c : Nat} {x y : Value} {p q : Int} {v : Value} (h : Bx2 w b x y) (h2 : Bx3 w c p q v) :
    (Bx2 w b x y ∧ Bx3 w c p q v) ∧ w.cell? ⟨b, 0, none⟩ = some x ∧ w.cell? ⟨b, 1, none⟩ = some y ∧ w.cell? ⟨c, 0, none⟩ = some (.int .i64 p) ∧ w.cell? ⟨c, 1, none⟩ = some (.int .i64 q) ∧ w.cell? ⟨c, 2, none⟩ = some v := ⟨⟨h, h2⟩, h.1, h.2, h2.1, h2.2.1, h2.2.2⟩
set_option maxRecDepth 100000 in
set_option maxHeartbeats 16000000 in
theorem walk (a : Option Addr) (ss : List So.R) (ca : Nat) (b : Option Addr) (es : List Tu.R) (cb : Nat) (hm_ss : ss.length ≤ maxLen) (hm_es : es.length ≤ maxLen) (frm : Int) (wf_frm : (Lit.int .i64 frm).wf = true) (now : Int) (wf_now : (Lit.int .i64 now).wf = true) (x y : Int) (c : Option Addr) (ns : List Ed.R) (cn : Nat) (hm_ns : ns.length ≤ maxLen) (w : World) (hr_ss : So.RM w a ss) (hr_es : Tu.RM w b es) (hr_ns : Ed.RM w c ns) :
    Calls Try.prog 5 #[.agg #[.slice a ss.length ca, .slice b es.length cb], .int .i64 frm, .int .i64 now, .agg #[.int .i64 x, .int .i64 y, .slice c ns.length cn]] w fun e w' => e = .returned (.bool true) ∧ Below w.heap.size w w' := by
  have hoA : (hearS ss es frm now x y ns).length ≤ 1048576 := Nat.le_trans (hearS_len ss es frm now x y ns) (by omega)
  have hoB : (hearE ss es frm now x y ns).length ≤ 1048576 := Nat.le_trans (hearE_len ss es frm now x y ns) (by omega)
  obtain ⟨cd, hcd⟩ : ∃ cd, hearC ss es frm now x y ns = cd := ⟨_, rfl⟩
  have HC := hide hcd
  clear hcd
  have hne : (cd != cd) = false := by simp
  have HR_ss := hide hr_ss
  have HR_es := hide hr_es
  clear hr_ss hr_es
  have HR_ns := hide hr_ns
  clear hr_ns
  obtain ⟨w0, hw0⟩ : ∃ w0, w.alloc (.cells #[.slice a ss.length ca, .slice b es.length cb] 37) = w0 := ⟨_, rfl⟩
  have B0 : Below w.heap.size w w0 := by rw [← hw0]; exact (Below.refl _ _).alloc (Nat.le_refl _) _
  have Q0 : Hid (Bx2 w0 w.heap.size (.slice a ss.length ca) (.slice b es.length cb)) := hide (by rw [← hw0]; exact bx2_new _ _ _ _)
  have hs0 : w0.heap.size = w.heap.size + 1 := by rw [← hw0]; simp
  obtain ⟨w1, hw1⟩ : ∃ w1, w0.alloc (.cells #[.int .i64 x, .int .i64 y, .slice c ns.length cn] 48) = w1 := ⟨_, rfl⟩
  have b1 : Below w0.heap.size w0 w1 := by rw [← hw1]; exact (Below.refl _ _).alloc (Nat.le_refl _) _
  have B1 := B0.trans (b1.mono B0.size)
  have Q1 := hide ((unhide Q0).below b1)
  have T1 : Hid (Bx3 w1 (w.heap.size + 1) x y (.slice c ns.length cn)) := hide (by rw [← hw1, ← hs0]; exact bx3_new _ _ _ _ _)
  have hq1 : w.heap.size + 1 < w1.heap.size := (unhide T1).lt
  have HW1 : Hid ((w.alloc (.cells #[.slice a ss.length ca, .slice b es.length cb] 37)).alloc (.cells #[.int .i64 x, .int .i64 y, .slice c ns.length cn] 48) = w1) := hide (by rw [hw0, hw1])
  clear hw0 hw1 b1 B0 Q0 hs0
  go_enter Try.func5, Try.ntmps5
  go_wp2_with fail
  rw [unhide HW1]
  refine (Tq.sz a ss.length ca b es.length cb 1048576 _ (by omega) (by omega) hm_ss hm_es).mono ?_
  rintro e w2 ⟨r2, rfl, b2, hr01⟩
  have B2 := B1.trans (b2.mono B1.size)
  have sz2 : w1.heap.size ≤ w2.heap.size := b2.size
  have Q2 := hide ((unhide Q1).below b2)
  have T2 := hide ((unhide T1).below b2)
  clear Q1 T1
  rcases hr01 with hr0 | ⟨hr0, hr1⟩
  · go_wp2_with fail
    go_ret
    exact ⟨rfl, B2⟩
  have hnn2 : ¬ r2 < 0 := by omega
  have hml_ss : ss.length ≤ 1048576 := by omega
  have hml_es : es.length ≤ 1048576 := by omega
  have hrl2 : r2 ≤ 1048576 := by omega
  clear hr1 hm_ss hm_es
  obtain ⟨zT0, zT1, zT2⟩ := unhide T2
  go_wp2_with fail
  clear zT0 zT1 zT2
  refine (Ts.sz x y c ns.length cn r2 _ (by omega) (by omega) hm_ns).mono ?_
  rintro e w3 ⟨r3, rfl, b3, hr01⟩
  have B3 := B2.trans (b3.mono B2.size)
  have sz3 : w2.heap.size ≤ w3.heap.size := b3.size
  have Q3 := hide ((unhide Q2).below b3)
  have T3 := hide ((unhide T2).below b3)
  clear Q2 T2
  rcases hr01 with hr0 | ⟨hr0, hr1⟩
  · go_wp2_with fail
    go_ret
    exact ⟨rfl, B3⟩
  have hnn3 : ¬ r3 < 0 := by omega
  have hml_ns : ns.length ≤ 1048576 := by omega
  clear hr1 hm_ns
  go_wp2_with fail
  go_cut [10, 11] (fun p q wx => ∃ (Bk : Nat) (aS : Option Addr) (cS : Nat) (aE : Option Addr) (cE mid hi : Nat), p = .pointer (some ⟨Bk, 0, none⟩) ∧ q = .int .i64 cd ∧ Hid (Below w3.heap.size w3 wx) ∧ Hid (Bx2 wx Bk (.slice aS (hearS ss es frm now x y ns).length cS) (.slice aE (hearE ss es frm now x y ns).length cE)) ∧ Hid (So.Lst wx aS (hearS ss es frm now x y ns) w3.heap.size mid) ∧ Hid (Tu.Lst wx aE (hearE ss es frm now x y ns) mid hi) ∧ Hid (w3.heap.size ≤ mid ∧ mid ≤ hi ∧ hi ≤ wx.heap.size ∧ w3.heap.size ≤ Bk))
  case first =>
    refine wp_region_noPanic ?_
    refine wp_region_held_drew (S := fun w' => (Bx2 w' w.heap.size (.slice a ss.length ca) (.slice b es.length cb) ∧ Bx3 w' (w.heap.size + 1) x y (.slice c ns.length cn)) ∧ w'.cell? ⟨w.heap.size, 0, none⟩ = some (.slice a ss.length ca) ∧ w'.cell? ⟨w.heap.size, 1, none⟩ = some (.slice b es.length cb) ∧ w'.cell? ⟨w.heap.size + 1, 0, none⟩ = some (.int .i64 x) ∧ w'.cell? ⟨w.heap.size + 1, 1, none⟩ = some (.int .i64 y) ∧ w'.cell? ⟨w.heap.size + 1, 2, none⟩ = some (.slice c ns.length cn)) (by kernel_rfl) (sQT ((unhide Q3).drew) ((unhide T3).drew)) (fun hHeld => ?_)
    (refine Rg.tk (i := 0) (d := 32) (v := ?_) rfl rfl (by kernel_rfl) (by kernel_rfl) (by kernel_rfl) (fun _ _ _ h => h) (by rfl) ?_ (by assumption) ?_; rotate_left; (focus (intro w0 hSw; (try dsimp only at hSw); go_simp; (try with_reducible rfl))); (try simp only [Act.put, List.setIfInBounds_toArray, List.set_cons_zero, List.set_cons_succ]))
    (refine Rg.tk (i := 2) (d := 34) (v := ?_) rfl rfl (by kernel_rfl) (by kernel_rfl) (by kernel_rfl) (fun _ _ _ h => h) (by rfl) ?_ (by assumption) ?_; rotate_left; (focus (intro w0 hSw; (try dsimp only at hSw); go_simp; (try with_reducible rfl))); (try simp only [Act.put, List.setIfInBounds_toArray, List.set_cons_zero, List.set_cons_succ]))
    (refine Rg.tk (i := 3) (d := 35) (v := ?_) rfl rfl (by kernel_rfl) (by kernel_rfl) (by kernel_rfl) (fun _ _ _ h => h) (by rfl) ?_ (by assumption) ?_; rotate_left; (focus (intro w0 hSw; (try dsimp only at hSw); go_simp; (try with_reducible rfl))); (try simp only [Act.put, List.setIfInBounds_toArray, List.set_cons_zero, List.set_cons_succ]))
    (refine Rg.tk (i := 4) (d := 36) (v := ?_) rfl rfl (by kernel_rfl) (by kernel_rfl) (by kernel_rfl) (fun _ _ _ h => h) (by rfl) ?_ (by assumption) ?_; rotate_left; (focus (intro w0 hSw; (try dsimp only at hSw); go_simp; (try with_reducible rfl))); (try simp only [Act.put, List.setIfInBounds_toArray, List.set_cons_zero, List.set_cons_succ]))
    (refine wpAnyH_ready (rs := [1, 10]) (by kernel_rfl) (by simp) ?_; refine AllReadyH.cons (o := _) rfl (fun K hK => ?_) (AllReadyH.cons (o := _) rfl (fun K hK => ?_) AllReadyH.nil))
    · go_simp
      refine (Tq.to a ss ca b es cb _ hml_ss hml_es ((unhide HR_ss).below B3.drew) ((unhide HR_es).below B3.drew)).mono ?_
      rintro e v1 ⟨gs, hs, rfl, b_1, hgs, us, vs⟩
      have bb1 : Below w3.heap.size w3 v1 := (Below.refl _ _).drew.trans b_1
      have CS : Hid (So.RM v1 (some ⟨gs, 0, none⟩) ss) := hide (So.rm_of us)
      have CE : Hid (Tu.RM v1 (some ⟨hs, 0, none⟩) es) := hide (Tu.rm_of vs)
      clear us vs
      clear b_1 hHeld
      refine hK.out _ _ (sQT ((unhide Q3).below bb1) ((unhide T3).below bb1)) (fun hHeld => ?_)
      clear hK K
      (try simp only [Act.put, List.setIfInBounds_toArray, List.set_cons_zero, List.set_cons_succ])
      (refine wpAnyH_ready (rs := [5, 10]) (by kernel_rfl) (by simp) ?_; refine AllReadyH.cons (o := _) rfl (fun K hK => ?_) (AllReadyH.cons (o := _) rfl (fun K hK => ?_) AllReadyH.nil))
      · go_simp
        refine (Ts.to x y c ns cn _ hml_ns ((unhide HR_ns).below (B3.trans (bb1.mono B3.size)))).mono ?_
        rintro e v2 ⟨gn, rfl, b_2, hgn, hzn, un⟩
        have bb2 := bb1.trans (b_2.mono bb1.size)
        have CS := hide ((unhide CS).below b_2)
        have CE := hide ((unhide CE).below b_2)
        have CN : Hid (Ed.RM v2 (some ⟨gn, 0, none⟩) ns) := hide (Ed.rm_of un)
        clear un
        clear b_2 hHeld
        refine hK.out _ _ (sQT ((unhide Q3).below bb2) ((unhide T3).below bb2)) (fun hHeld => ?_)
        clear hK K
        (try simp only [Act.put, List.setIfInBounds_toArray, List.set_cons_zero, List.set_cons_succ])
        (refine wpAnyH_ready (rs := [6, 10]) (by kernel_rfl) (by simp) ?_; refine AllReadyH.cons (o := _) rfl (fun K hK => ?_) (AllReadyH.cons (o := _) rfl (fun K hK => ?_) AllReadyH.nil))
        · go_simp
          refine (specHear _ _ ss _ _ _ es _ frm now x y _ ns _ _ (Nat.le_refl _) hml_ss hml_es hml_ns (unhide CS) (unhide CE) (unhide CN)).mono ?_
          rintro e v3 ⟨vv, rfl, b_3, lv⟩
          have bb3 := bb2.trans (b_3.mono bb2.size)
          have CS := hide ((unhide CS).below b_3)
          have CE := hide ((unhide CE).below b_3)
          have CN := hide ((unhide CN).below b_3)
          rw [unhide HC]
          obtain ⟨vs, ve, mid, rfl, ⟨aS, cS, rfl, lS⟩, ⟨aE, cE, rfl, lE⟩, q1, q2⟩ := lv
          have LS := hide lS
          have LE := hide lE
          have HLO := hide (And.intro bb2.size (And.intro q1 q2))
          clear lS lE q1 q2 b_3 hHeld
          refine hK.out _ _ (sQT ((unhide Q3).below bb3) ((unhide T3).below bb3)) (fun hHeld => ?_)
          clear hK K
          (try simp only [Act.put, List.setIfInBounds_toArray, List.set_cons_zero, List.set_cons_succ])
          (refine Rg.tk (i := 7) (d := 31) (v := ?_) rfl rfl (by kernel_rfl) (by kernel_rfl) (by kernel_rfl) (fun _ _ _ h => h) (by rfl) ?_ (by assumption) ?_; rotate_left; (focus (intro w0 hSw; (try dsimp only at hSw); go_simp; (try with_reducible rfl))); (try simp only [Act.put, List.setIfInBounds_toArray, List.set_cons_zero, List.set_cons_succ]))
          (refine Rg.tk (i := 8) (d := 39) (v := ?_) rfl rfl (by kernel_rfl) (by kernel_rfl) (by kernel_rfl) (fun _ _ _ h => h) (by rfl) ?_ (by assumption) ?_; rotate_left; (focus (intro w0 hSw; (try dsimp only at hSw); go_simp; (try with_reducible rfl))); (try simp only [Act.put, List.setIfInBounds_toArray, List.set_cons_zero, List.set_cons_succ]))
          (refine Rg.tk (i := 9) (d := 40) (v := ?_) rfl rfl (by kernel_rfl) (by kernel_rfl) (by kernel_rfl) (fun _ _ _ h => h) (by rfl) ?_ (by assumption) ?_; rotate_left; (focus (intro w0 hSw; (try dsimp only at hSw); go_simp; (try with_reducible rfl))); (try simp only [Act.put, List.setIfInBounds_toArray, List.set_cons_zero, List.set_cons_succ]))
          (refine wpAnyH_ready (rs := [10]) (by kernel_rfl) (by simp) ?_; refine AllReadyH.cons (o := _) rfl (fun K hK => ?_) AllReadyH.nil; go_simp)
          have bA := bb3.alloc bb3.size (.cells #[.slice none 0 0, .slice none 0 0] 42)
          clear hHeld
          refine hK.out _ _ (sQT ((unhide Q3).below bA) ((unhide T3).below bA)) (fun hHeld => ?_)
          clear hK K
          (try simp only [Act.put, List.setIfInBounds_toArray, List.set_cons_zero, List.set_cons_succ])
          (refine wpAnyH_ready (rs := [11]) (by kernel_rfl) (by simp) ?_; refine AllReadyH.cons (o := _) rfl (fun K hK => ?_) AllReadyH.nil; go_simp)
          have bF := bb3.alloc bb3.size (.cells #[(.slice aS (hearS ss es frm now x y ns).length cS), (.slice aE (hearE ss es frm now x y ns).length cE)] 42)
          have ZF := hide (bx2_new v3 (.slice aS (hearS ss es frm now x y ns).length cS) (.slice aE (hearE ss es frm now x y ns).length cE) 42)
          have LS2 := hide ((unhide LS).below ((Below.refl _ _).alloc (Nat.le_refl _) (.cells #[(.slice aS (hearS ss es frm now x y ns).length cS), (.slice aE (hearE ss es frm now x y ns).length cE)] 42)))
          have LE2 := hide ((unhide LE).below ((Below.refl _ _).alloc (Nat.le_refl _) (.cells #[(.slice aS (hearS ss es frm now x y ns).length cS), (.slice aE (hearE ss es frm now x y ns).length cE)] 42)))
          have HSF : Hid (v3.heap.size ≤ (v3.alloc (.cells #[(.slice aS (hearS ss es frm now x y ns).length cS), (.slice aE (hearE ss es frm now x y ns).length cE)] 42)).heap.size) := hide ((Below.refl _ _).alloc (Nat.le_refl _) _).size
          have HBk := hide bb3.size
          clear hHeld
          generalize hWF : v3.alloc (.cells #[(.slice aS (hearS ss es frm now x y ns).length cS), (.slice aE (hearE ss es frm now x y ns).length cE)] 42) = vF at *
          clear hWF
          refine hK.out _ _ (sQT ((unhide Q3).below bF) ((unhide T3).below bF)) (fun hHeld => ?_)
          clear hK K
          (try simp only [Act.put, List.setIfInBounds_toArray, List.set_cons_zero, List.set_cons_succ])
          (refine Rg.tk (i := 12) (d := 11) (v := ?_) rfl rfl (by kernel_rfl) (by kernel_rfl) (by kernel_rfl) (fun _ _ _ h => h) (by rfl) ?_ (by assumption) ?_; rotate_left; (focus (intro w0 hSw; (try dsimp only at hSw); go_simp; (try with_reducible rfl))); (try simp only [Act.put, List.setIfInBounds_toArray, List.set_cons_zero, List.set_cons_succ]))
          refine wpAnyH_done (by kernel_rfl) (NoPanic.normal ?_) _
          clear hHeld
          go_wp2_with fail
          go_meet
          case rel =>
            have h1 := unhide HLO
            have h2 := unhide HSF
            have h3 := unhide HBk
            exact ⟨v3.heap.size, aS, cS, aE, cE, mid, v3.heap.size, rfl, rfl, hide bF, ZF, hide ((unhide LS2).mono h1.1 (Nat.le_refl _)), LE2, hide ⟨Nat.le_trans h1.1 h1.2.1, h1.2.2, h2, h3⟩⟩
        · go_simp
          have b_3 : Below v2.heap.size v2 (v2.alloc (.cells #[.slice none 0 0, .slice none 0 0] 42)) := (Below.refl _ _).alloc (Nat.le_refl _) _
          have bb3 := bb2.trans (b_3.mono bb2.size)
          have ZK : Hid (TV (v2.alloc (.cells #[.slice none 0 0, .slice none 0 0] 42)) v2.heap.size (.slice none 0 0) (.slice none 0 0)) := hide (tv_new v2 _ _)
          have CS := hide ((unhide CS).below b_3)
          have CE := hide ((unhide CE).below b_3)
          have CN := hide ((unhide CN).below b_3)
          have HBk : Hid (w3.heap.size ≤ v2.heap.size) := hide (bb2.size)
          clear hHeld b_3
          generalize hWv : v2.alloc (.cells #[.slice none 0 0, .slice none 0 0] 42) = v3 at *
          clear hWv
          refine hK.out _ _ (sQT ((unhide Q3).below bb3) ((unhide T3).below bb3)) (fun hHeld => ?_)
          clear hK K
          (try simp only [Act.put, List.setIfInBounds_toArray, List.set_cons_zero, List.set_cons_succ])
          (refine wpAnyH_ready (rs := [6]) (by kernel_rfl) (by simp) ?_; refine AllReadyH.cons (o := _) rfl (fun K hK => ?_) AllReadyH.nil; go_simp)
          have HLK : Hid (v2.heap.size < v3.heap.size) := hide (unhide ZK).lt
          refine (specHear _ _ ss _ _ _ es _ frm now x y _ ns _ _ (Nat.le_refl _) hml_ss hml_es hml_ns (unhide CS) (unhide CE) (unhide CN)).mono ?_
          rintro e v4 ⟨vv, rfl, b_4, lv⟩
          have bb4 := bb3.trans (b_4.mono bb3.size)
          have CS := hide ((unhide CS).below b_4)
          have CE := hide ((unhide CE).below b_4)
          have CN := hide ((unhide CN).below b_4)
          have ZK := hide ((unhide ZK).below b_4)
          rw [unhide HC]
          obtain ⟨vs, ve, mid, rfl, ⟨aS, cS, rfl, lS⟩, ⟨aE, cE, rfl, lE⟩, q1, q2⟩ := lv
          have LS := hide lS
          have LE := hide lE
          have HLO := hide (And.intro bb3.size (And.intro q1 q2))
          clear lS lE q1 q2 b_4 hHeld
          refine hK.out _ _ (sQT ((unhide Q3).below bb4) ((unhide T3).below bb4)) (fun hHeld => ?_)
          clear hK K
          (try simp only [Act.put, List.setIfInBounds_toArray, List.set_cons_zero, List.set_cons_succ])
          (refine Rg.tk (i := 7) (d := 31) (v := ?_) rfl rfl (by kernel_rfl) (by kernel_rfl) (by kernel_rfl) (fun _ _ _ h => h) (by rfl) ?_ (by assumption) ?_; rotate_left; (focus (intro w0 hSw; (try dsimp only at hSw); go_simp; (try with_reducible rfl))); (try simp only [Act.put, List.setIfInBounds_toArray, List.set_cons_zero, List.set_cons_succ]))
          (refine Rg.tk (i := 8) (d := 39) (v := ?_) rfl rfl (by kernel_rfl) (by kernel_rfl) (by kernel_rfl) (fun _ _ _ h => h) (by rfl) ?_ (by assumption) ?_; rotate_left; (focus (intro w0 hSw; (try dsimp only at hSw); go_simp; (try with_reducible rfl))); (try simp only [Act.put, List.setIfInBounds_toArray, List.set_cons_zero, List.set_cons_succ]))
          (refine Rg.tk (i := 9) (d := 40) (v := ?_) rfl rfl (by kernel_rfl) (by kernel_rfl) (by kernel_rfl) (fun _ _ _ h => h) (by rfl) ?_ (by assumption) ?_; rotate_left; (focus (intro w0 hSw; (try dsimp only at hSw); go_simp; (try with_reducible rfl))); (try simp only [Act.put, List.setIfInBounds_toArray, List.set_cons_zero, List.set_cons_succ]))
          obtain ⟨x0, x1⟩ := (unhide ZK).bx
          have f0 := (unhide ZK).free 0
          have f1 := (unhide ZK).free 1
          have hzl := (unhide ZK).lt
          (refine wpAnyH_ready (rs := [11]) (by kernel_rfl) (by simp) ?_; refine AllReadyH.cons (o := _) rfl (fun K hK => ?_) AllReadyH.nil; go_simp)
          have ZF := hide ((unhide ZK).put (.slice aS (hearS ss es frm now x y ns).length cS) (.slice aE (hearE ss es frm now x y ns).length cE)).bx
          have LS2 := hide (lsS_set (b := v2.heap.size) (i := 1) (u := (.slice aE (hearE ss es frm now x y ns).length cE)) (lsS_set (b := v2.heap.size) (i := 0) (u := (.slice aS (hearS ss es frm now x y ns).length cS)) (unhide LS) (.inl (unhide HLK))) (.inl (unhide HLK)))
          have LE2 := hide (lsT_set (b := v2.heap.size) (i := 1) (u := (.slice aE (hearE ss es frm now x y ns).length cE)) (lsT_set (b := v2.heap.size) (i := 0) (u := (.slice aS (hearS ss es frm now x y ns).length cS)) (unhide LE) (.inl (Nat.lt_of_lt_of_le (unhide HLK) (unhide HLO).2.1))) (.inl (Nat.lt_of_lt_of_le (unhide HLK) (unhide HLO).2.1)))
          have bF := (bb4.setCell (p := ⟨v2.heap.size, 0, none⟩) (unhide HBk) (.slice aS (hearS ss es frm now x y ns).length cS)).setCell (p := ⟨v2.heap.size, 1, none⟩) (unhide HBk) (.slice aE (hearE ss es frm now x y ns).length cE)
          have HSF : Hid (v4.heap.size = ((v4.setCell ⟨v2.heap.size, 0, none⟩ (.slice aS (hearS ss es frm now x y ns).length cS)).setCell ⟨v2.heap.size, 1, none⟩ (.slice aE (hearE ss es frm now x y ns).length cE)).heap.size) := hide (by simp [World.setCell])
          clear hHeld x0 x1 f0 f1 hzl
          generalize hWF : (v4.setCell ⟨v2.heap.size, 0, none⟩ (.slice aS (hearS ss es frm now x y ns).length cS)).setCell ⟨v2.heap.size, 1, none⟩ (.slice aE (hearE ss es frm now x y ns).length cE) = vF at *
          clear hWF
          refine hK.out _ _ (sQT ((unhide Q3).below bF) ((unhide T3).below bF)) (fun hHeld => ?_)
          clear hK K
          (try simp only [Act.put, List.setIfInBounds_toArray, List.set_cons_zero, List.set_cons_succ])
          (refine Rg.tk (i := 12) (d := 11) (v := ?_) rfl rfl (by kernel_rfl) (by kernel_rfl) (by kernel_rfl) (fun _ _ _ h => h) (by rfl) ?_ (by assumption) ?_; rotate_left; (focus (intro w0 hSw; (try dsimp only at hSw); go_simp; (try with_reducible rfl))); (try simp only [Act.put, List.setIfInBounds_toArray, List.set_cons_zero, List.set_cons_succ]))
          refine wpAnyH_done (by kernel_rfl) (NoPanic.normal ?_) _
          clear hHeld
          go_wp2_with fail
          go_meet
          case rel =>
            have h1 := unhide HLO
            have h2 := unhide HSF
            have h3 := unhide HBk
            exact ⟨v2.heap.size, aS, cS, aE, cE, mid, v4.heap.size, rfl, rfl, hide bF, ZF, hide ((unhide LS2).mono h1.1 (Nat.le_refl _)), LE2, hide ⟨Nat.le_trans h1.1 h1.2.1, h1.2.2, Nat.le_of_eq h2, h3⟩⟩
      · go_simp
        have b_2 : Below v1.heap.size v1 (v1.alloc (.cells #[.slice none 0 0, .slice none 0 0] 42)) := (Below.refl _ _).alloc (Nat.le_refl _) _
        have bb2 := bb1.trans (b_2.mono bb1.size)
        have ZK : Hid (TV (v1.alloc (.cells #[.slice none 0 0, .slice none 0 0] 42)) v1.heap.size (.slice none 0 0) (.slice none 0 0)) := hide (tv_new v1 _ _)
        have CS := hide ((unhide CS).below b_2)
        have CE := hide ((unhide CE).below b_2)
        have HBk : Hid (w3.heap.size ≤ v1.heap.size) := hide (bb1.size)
        clear hHeld b_2
        generalize hWv : v1.alloc (.cells #[.slice none 0 0, .slice none 0 0] 42) = v2 at *
        clear hWv
        refine hK.out _ _ (sQT ((unhide Q3).below bb2) ((unhide T3).below bb2)) (fun hHeld => ?_)
        clear hK K
        (try simp only [Act.put, List.setIfInBounds_toArray, List.set_cons_zero, List.set_cons_succ])
        (refine wpAnyH_ready (rs := [5]) (by kernel_rfl) (by simp) ?_; refine AllReadyH.cons (o := _) rfl (fun K hK => ?_) AllReadyH.nil; go_simp)
        refine (Ts.to x y c ns cn _ hml_ns ((unhide HR_ns).below (B3.trans (bb2.mono B3.size)))).mono ?_
        rintro e v3 ⟨gn, rfl, b_3, hgn, hzn, un⟩
        have bb3 := bb2.trans (b_3.mono bb2.size)
        have CS := hide ((unhide CS).below b_3)
        have CE := hide ((unhide CE).below b_3)
        have ZK := hide ((unhide ZK).below b_3)
        have CN : Hid (Ed.RM v3 (some ⟨gn, 0, none⟩) ns) := hide (Ed.rm_of un)
        clear un
        clear b_3 hHeld
        refine hK.out _ _ (sQT ((unhide Q3).below bb3) ((unhide T3).below bb3)) (fun hHeld => ?_)
        clear hK K
        (try simp only [Act.put, List.setIfInBounds_toArray, List.set_cons_zero, List.set_cons_succ])
        (refine wpAnyH_ready (rs := [6]) (by kernel_rfl) (by simp) ?_; refine AllReadyH.cons (o := _) rfl (fun K hK => ?_) AllReadyH.nil; go_simp)
        have HLK : Hid (v1.heap.size < v3.heap.size) := hide (unhide ZK).lt
        refine (specHear _ _ ss _ _ _ es _ frm now x y _ ns _ _ (Nat.le_refl _) hml_ss hml_es hml_ns (unhide CS) (unhide CE) (unhide CN)).mono ?_
        rintro e v4 ⟨vv, rfl, b_4, lv⟩
        have bb4 := bb3.trans (b_4.mono bb3.size)
        have CS := hide ((unhide CS).below b_4)
        have CE := hide ((unhide CE).below b_4)
        have ZK := hide ((unhide ZK).below b_4)
        have CN := hide ((unhide CN).below b_4)
        rw [unhide HC]
        obtain ⟨vs, ve, mid, rfl, ⟨aS, cS, rfl, lS⟩, ⟨aE, cE, rfl, lE⟩, q1, q2⟩ := lv
        have LS := hide lS
        have LE := hide lE
        have HLO := hide (And.intro bb3.size (And.intro q1 q2))
        clear lS lE q1 q2 b_4 hHeld
        refine hK.out _ _ (sQT ((unhide Q3).below bb4) ((unhide T3).below bb4)) (fun hHeld => ?_)
        clear hK K
        (try simp only [Act.put, List.setIfInBounds_toArray, List.set_cons_zero, List.set_cons_succ])
        (refine Rg.tk (i := 7) (d := 31) (v := ?_) rfl rfl (by kernel_rfl) (by kernel_rfl) (by kernel_rfl) (fun _ _ _ h => h) (by rfl) ?_ (by assumption) ?_; rotate_left; (focus (intro w0 hSw; (try dsimp only at hSw); go_simp; (try with_reducible rfl))); (try simp only [Act.put, List.setIfInBounds_toArray, List.set_cons_zero, List.set_cons_succ]))
        (refine Rg.tk (i := 8) (d := 39) (v := ?_) rfl rfl (by kernel_rfl) (by kernel_rfl) (by kernel_rfl) (fun _ _ _ h => h) (by rfl) ?_ (by assumption) ?_; rotate_left; (focus (intro w0 hSw; (try dsimp only at hSw); go_simp; (try with_reducible rfl))); (try simp only [Act.put, List.setIfInBounds_toArray, List.set_cons_zero, List.set_cons_succ]))
        (refine Rg.tk (i := 9) (d := 40) (v := ?_) rfl rfl (by kernel_rfl) (by kernel_rfl) (by kernel_rfl) (fun _ _ _ h => h) (by rfl) ?_ (by assumption) ?_; rotate_left; (focus (intro w0 hSw; (try dsimp only at hSw); go_simp; (try with_reducible rfl))); (try simp only [Act.put, List.setIfInBounds_toArray, List.set_cons_zero, List.set_cons_succ]))
        obtain ⟨x0, x1⟩ := (unhide ZK).bx
        have f0 := (unhide ZK).free 0
        have f1 := (unhide ZK).free 1
        have hzl := (unhide ZK).lt
        (refine wpAnyH_ready (rs := [11]) (by kernel_rfl) (by simp) ?_; refine AllReadyH.cons (o := _) rfl (fun K hK => ?_) AllReadyH.nil; go_simp)
        have ZF := hide ((unhide ZK).put (.slice aS (hearS ss es frm now x y ns).length cS) (.slice aE (hearE ss es frm now x y ns).length cE)).bx
        have LS2 := hide (lsS_set (b := v1.heap.size) (i := 1) (u := (.slice aE (hearE ss es frm now x y ns).length cE)) (lsS_set (b := v1.heap.size) (i := 0) (u := (.slice aS (hearS ss es frm now x y ns).length cS)) (unhide LS) (.inl (unhide HLK))) (.inl (unhide HLK)))
        have LE2 := hide (lsT_set (b := v1.heap.size) (i := 1) (u := (.slice aE (hearE ss es frm now x y ns).length cE)) (lsT_set (b := v1.heap.size) (i := 0) (u := (.slice aS (hearS ss es frm now x y ns).length cS)) (unhide LE) (.inl (Nat.lt_of_lt_of_le (unhide HLK) (unhide HLO).2.1))) (.inl (Nat.lt_of_lt_of_le (unhide HLK) (unhide HLO).2.1)))
        have bF := (bb4.setCell (p := ⟨v1.heap.size, 0, none⟩) (unhide HBk) (.slice aS (hearS ss es frm now x y ns).length cS)).setCell (p := ⟨v1.heap.size, 1, none⟩) (unhide HBk) (.slice aE (hearE ss es frm now x y ns).length cE)
        have HSF : Hid (v4.heap.size = ((v4.setCell ⟨v1.heap.size, 0, none⟩ (.slice aS (hearS ss es frm now x y ns).length cS)).setCell ⟨v1.heap.size, 1, none⟩ (.slice aE (hearE ss es frm now x y ns).length cE)).heap.size) := hide (by simp [World.setCell])
        clear hHeld x0 x1 f0 f1 hzl
        generalize hWF : (v4.setCell ⟨v1.heap.size, 0, none⟩ (.slice aS (hearS ss es frm now x y ns).length cS)).setCell ⟨v1.heap.size, 1, none⟩ (.slice aE (hearE ss es frm now x y ns).length cE) = vF at *
        clear hWF
        refine hK.out _ _ (sQT ((unhide Q3).below bF) ((unhide T3).below bF)) (fun hHeld => ?_)
        clear hK K
        (try simp only [Act.put, List.setIfInBounds_toArray, List.set_cons_zero, List.set_cons_succ])
        (refine Rg.tk (i := 12) (d := 11) (v := ?_) rfl rfl (by kernel_rfl) (by kernel_rfl) (by kernel_rfl) (fun _ _ _ h => h) (by rfl) ?_ (by assumption) ?_; rotate_left; (focus (intro w0 hSw; (try dsimp only at hSw); go_simp; (try with_reducible rfl))); (try simp only [Act.put, List.setIfInBounds_toArray, List.set_cons_zero, List.set_cons_succ]))
        refine wpAnyH_done (by kernel_rfl) (NoPanic.normal ?_) _
        clear hHeld
        go_wp2_with fail
        go_meet
        case rel =>
          have h1 := unhide HLO
          have h2 := unhide HSF
          have h3 := unhide HBk
          exact ⟨v1.heap.size, aS, cS, aE, cE, mid, v4.heap.size, rfl, rfl, hide bF, ZF, hide ((unhide LS2).mono h1.1 (Nat.le_refl _)), LE2, hide ⟨Nat.le_trans h1.1 h1.2.1, h1.2.2, Nat.le_of_eq h2, h3⟩⟩
    · go_simp
      have b_1 : Below w3.heap.size w3 ((w3.alloc (.cells #[.slice none 0 0, .slice none 0 0] 42)).drew) := ((Below.refl _ _).alloc (Nat.le_refl _) _).drew
      have bb1 := b_1
      have ZK : Hid (TV ((w3.alloc (.cells #[.slice none 0 0, .slice none 0 0] 42)).drew) w3.heap.size (.slice none 0 0) (.slice none 0 0)) := hide ((tv_new w3 _ _).drew)
      have HBk : Hid (w3.heap.size ≤ w3.heap.size) := hide (Nat.le_refl _)
      clear hHeld b_1
      generalize hWv : (w3.alloc (.cells #[.slice none 0 0, .slice none 0 0] 42)).drew = v1 at *
      clear hWv
      refine hK.out _ _ (sQT ((unhide Q3).below bb1) ((unhide T3).below bb1)) (fun hHeld => ?_)
      clear hK K
      (try simp only [Act.put, List.setIfInBounds_toArray, List.set_cons_zero, List.set_cons_succ])
      (refine wpAnyH_ready (rs := [1]) (by kernel_rfl) (by simp) ?_; refine AllReadyH.cons (o := _) rfl (fun K hK => ?_) AllReadyH.nil; go_simp)
      refine (Tq.to a ss ca b es cb _ hml_ss hml_es ((unhide HR_ss).below (B3.trans (bb1.mono B3.size))) ((unhide HR_es).below (B3.trans (bb1.mono B3.size)))).mono ?_
      rintro e v2 ⟨gs, hs, rfl, b_2, hgs, us, vs⟩
      have bb2 := bb1.trans (b_2.mono bb1.size)
      have ZK := hide ((unhide ZK).below b_2)
      have CS : Hid (So.RM v2 (some ⟨gs, 0, none⟩) ss) := hide (So.rm_of us)
      have CE : Hid (Tu.RM v2 (some ⟨hs, 0, none⟩) es) := hide (Tu.rm_of vs)
      clear us vs
      clear b_2 hHeld
      refine hK.out _ _ (sQT ((unhide Q3).below bb2) ((unhide T3).below bb2)) (fun hHeld => ?_)
      clear hK K
      (try simp only [Act.put, List.setIfInBounds_toArray, List.set_cons_zero, List.set_cons_succ])
      (refine wpAnyH_ready (rs := [5]) (by kernel_rfl) (by simp) ?_; refine AllReadyH.cons (o := _) rfl (fun K hK => ?_) AllReadyH.nil; go_simp)
      refine (Ts.to x y c ns cn _ hml_ns ((unhide HR_ns).below (B3.trans (bb2.mono B3.size)))).mono ?_
      rintro e v3 ⟨gn, rfl, b_3, hgn, hzn, un⟩
      have bb3 := bb2.trans (b_3.mono bb2.size)
      have ZK := hide ((unhide ZK).below b_3)
      have CS := hide ((unhide CS).below b_3)
      have CE := hide ((unhide CE).below b_3)
      have CN : Hid (Ed.RM v3 (some ⟨gn, 0, none⟩) ns) := hide (Ed.rm_of un)
      clear un
      clear b_3 hHeld
      refine hK.out _ _ (sQT ((unhide Q3).below bb3) ((unhide T3).below bb3)) (fun hHeld => ?_)
      clear hK K
      (try simp only [Act.put, List.setIfInBounds_toArray, List.set_cons_zero, List.set_cons_succ])
      (refine wpAnyH_ready (rs := [6]) (by kernel_rfl) (by simp) ?_; refine AllReadyH.cons (o := _) rfl (fun K hK => ?_) AllReadyH.nil; go_simp)
      have HLK : Hid (w3.heap.size < v3.heap.size) := hide (unhide ZK).lt
      refine (specHear _ _ ss _ _ _ es _ frm now x y _ ns _ _ (Nat.le_refl _) hml_ss hml_es hml_ns (unhide CS) (unhide CE) (unhide CN)).mono ?_
      rintro e v4 ⟨vv, rfl, b_4, lv⟩
      have bb4 := bb3.trans (b_4.mono bb3.size)
      have ZK := hide ((unhide ZK).below b_4)
      have CS := hide ((unhide CS).below b_4)
      have CE := hide ((unhide CE).below b_4)
      have CN := hide ((unhide CN).below b_4)
      rw [unhide HC]
      obtain ⟨vs, ve, mid, rfl, ⟨aS, cS, rfl, lS⟩, ⟨aE, cE, rfl, lE⟩, q1, q2⟩ := lv
      have LS := hide lS
      have LE := hide lE
      have HLO := hide (And.intro bb3.size (And.intro q1 q2))
      clear lS lE q1 q2 b_4 hHeld
      refine hK.out _ _ (sQT ((unhide Q3).below bb4) ((unhide T3).below bb4)) (fun hHeld => ?_)
      clear hK K
      (try simp only [Act.put, List.setIfInBounds_toArray, List.set_cons_zero, List.set_cons_succ])
      (refine Rg.tk (i := 7) (d := 31) (v := ?_) rfl rfl (by kernel_rfl) (by kernel_rfl) (by kernel_rfl) (fun _ _ _ h => h) (by rfl) ?_ (by assumption) ?_; rotate_left; (focus (intro w0 hSw; (try dsimp only at hSw); go_simp; (try with_reducible rfl))); (try simp only [Act.put, List.setIfInBounds_toArray, List.set_cons_zero, List.set_cons_succ]))
      (refine Rg.tk (i := 8) (d := 39) (v := ?_) rfl rfl (by kernel_rfl) (by kernel_rfl) (by kernel_rfl) (fun _ _ _ h => h) (by rfl) ?_ (by assumption) ?_; rotate_left; (focus (intro w0 hSw; (try dsimp only at hSw); go_simp; (try with_reducible rfl))); (try simp only [Act.put, List.setIfInBounds_toArray, List.set_cons_zero, List.set_cons_succ]))
      (refine Rg.tk (i := 9) (d := 40) (v := ?_) rfl rfl (by kernel_rfl) (by kernel_rfl) (by kernel_rfl) (fun _ _ _ h => h) (by rfl) ?_ (by assumption) ?_; rotate_left; (focus (intro w0 hSw; (try dsimp only at hSw); go_simp; (try with_reducible rfl))); (try simp only [Act.put, List.setIfInBounds_toArray, List.set_cons_zero, List.set_cons_succ]))
      obtain ⟨x0, x1⟩ := (unhide ZK).bx
      have f0 := (unhide ZK).free 0
      have f1 := (unhide ZK).free 1
      have hzl := (unhide ZK).lt
      (refine wpAnyH_ready (rs := [11]) (by kernel_rfl) (by simp) ?_; refine AllReadyH.cons (o := _) rfl (fun K hK => ?_) AllReadyH.nil; go_simp)
      have ZF := hide ((unhide ZK).put (.slice aS (hearS ss es frm now x y ns).length cS) (.slice aE (hearE ss es frm now x y ns).length cE)).bx
      have LS2 := hide (lsS_set (b := w3.heap.size) (i := 1) (u := (.slice aE (hearE ss es frm now x y ns).length cE)) (lsS_set (b := w3.heap.size) (i := 0) (u := (.slice aS (hearS ss es frm now x y ns).length cS)) (unhide LS) (.inl (unhide HLK))) (.inl (unhide HLK)))
      have LE2 := hide (lsT_set (b := w3.heap.size) (i := 1) (u := (.slice aE (hearE ss es frm now x y ns).length cE)) (lsT_set (b := w3.heap.size) (i := 0) (u := (.slice aS (hearS ss es frm now x y ns).length cS)) (unhide LE) (.inl (Nat.lt_of_lt_of_le (unhide HLK) (unhide HLO).2.1))) (.inl (Nat.lt_of_lt_of_le (unhide HLK) (unhide HLO).2.1)))
      have bF := (bb4.setCell (p := ⟨w3.heap.size, 0, none⟩) (unhide HBk) (.slice aS (hearS ss es frm now x y ns).length cS)).setCell (p := ⟨w3.heap.size, 1, none⟩) (unhide HBk) (.slice aE (hearE ss es frm now x y ns).length cE)
      have HSF : Hid (v4.heap.size = ((v4.setCell ⟨w3.heap.size, 0, none⟩ (.slice aS (hearS ss es frm now x y ns).length cS)).setCell ⟨w3.heap.size, 1, none⟩ (.slice aE (hearE ss es frm now x y ns).length cE)).heap.size) := hide (by simp [World.setCell])
      clear hHeld x0 x1 f0 f1 hzl
      generalize hWF : (v4.setCell ⟨w3.heap.size, 0, none⟩ (.slice aS (hearS ss es frm now x y ns).length cS)).setCell ⟨w3.heap.size, 1, none⟩ (.slice aE (hearE ss es frm now x y ns).length cE) = vF at *
      clear hWF
      refine hK.out _ _ (sQT ((unhide Q3).below bF) ((unhide T3).below bF)) (fun hHeld => ?_)
      clear hK K
      (try simp only [Act.put, List.setIfInBounds_toArray, List.set_cons_zero, List.set_cons_succ])
      (refine Rg.tk (i := 12) (d := 11) (v := ?_) rfl rfl (by kernel_rfl) (by kernel_rfl) (by kernel_rfl) (fun _ _ _ h => h) (by rfl) ?_ (by assumption) ?_; rotate_left; (focus (intro w0 hSw; (try dsimp only at hSw); go_simp; (try with_reducible rfl))); (try simp only [Act.put, List.setIfInBounds_toArray, List.set_cons_zero, List.set_cons_succ]))
      refine wpAnyH_done (by kernel_rfl) (NoPanic.normal ?_) _
      clear hHeld
      go_wp2_with fail
      go_meet
      case rel =>
        have h1 := unhide HLO
        have h2 := unhide HSF
        have h3 := unhide HBk
        exact ⟨w3.heap.size, aS, cS, aE, cE, mid, v4.heap.size, rfl, rfl, hide bF, ZF, hide ((unhide LS2).mono h1.1 (Nat.le_refl _)), LE2, hide ⟨Nat.le_trans h1.1 h1.2.1, h1.2.2, Nat.le_of_eq h2, h3⟩⟩
  case rest =>
  obtain ⟨Bk4, as4, cs4, ae4, ce4, mid4, hi4, rfl, rfl, Hbw4, WB4, Ws4, We4, Hq4⟩ := hcut
  rename World => w4
  obtain ⟨qa4, qb4, qc4, qd4⟩ := unhide Hq4
  have b4 := unhide Hbw4
  have B4 := B3.trans (b4.mono B3.size)
  have sz4 : w3.heap.size ≤ w4.heap.size := b4.size
  clear Hbw4 Hq4
  have lt4 := (unhide WB4).lt
  have Q4 := hide ((unhide Q3).below b4)
  have T4 := hide ((unhide T3).below b4)
  clear Q3 T3
  obtain ⟨zQ0, zQ1⟩ := unhide Q4
  go_wp2_with fail
  clear zQ0 zQ1
  refine (Tq.to a ss ca b es cb _ hml_ss hml_es ((unhide HR_ss).below B4) ((unhide HR_es).below B4)).mono ?_
  rintro e w5 ⟨g5, h5, rfl, b5, hg5, u5, v5⟩
  have B5 := B4.trans (b5.mono B4.size)
  have sz5 : w4.heap.size ≤ w5.heap.size := b5.size
  have Q5 := hide ((unhide Q4).below b5)
  have T5 := hide ((unhide T4).below b5)
  have Ws5 := hide ((unhide Ws4).below b5)
  have We5 := hide ((unhide We4).below b5)
  have WB5 := hide ((unhide WB4).below b5)
  clear Q4 T4 Ws4 We4 WB4
  have Xs5 : Hid (So.Lst w5 (some ⟨g5, 0, none⟩) ss w4.heap.size h5) := hide (.inr ⟨g5, rfl, hg5.1, hg5.2.1, by omega, u5⟩)
  have Xe5 : Hid (Tu.Lst w5 (some ⟨h5, 0, none⟩) es h5 w5.heap.size) := hide (.inr ⟨h5, rfl, Nat.le_refl _, hg5.2.2, hg5.2.2, v5⟩)
  clear u5 v5
  obtain ⟨zT0, zT1, zT2⟩ := unhide T5
  have yT := (unhide T5).lt
  go_wp2_with fail
  clear zT0 zT1 zT2
  clear yT
  obtain ⟨w6, hw6⟩ : ∃ w6, w5.alloc (.cells #[.slice (some ⟨g5, 0, none⟩) ss.length ss.length, .slice (some ⟨h5, 0, none⟩) es.length es.length] 42) = w6 := ⟨_, rfl⟩
  have b6 : Below w5.heap.size w5 w6 := by rw [← hw6]; exact (Below.refl _ _).alloc (Nat.le_refl _) _
  have B6 := B5.trans (b6.mono B5.size)
  have sz6 : w5.heap.size ≤ w6.heap.size := b6.size
  have sy6 : w6.heap.size = w5.heap.size + 1 := by rw [← hw6]; simp
  have Q6 := hide ((unhide Q5).below b6)
  have T6 := hide ((unhide T5).below b6)
  have Ws6 := hide ((unhide Ws5).below b6)
  have We6 := hide ((unhide We5).below b6)
  have WB6 := hide ((unhide WB5).below b6)
  have Xs6 := hide ((unhide Xs5).below b6)
  have Xe6 := hide ((unhide Xe5).below b6)
  clear Q5 T5 Ws5 We5 WB5 Xs5 Xe5
  have V6 : Hid (Bx2 w6 w5.heap.size (.slice (some ⟨g5, 0, none⟩) ss.length ss.length) (.slice (some ⟨h5, 0, none⟩) es.length es.length)) := hide (by rw [← hw6]; exact bx2_new _ _ _ _)
  have HW6 := hide hw6
  clear hw6
  rw [unhide HW6]
  refine (Ts.to x y c ns cn _ hml_ns ((unhide HR_ns).below B6)).mono ?_
  rintro e w7 ⟨g7, rfl, b7, hg7, hz7, u7⟩
  have B7 := B6.trans (b7.mono B6.size)
  have sz7 : w6.heap.size ≤ w7.heap.size := b7.size
  have Q7 := hide ((unhide Q6).below b7)
  have T7 := hide ((unhide T6).below b7)
  have Ws7 := hide ((unhide Ws6).below b7)
  have We7 := hide ((unhide We6).below b7)
  have WB7 := hide ((unhide WB6).below b7)
  have Xs7 := hide ((unhide Xs6).below b7)
  have Xe7 := hide ((unhide Xe6).below b7)
  have V7 := hide ((unhide V6).below b7)
  clear Q6 T6 Ws6 We6 WB6 Xs6 Xe6 V6
  have N7 : Hid (Ed.Lst w7 (some ⟨g7, 0, none⟩) ns w6.heap.size w7.heap.size) := hide (.inr ⟨g7, rfl, hg7, hz7, hz7, u7⟩)
  clear u7
  obtain ⟨zV0, zV1⟩ := unhide V7
  have yV := (unhide V7).lt
  go_wp2_with fail
  clear zV0 zV1
  clear yV
  obtain ⟨w8, hw8⟩ : ∃ w8, w7.alloc (.cells #[.int .i64 x, .int .i64 y, .slice (some ⟨g7, 0, none⟩) ns.length ns.length] 54) = w8 := ⟨_, rfl⟩
  have b8 : Below w7.heap.size w7 w8 := by rw [← hw8]; exact (Below.refl _ _).alloc (Nat.le_refl _) _
  have B8 := B7.trans (b8.mono B7.size)
  have sz8 : w7.heap.size ≤ w8.heap.size := b8.size
  have sy8 : w8.heap.size = w7.heap.size + 1 := by rw [← hw8]; simp
  have Q8 := hide ((unhide Q7).below b8)
  have T8 := hide ((unhide T7).below b8)
  have Ws8 := hide ((unhide Ws7).below b8)
  have We8 := hide ((unhide We7).below b8)
  have WB8 := hide ((unhide WB7).below b8)
  have Xs8 := hide ((unhide Xs7).below b8)
  have Xe8 := hide ((unhide Xe7).below b8)
  have V8 := hide ((unhide V7).below b8)
  have N8 := hide ((unhide N7).below b8)
  clear Q7 T7 Ws7 We7 WB7 Xs7 Xe7 V7 N7
  have U8 : Hid (Bx3 w8 w7.heap.size x y (.slice (some ⟨g7, 0, none⟩) ns.length ns.length)) := hide (by rw [← hw8]; exact bx3_new _ _ _ _ _)
  have HW8 := hide hw8
  clear hw8
  rw [unhide HW8]
  refine (implHear _ _ ss _ _ _ es _ frm now x y _ ns _ _ (Nat.le_refl _) hml_ss hml_es hml_ns (unhide Xs8).rm (unhide Xe8).rm (unhide N8).rm).mono ?_
  rintro e w9 ⟨v9, rfl, b9, l9⟩
  have B9 := B8.trans (b9.mono B8.size)
  have sz9 : w8.heap.size ≤ w9.heap.size := b9.size
  have Q9 := hide ((unhide Q8).below b9)
  have T9 := hide ((unhide T8).below b9)
  have Ws9 := hide ((unhide Ws8).below b9)
  have We9 := hide ((unhide We8).below b9)
  have WB9 := hide ((unhide WB8).below b9)
  have Xs9 := hide ((unhide Xs8).below b9)
  have Xe9 := hide ((unhide Xe8).below b9)
  have V9 := hide ((unhide V8).below b9)
  have N9 := hide ((unhide N8).below b9)
  have U9 := hide ((unhide U8).below b9)
  clear Q8 T8 Ws8 We8 WB8 Xs8 Xe8 V8 N8 U8
  obtain ⟨vs9, ve9, mid9, rfl, ⟨as9, cs9, rfl, L9⟩, ⟨ae9, ce9, rfl, M9⟩, q9, p9⟩ := l9
  have Gs9 := hide L9
  have Ge9 := hide M9
  clear L9 M9
  rw [unhide HC]
  obtain ⟨zWB0, zWB1⟩ := unhide WB9
  have yWB := (unhide WB9).lt
  go_wp2_with fail
  clear zWB0 zWB1
  clear yWB
  obtain ⟨w10, hw10⟩ : ∃ w10, w9.alloc (.cells #[.slice as9 (hearS ss es frm now x y ns).length cs9, .slice ae9 (hearE ss es frm now x y ns).length ce9] 42) = w10 := ⟨_, rfl⟩
  have b10 : Below w9.heap.size w9 w10 := by rw [← hw10]; exact (Below.refl _ _).alloc (Nat.le_refl _) _
  have B10 := B9.trans (b10.mono B9.size)
  have sz10 : w9.heap.size ≤ w10.heap.size := b10.size
  have sy10 : w10.heap.size = w9.heap.size + 1 := by rw [← hw10]; simp
  have Q10 := hide ((unhide Q9).below b10)
  have T10 := hide ((unhide T9).below b10)
  have Ws10 := hide ((unhide Ws9).below b10)
  have We10 := hide ((unhide We9).below b10)
  have WB10 := hide ((unhide WB9).below b10)
  have Xs10 := hide ((unhide Xs9).below b10)
  have Xe10 := hide ((unhide Xe9).below b10)
  have V10 := hide ((unhide V9).below b10)
  have N10 := hide ((unhide N9).below b10)
  have U10 := hide ((unhide U9).below b10)
  have Gs10 := hide ((unhide Gs9).below b10)
  have Ge10 := hide ((unhide Ge9).below b10)
  clear Q9 T9 Ws9 We9 WB9 Xs9 Xe9 V9 N9 U9 Gs9 Ge9
  have GB10 : Hid (Bx2 w10 w9.heap.size (.slice as9 (hearS ss es frm now x y ns).length cs9) (.slice ae9 (hearE ss es frm now x y ns).length ce9)) := hide (by rw [← hw10]; exact bx2_new _ _ _ _)
  have HW10 := hide hw10
  clear hw10
  rw [unhide HW10]
  refine (Tq.eq _ (hearS ss es frm now x y ns) _ _ (hearE ss es frm now x y ns) _ _ _ _ _ _ hoA hoB (unhide Gs10).rm (unhide Ge10).rm (unhide Ws10).rm (unhide We10).rm).mono ?_
  rintro e w11 ⟨rfl, b11⟩
  have B11 := B10.trans (b11.mono B10.size)
  have sz11 : w10.heap.size ≤ w11.heap.size := b11.size
  have Q11 := hide ((unhide Q10).below b11)
  have T11 := hide ((unhide T10).below b11)
  have Ws11 := hide ((unhide Ws10).below b11)
  have We11 := hide ((unhide We10).below b11)
  have WB11 := hide ((unhide WB10).below b11)
  have Xs11 := hide ((unhide Xs10).below b11)
  have Xe11 := hide ((unhide Xe10).below b11)
  have V11 := hide ((unhide V10).below b11)
  have N11 := hide ((unhide N10).below b11)
  have U11 := hide ((unhide U10).below b11)
  have Gs11 := hide ((unhide Gs10).below b11)
  have Ge11 := hide ((unhide Ge10).below b11)
  have GB11 := hide ((unhide GB10).below b11)
  clear Q10 T10 Ws10 We10 WB10 Xs10 Xe10 V10 N10 U10 Gs10 Ge10 GB10
  go_wp2_with fail
  refine wp_region_noPanic ?_
  refine wp_region_held_drew (S := fun w' => (Bx2 w' w5.heap.size (.slice (some ⟨g5, 0, none⟩) ss.length ss.length) (.slice (some ⟨h5, 0, none⟩) es.length es.length) ∧ Bx2 w' w.heap.size (.slice a ss.length ca) (.slice b es.length cb)) ∧ w'.cell? ⟨w5.heap.size, 0, none⟩ = some (.slice (some ⟨g5, 0, none⟩) ss.length ss.length) ∧ w'.cell? ⟨w5.heap.size, 1, none⟩ = some (.slice (some ⟨h5, 0, none⟩) es.length es.length) ∧ w'.cell? ⟨w.heap.size, 0, none⟩ = some (.slice a ss.length ca) ∧ w'.cell? ⟨w.heap.size, 1, none⟩ = some (.slice b es.length cb)) (by kernel_rfl) (sH2 (unhide V11).drew (unhide Q11).drew) (fun hHeld => ?_)
  (refine Rg.tk (i := 0) (d := 62) (v := ?_) rfl rfl (by kernel_rfl) (by kernel_rfl) (by kernel_rfl) (fun _ _ _ h => h) (by rfl) ?_ (by assumption) ?_; rotate_left; (focus (intro w0 hSw; (try dsimp only at hSw); go_simp; (try with_reducible rfl))); (try simp only [Act.put, List.setIfInBounds_toArray, List.set_cons_zero, List.set_cons_succ]))
  (refine Rg.tk (i := 1) (d := 63) (v := ?_) rfl rfl (by kernel_rfl) (by kernel_rfl) (by kernel_rfl) (fun _ _ _ h => h) (by rfl) ?_ (by assumption) ?_; rotate_left; (focus (intro w0 hSw; (try dsimp only at hSw); go_simp; (try with_reducible rfl))); (try simp only [Act.put, List.setIfInBounds_toArray, List.set_cons_zero, List.set_cons_succ]))
  (refine wpAnyH_ready (rs := [2]) (by kernel_rfl) (by simp) ?_; refine AllReadyH.cons (o := _) rfl (fun K hK => ?_) AllReadyH.nil; go_simp)
  refine (Tq.to a ss ca b es cb _ hml_ss hml_es ((unhide HR_ss).below B11.drew) ((unhide HR_es).below B11.drew)).mono ?_
  rintro e w12 ⟨g12, h12, rfl, b12_, hg12, u12, v12⟩
  have b12 : Below w11.heap.size w11 w12 := (Below.refl _ _).drew.trans b12_
  clear b12_
  have B12 := B11.trans (b12.mono B11.size)
  have sz12 : w11.heap.size ≤ w12.heap.size := b12.size
  have Q12 := hide ((unhide Q11).below b12)
  have T12 := hide ((unhide T11).below b12)
  have Ws12 := hide ((unhide Ws11).below b12)
  have We12 := hide ((unhide We11).below b12)
  have WB12 := hide ((unhide WB11).below b12)
  have Xs12 := hide ((unhide Xs11).below b12)
  have Xe12 := hide ((unhide Xe11).below b12)
  have V12 := hide ((unhide V11).below b12)
  have N12 := hide ((unhide N11).below b12)
  have U12 := hide ((unhide U11).below b12)
  have Gs12 := hide ((unhide Gs11).below b12)
  have Ge12 := hide ((unhide Ge11).below b12)
  have GB12 := hide ((unhide GB11).below b12)
  clear Q11 T11 Ws11 We11 WB11 Xs11 Xe11 V11 N11 U11 Gs11 Ge11 GB11
  clear hHeld
  have Ys12 : Hid (So.Lst w12 (some ⟨g12, 0, none⟩) ss w11.heap.size h12) := hide (.inr ⟨g12, rfl, hg12.1, hg12.2.1, by omega, u12⟩)
  have Ye12 : Hid (Tu.Lst w12 (some ⟨h12, 0, none⟩) es h12 w12.heap.size) := hide (.inr ⟨h12, rfl, Nat.le_refl _, hg12.2.2, hg12.2.2, v12⟩)
  clear u12 v12
  refine hK.out _ _ (sH2 (unhide V12) (unhide Q12)) (fun hHeld => ?_)
  clear hK K
  (try simp only [Act.put, List.setIfInBounds_toArray, List.set_cons_zero, List.set_cons_succ])
  (refine wpAnyH_ready (rs := [3]) (by kernel_rfl) (by simp) ?_; refine AllReadyH.cons (o := _) rfl (fun K hK => ?_) AllReadyH.nil; go_simp)
  refine (Tq.eq _ ss _ _ es _ _ _ _ _ _ hml_ss hml_es (unhide Xs12).rm (unhide Xe12).rm (unhide Ys12).rm (unhide Ye12).rm).mono ?_
  rintro e w13 ⟨rfl, b13⟩
  have B13 := B12.trans (b13.mono B12.size)
  have sz13 : w12.heap.size ≤ w13.heap.size := b13.size
  have Q13 := hide ((unhide Q12).below b13)
  have T13 := hide ((unhide T12).below b13)
  have Ws13 := hide ((unhide Ws12).below b13)
  have We13 := hide ((unhide We12).below b13)
  have WB13 := hide ((unhide WB12).below b13)
  have Xs13 := hide ((unhide Xs12).below b13)
  have Xe13 := hide ((unhide Xe12).below b13)
  have V13 := hide ((unhide V12).below b13)
  have N13 := hide ((unhide N12).below b13)
  have U13 := hide ((unhide U12).below b13)
  have Gs13 := hide ((unhide Gs12).below b13)
  have Ge13 := hide ((unhide Ge12).below b13)
  have GB13 := hide ((unhide GB12).below b13)
  have Ys13 := hide ((unhide Ys12).below b13)
  have Ye13 := hide ((unhide Ye12).below b13)
  clear Q12 T12 Ws12 We12 WB12 Xs12 Xe12 V12 N12 U12 Gs12 Ge12 GB12 Ys12 Ye12
  clear hHeld
  clear Ys13
  clear Ye13
  refine hK.out _ _ (sH2 (unhide V13) (unhide Q13)) (fun hHeld => ?_)
  clear hK K
  (try simp only [Act.put, List.setIfInBounds_toArray, List.set_cons_zero, List.set_cons_succ])
  (refine Rg.tk (i := 4) (d := 66) (v := ?_) rfl rfl (by kernel_rfl) (by kernel_rfl) (by kernel_rfl) (fun _ _ _ h => h) (by rfl) ?_ (by assumption) ?_; rotate_left; (focus (intro w0 hSw; (try dsimp only at hSw); go_simp; (try with_reducible rfl))); (try simp only [Act.put, List.setIfInBounds_toArray, List.set_cons_zero, List.set_cons_succ]))
  refine wpAnyH_done (by kernel_rfl) (NoPanic.normal ?_) _
  clear hHeld
  go_wp2_with fail
  refine wp_region_noPanic ?_
  refine wp_region_held_drew (S := fun w' => (Bx3 w' w7.heap.size x y (.slice (some ⟨g7, 0, none⟩) ns.length ns.length) ∧ Bx3 w' (w.heap.size + 1) x y (.slice c ns.length cn)) ∧ w'.cell? ⟨w7.heap.size, 0, none⟩ = some (.int .i64 x) ∧ w'.cell? ⟨w7.heap.size, 1, none⟩ = some (.int .i64 y) ∧ w'.cell? ⟨w7.heap.size, 2, none⟩ = some (.slice (some ⟨g7, 0, none⟩) ns.length ns.length) ∧ w'.cell? ⟨w.heap.size + 1, 0, none⟩ = some (.int .i64 x) ∧ w'.cell? ⟨w.heap.size + 1, 1, none⟩ = some (.int .i64 y) ∧ w'.cell? ⟨w.heap.size + 1, 2, none⟩ = some (.slice c ns.length cn)) (by kernel_rfl) (sH3 (unhide U13).drew (unhide T13).drew) (fun hHeld => ?_)
  (refine Rg.tk (i := 0) (d := 67) (v := ?_) rfl rfl (by kernel_rfl) (by kernel_rfl) (by kernel_rfl) (fun _ _ _ h => h) (by rfl) ?_ (by assumption) ?_; rotate_left; (focus (intro w0 hSw; (try dsimp only at hSw); go_simp; (try with_reducible rfl))); (try simp only [Act.put, List.setIfInBounds_toArray, List.set_cons_zero, List.set_cons_succ]))
  (refine Rg.tk (i := 1) (d := 68) (v := ?_) rfl rfl (by kernel_rfl) (by kernel_rfl) (by kernel_rfl) (fun _ _ _ h => h) (by rfl) ?_ (by assumption) ?_; rotate_left; (focus (intro w0 hSw; (try dsimp only at hSw); go_simp; (try with_reducible rfl))); (try simp only [Act.put, List.setIfInBounds_toArray, List.set_cons_zero, List.set_cons_succ]))
  (refine wpAnyH_ready (rs := [2]) (by kernel_rfl) (by simp) ?_; refine AllReadyH.cons (o := _) rfl (fun K hK => ?_) AllReadyH.nil; go_simp)
  refine (Ts.to x y c ns cn _ hml_ns ((unhide HR_ns).below B13.drew)).mono ?_
  rintro e w14 ⟨g14, rfl, b14_, hg14, hz14, u14⟩
  have b14 : Below w13.heap.size w13 w14 := (Below.refl _ _).drew.trans b14_
  clear b14_
  have B14 := B13.trans (b14.mono B13.size)
  have sz14 : w13.heap.size ≤ w14.heap.size := b14.size
  have Q14 := hide ((unhide Q13).below b14)
  have T14 := hide ((unhide T13).below b14)
  have Ws14 := hide ((unhide Ws13).below b14)
  have We14 := hide ((unhide We13).below b14)
  have WB14 := hide ((unhide WB13).below b14)
  have Xs14 := hide ((unhide Xs13).below b14)
  have Xe14 := hide ((unhide Xe13).below b14)
  have V14 := hide ((unhide V13).below b14)
  have N14 := hide ((unhide N13).below b14)
  have U14 := hide ((unhide U13).below b14)
  have Gs14 := hide ((unhide Gs13).below b14)
  have Ge14 := hide ((unhide Ge13).below b14)
  have GB14 := hide ((unhide GB13).below b14)
  clear Q13 T13 Ws13 We13 WB13 Xs13 Xe13 V13 N13 U13 Gs13 Ge13 GB13
  clear hHeld
  have Y14 : Hid (Ed.Lst w14 (some ⟨g14, 0, none⟩) ns w13.heap.size w14.heap.size) := hide (.inr ⟨g14, rfl, hg14, hz14, hz14, u14⟩)
  clear u14
  refine hK.out _ _ (sH3 (unhide U14) (unhide T14)) (fun hHeld => ?_)
  clear hK K
  (try simp only [Act.put, List.setIfInBounds_toArray, List.set_cons_zero, List.set_cons_succ])
  (refine wpAnyH_ready (rs := [3]) (by kernel_rfl) (by simp) ?_; refine AllReadyH.cons (o := _) rfl (fun K hK => ?_) AllReadyH.nil; go_simp)
  refine (Ts.eq x y _ _ ns _ _ _ hml_ns (unhide N14).rm (unhide Y14).rm).mono ?_
  rintro e w15 ⟨rfl, b15⟩
  have B15 := B14.trans (b15.mono B14.size)
  have sz15 : w14.heap.size ≤ w15.heap.size := b15.size
  have Q15 := hide ((unhide Q14).below b15)
  have T15 := hide ((unhide T14).below b15)
  have Ws15 := hide ((unhide Ws14).below b15)
  have We15 := hide ((unhide We14).below b15)
  have WB15 := hide ((unhide WB14).below b15)
  have Xs15 := hide ((unhide Xs14).below b15)
  have Xe15 := hide ((unhide Xe14).below b15)
  have V15 := hide ((unhide V14).below b15)
  have N15 := hide ((unhide N14).below b15)
  have U15 := hide ((unhide U14).below b15)
  have Gs15 := hide ((unhide Gs14).below b15)
  have Ge15 := hide ((unhide Ge14).below b15)
  have GB15 := hide ((unhide GB14).below b15)
  have Y15 := hide ((unhide Y14).below b15)
  clear Q14 T14 Ws14 We14 WB14 Xs14 Xe14 V14 N14 U14 Gs14 Ge14 GB14 Y14
  clear hHeld
  clear Y15
  refine hK.out _ _ (sH3 (unhide U15) (unhide T15)) (fun hHeld => ?_)
  clear hK K
  (try simp only [Act.put, List.setIfInBounds_toArray, List.set_cons_zero, List.set_cons_succ])
  (refine Rg.tk (i := 4) (d := 71) (v := ?_) rfl rfl (by kernel_rfl) (by kernel_rfl) (by kernel_rfl) (fun _ _ _ h => h) (by rfl) ?_ (by assumption) ?_; rotate_left; (focus (intro w0 hSw; (try dsimp only at hSw); go_simp; (try with_reducible rfl))); (try simp only [Act.put, List.setIfInBounds_toArray, List.set_cons_zero, List.set_cons_succ]))
  refine wpAnyH_done (by kernel_rfl) (NoPanic.normal ?_) _
  clear hHeld
  obtain ⟨zV0, zV1⟩ := unhide V15
  go_wp2_with fail
  clear zV0 zV1
  refine (Tq.mark _ _ _ _ _ _ _ 1 ss es _ (by omega) (by omega) hml_ss hml_es (by omega) (by omega) (by omega) (unhide Xs15) (unhide Xe15)).mono ?_
  rintro e w16 ⟨rfl, sz16, b16, ⟨f16, e16⟩, k16⟩
  have sB16 := B15.size
  have B16 := B15.trans (b16.mono (by omega))
  have Q16 := hide ((unhide Q15).but (k16 _ (unhide Q15).lt (by omega)))
  have T16 := hide ((unhide T15).but (k16 _ (unhide T15).lt (by omega)))
  have Ws16 := hide ((unhide Ws15).but (p := fun k => k < w4.heap.size ∨ w5.heap.size ≤ k) sz16 (fun k hk h => k16 k hk h) (fun k h1 h2 => by omega))
  have We16 := hide ((unhide We15).but (p := fun k => k < w4.heap.size ∨ w5.heap.size ≤ k) sz16 (fun k hk h => k16 k hk h) (fun k h1 h2 => by omega))
  have WB16 := hide ((unhide WB15).but (k16 _ (unhide WB15).lt (by omega)))
  have V16 := hide ((unhide V15).but (k16 _ (unhide V15).lt (by omega)))
  have N16 := hide ((unhide N15).but (p := fun k => k < w4.heap.size ∨ w5.heap.size ≤ k) sz16 (fun k hk h => k16 k hk h) (fun k h1 h2 => by omega))
  have U16 := hide ((unhide U15).but (k16 _ (unhide U15).lt (by omega)))
  have Gs16 := hide ((unhide Gs15).but (p := fun k => k < w4.heap.size ∨ w5.heap.size ≤ k) sz16 (fun k hk h => k16 k hk h) (fun k h1 h2 => by omega))
  have Ge16 := hide ((unhide Ge15).but (p := fun k => k < w4.heap.size ∨ w5.heap.size ≤ k) sz16 (fun k hk h => k16 k hk h) (fun k h1 h2 => by omega))
  have GB16 := hide ((unhide GB15).but (k16 _ (unhide GB15).lt (by omega)))
  clear Q15 T15 Ws15 We15 WB15 Xs15 Xe15 V15 N15 U15 Gs15 Ge15 GB15 f16 k16 b16 e16
  clear V16
  obtain ⟨K1, hK1⟩ : ∃ K1, 1 + 3 * (ss.length : Int) + 3 * (es.length : Int) = K1 := ⟨_, rfl⟩
  rw [hK1]
  have hk1 : 0 ≤ K1 := by omega
  have hk2 : K1 ≤ 1000000000 := by omega
  clear hK1
  obtain ⟨zU0, zU1, zU2⟩ := unhide U16
  go_wp2_with fail
  clear zU0 zU1 zU2
  refine (Ts.mark x y _ _ _ _ K1 ns _ hk1 (by omega) hml_ns (unhide N16)).mono ?_
  rintro e w17 ⟨rfl, sz17, b17, f17, k17⟩
  have sB17 := B16.size
  have B17 := B16.trans (b17.mono (by omega))
  have Q17 := hide ((unhide Q16).but (k17 _ (unhide Q16).lt (by omega)))
  have T17 := hide ((unhide T16).but (k17 _ (unhide T16).lt (by omega)))
  have Ws17 := hide ((unhide Ws16).but (p := fun k => k < w6.heap.size ∨ w7.heap.size ≤ k) sz17 (fun k hk h => k17 k hk h) (fun k h1 h2 => by omega))
  have We17 := hide ((unhide We16).but (p := fun k => k < w6.heap.size ∨ w7.heap.size ≤ k) sz17 (fun k hk h => k17 k hk h) (fun k h1 h2 => by omega))
  have WB17 := hide ((unhide WB16).but (k17 _ (unhide WB16).lt (by omega)))
  have U17 := hide ((unhide U16).but (k17 _ (unhide U16).lt (by omega)))
  have Gs17 := hide ((unhide Gs16).but (p := fun k => k < w6.heap.size ∨ w7.heap.size ≤ k) sz17 (fun k hk h => k17 k hk h) (fun k h1 h2 => by omega))
  have Ge17 := hide ((unhide Ge16).but (p := fun k => k < w6.heap.size ∨ w7.heap.size ≤ k) sz17 (fun k hk h => k17 k hk h) (fun k h1 h2 => by omega))
  have GB17 := hide ((unhide GB16).but (k17 _ (unhide GB16).lt (by omega)))
  clear Q16 T16 Ws16 We16 WB16 N16 U16 Gs16 Ge16 GB16 f17 k17 b17
  clear U17
  have hpk : ¬ (K1 + 2 * (ns.length : Int) < 0) := by omega
  obtain ⟨zGB0, zGB1⟩ := unhide GB17
  obtain ⟨zWB0, zWB1⟩ := unhide WB17
  go_wp2_with fail
  clear zGB0 zGB1
  clear zWB0 zWB1
  refine (Tq.eq _ (hearS ss es frm now x y ns) _ _ (hearE ss es frm now x y ns) _ _ _ _ _ _ hoA hoB (unhide Gs17).rm (unhide Ge17).rm (unhide Ws17).rm (unhide We17).rm).mono ?_
  rintro e w18 ⟨rfl, b18⟩
  have B18 := B17.trans (b18.mono B17.size)
  have sz18 : w17.heap.size ≤ w18.heap.size := b18.size
  have Q18 := hide ((unhide Q17).below b18)
  have T18 := hide ((unhide T17).below b18)
  have Ws18 := hide ((unhide Ws17).below b18)
  have We18 := hide ((unhide We17).below b18)
  have WB18 := hide ((unhide WB17).below b18)
  have Gs18 := hide ((unhide Gs17).below b18)
  have Ge18 := hide ((unhide Ge17).below b18)
  have GB18 := hide ((unhide GB17).below b18)
  clear Q17 T17 Ws17 We17 WB17 Gs17 Ge17 GB17
  obtain ⟨zGB0, zGB1⟩ := unhide GB18
  go_wp2_with fail
  clear zGB0 zGB1
  refine (Tq.mark _ _ _ _ _ _ _ 1 (hearS ss es frm now x y ns) (hearE ss es frm now x y ns) _ (by omega) (by omega) hoA hoB (by omega) (by omega) (by omega) (unhide Gs18) (unhide Ge18)).mono ?_
  rintro e w19 ⟨rfl, sz19, b19, ⟨f19, e19⟩, k19⟩
  have sB19 := B18.size
  have B19 := B18.trans (b19.mono (by omega))
  have Q19 := hide ((unhide Q18).but (k19 _ (unhide Q18).lt (by omega)))
  have T19 := hide ((unhide T18).but (k19 _ (unhide T18).lt (by omega)))
  have Ws19 := hide ((unhide Ws18).but (p := fun k => k < w8.heap.size ∨ w9.heap.size ≤ k) sz19 (fun k hk h => k19 k hk h) (fun k h1 h2 => by omega))
  have We19 := hide ((unhide We18).but (p := fun k => k < w8.heap.size ∨ w9.heap.size ≤ k) sz19 (fun k hk h => k19 k hk h) (fun k h1 h2 => by omega))
  have WB19 := hide ((unhide WB18).but (k19 _ (unhide WB18).lt (by omega)))
  have GB19 := hide ((unhide GB18).but (k19 _ (unhide GB18).lt (by omega)))
  have Ms19 := hide f19
  have Me19 := hide e19
  clear Q18 T18 Ws18 We18 WB18 Gs18 Ge18 GB18 f19 k19 b19 e19
  have hpm : ¬ (1 + 3 * ((hearS ss es frm now x y ns).length : Int) + 3 * ((hearE ss es frm now x y ns).length : Int) < 0) := by omega
  obtain ⟨zGB0, zGB1⟩ := unhide GB19
  go_wp2_with fail
  clear zGB0 zGB1
  refine (Tq.held _ (hearS ss es frm now x y ns).length _ _ (hearE ss es frm now x y ns).length _ _ _ _ 1 _ (by omega) (by omega) hoA hoB (unhide Ms19) (unhide Me19)).mono ?_
  rintro e w20 ⟨rfl, b20⟩
  have B20 := B19.trans (b20.mono B19.size)
  have sz20 : w19.heap.size ≤ w20.heap.size := b20.size
  have Q20 := hide ((unhide Q19).below b20)
  have T20 := hide ((unhide T19).below b20)
  have Ws20 := hide ((unhide Ws19).below b20)
  have We20 := hide ((unhide We19).below b20)
  have WB20 := hide ((unhide WB19).below b20)
  have GB20 := hide ((unhide GB19).below b20)
  have Ms20 := hide ((unhide Ms19).below b20)
  have Me20 := hide ((unhide Me19).below b20)
  clear Q19 T19 Ws19 We19 WB19 GB19 Ms19 Me19
  go_wp2_with fail
  go_cut [19, 20] (fun p q wx => ∃ (Bk : Nat) (aS : Option Addr) (cS : Nat) (aE : Option Addr) (cE mid hi : Nat), p = .pointer (some ⟨Bk, 0, none⟩) ∧ q = .int .i64 cd ∧ Hid (Below w20.heap.size w20 wx) ∧ Hid (Bx2 wx Bk (.slice aS (hearS ss es frm now x y ns).length cS) (.slice aE (hearE ss es frm now x y ns).length cE)) ∧ Hid (So.Lst wx aS (hearS ss es frm now x y ns) w20.heap.size mid) ∧ Hid (Tu.Lst wx aE (hearE ss es frm now x y ns) mid hi) ∧ Hid (w20.heap.size ≤ mid ∧ mid ≤ hi ∧ hi ≤ wx.heap.size ∧ w20.heap.size ≤ Bk))
  case first =>
    refine wp_region_noPanic ?_
    refine wp_region_held_drew (S := fun w' => (Bx2 w' w.heap.size (.slice a ss.length ca) (.slice b es.length cb) ∧ Bx3 w' (w.heap.size + 1) x y (.slice c ns.length cn)) ∧ w'.cell? ⟨w.heap.size, 0, none⟩ = some (.slice a ss.length ca) ∧ w'.cell? ⟨w.heap.size, 1, none⟩ = some (.slice b es.length cb) ∧ w'.cell? ⟨w.heap.size + 1, 0, none⟩ = some (.int .i64 x) ∧ w'.cell? ⟨w.heap.size + 1, 1, none⟩ = some (.int .i64 y) ∧ w'.cell? ⟨w.heap.size + 1, 2, none⟩ = some (.slice c ns.length cn)) (by kernel_rfl) (sQT ((unhide Q20).drew) ((unhide T20).drew)) (fun hHeld => ?_)
    (refine Rg.tk (i := 0) (d := 103) (v := ?_) rfl rfl (by kernel_rfl) (by kernel_rfl) (by kernel_rfl) (fun _ _ _ h => h) (by rfl) ?_ (by assumption) ?_; rotate_left; (focus (intro w0 hSw; (try dsimp only at hSw); go_simp; (try with_reducible rfl))); (try simp only [Act.put, List.setIfInBounds_toArray, List.set_cons_zero, List.set_cons_succ]))
    (refine Rg.tk (i := 2) (d := 105) (v := ?_) rfl rfl (by kernel_rfl) (by kernel_rfl) (by kernel_rfl) (fun _ _ _ h => h) (by rfl) ?_ (by assumption) ?_; rotate_left; (focus (intro w0 hSw; (try dsimp only at hSw); go_simp; (try with_reducible rfl))); (try simp only [Act.put, List.setIfInBounds_toArray, List.set_cons_zero, List.set_cons_succ]))
    (refine Rg.tk (i := 3) (d := 106) (v := ?_) rfl rfl (by kernel_rfl) (by kernel_rfl) (by kernel_rfl) (fun _ _ _ h => h) (by rfl) ?_ (by assumption) ?_; rotate_left; (focus (intro w0 hSw; (try dsimp only at hSw); go_simp; (try with_reducible rfl))); (try simp only [Act.put, List.setIfInBounds_toArray, List.set_cons_zero, List.set_cons_succ]))
    (refine Rg.tk (i := 4) (d := 107) (v := ?_) rfl rfl (by kernel_rfl) (by kernel_rfl) (by kernel_rfl) (fun _ _ _ h => h) (by rfl) ?_ (by assumption) ?_; rotate_left; (focus (intro w0 hSw; (try dsimp only at hSw); go_simp; (try with_reducible rfl))); (try simp only [Act.put, List.setIfInBounds_toArray, List.set_cons_zero, List.set_cons_succ]))
    (refine wpAnyH_ready (rs := [1, 10]) (by kernel_rfl) (by simp) ?_; refine AllReadyH.cons (o := _) rfl (fun K hK => ?_) (AllReadyH.cons (o := _) rfl (fun K hK => ?_) AllReadyH.nil))
    · go_simp
      refine (Tq.to a ss ca b es cb _ hml_ss hml_es ((unhide HR_ss).below B20.drew) ((unhide HR_es).below B20.drew)).mono ?_
      rintro e v1 ⟨gs, hs, rfl, b_1, hgs, us, vs⟩
      have bb1 : Below w20.heap.size w20 v1 := (Below.refl _ _).drew.trans b_1
      have CS : Hid (So.RM v1 (some ⟨gs, 0, none⟩) ss) := hide (So.rm_of us)
      have CE : Hid (Tu.RM v1 (some ⟨hs, 0, none⟩) es) := hide (Tu.rm_of vs)
      clear us vs
      clear b_1 hHeld
      refine hK.out _ _ (sQT ((unhide Q20).below bb1) ((unhide T20).below bb1)) (fun hHeld => ?_)
      clear hK K
      (try simp only [Act.put, List.setIfInBounds_toArray, List.set_cons_zero, List.set_cons_succ])
      (refine wpAnyH_ready (rs := [5, 10]) (by kernel_rfl) (by simp) ?_; refine AllReadyH.cons (o := _) rfl (fun K hK => ?_) (AllReadyH.cons (o := _) rfl (fun K hK => ?_) AllReadyH.nil))
      · go_simp
        refine (Ts.to x y c ns cn _ hml_ns ((unhide HR_ns).below (B20.trans (bb1.mono B20.size)))).mono ?_
        rintro e v2 ⟨gn, rfl, b_2, hgn, hzn, un⟩
        have bb2 := bb1.trans (b_2.mono bb1.size)
        have CS := hide ((unhide CS).below b_2)
        have CE := hide ((unhide CE).below b_2)
        have CN : Hid (Ed.RM v2 (some ⟨gn, 0, none⟩) ns) := hide (Ed.rm_of un)
        clear un
        clear b_2 hHeld
        refine hK.out _ _ (sQT ((unhide Q20).below bb2) ((unhide T20).below bb2)) (fun hHeld => ?_)
        clear hK K
        (try simp only [Act.put, List.setIfInBounds_toArray, List.set_cons_zero, List.set_cons_succ])
        (refine wpAnyH_ready (rs := [6, 10]) (by kernel_rfl) (by simp) ?_; refine AllReadyH.cons (o := _) rfl (fun K hK => ?_) (AllReadyH.cons (o := _) rfl (fun K hK => ?_) AllReadyH.nil))
        · go_simp
          refine (implHear _ _ ss _ _ _ es _ frm now x y _ ns _ _ (Nat.le_refl _) hml_ss hml_es hml_ns (unhide CS) (unhide CE) (unhide CN)).mono ?_
          rintro e v3 ⟨vv, rfl, b_3, lv⟩
          have bb3 := bb2.trans (b_3.mono bb2.size)
          have CS := hide ((unhide CS).below b_3)
          have CE := hide ((unhide CE).below b_3)
          have CN := hide ((unhide CN).below b_3)
          rw [unhide HC]
          obtain ⟨vs, ve, mid, rfl, ⟨aS, cS, rfl, lS⟩, ⟨aE, cE, rfl, lE⟩, q1, q2⟩ := lv
          have LS := hide lS
          have LE := hide lE
          have HLO := hide (And.intro bb2.size (And.intro q1 q2))
          clear lS lE q1 q2 b_3 hHeld
          refine hK.out _ _ (sQT ((unhide Q20).below bb3) ((unhide T20).below bb3)) (fun hHeld => ?_)
          clear hK K
          (try simp only [Act.put, List.setIfInBounds_toArray, List.set_cons_zero, List.set_cons_succ])
          (refine Rg.tk (i := 7) (d := 102) (v := ?_) rfl rfl (by kernel_rfl) (by kernel_rfl) (by kernel_rfl) (fun _ _ _ h => h) (by rfl) ?_ (by assumption) ?_; rotate_left; (focus (intro w0 hSw; (try dsimp only at hSw); go_simp; (try with_reducible rfl))); (try simp only [Act.put, List.setIfInBounds_toArray, List.set_cons_zero, List.set_cons_succ]))
          (refine Rg.tk (i := 8) (d := 110) (v := ?_) rfl rfl (by kernel_rfl) (by kernel_rfl) (by kernel_rfl) (fun _ _ _ h => h) (by rfl) ?_ (by assumption) ?_; rotate_left; (focus (intro w0 hSw; (try dsimp only at hSw); go_simp; (try with_reducible rfl))); (try simp only [Act.put, List.setIfInBounds_toArray, List.set_cons_zero, List.set_cons_succ]))
          (refine Rg.tk (i := 9) (d := 111) (v := ?_) rfl rfl (by kernel_rfl) (by kernel_rfl) (by kernel_rfl) (fun _ _ _ h => h) (by rfl) ?_ (by assumption) ?_; rotate_left; (focus (intro w0 hSw; (try dsimp only at hSw); go_simp; (try with_reducible rfl))); (try simp only [Act.put, List.setIfInBounds_toArray, List.set_cons_zero, List.set_cons_succ]))
          (refine wpAnyH_ready (rs := [10]) (by kernel_rfl) (by simp) ?_; refine AllReadyH.cons (o := _) rfl (fun K hK => ?_) AllReadyH.nil; go_simp)
          have bA := bb3.alloc bb3.size (.cells #[.slice none 0 0, .slice none 0 0] 42)
          clear hHeld
          refine hK.out _ _ (sQT ((unhide Q20).below bA) ((unhide T20).below bA)) (fun hHeld => ?_)
          clear hK K
          (try simp only [Act.put, List.setIfInBounds_toArray, List.set_cons_zero, List.set_cons_succ])
          (refine wpAnyH_ready (rs := [11]) (by kernel_rfl) (by simp) ?_; refine AllReadyH.cons (o := _) rfl (fun K hK => ?_) AllReadyH.nil; go_simp)
          have bF := bb3.alloc bb3.size (.cells #[(.slice aS (hearS ss es frm now x y ns).length cS), (.slice aE (hearE ss es frm now x y ns).length cE)] 42)
          have ZF := hide (bx2_new v3 (.slice aS (hearS ss es frm now x y ns).length cS) (.slice aE (hearE ss es frm now x y ns).length cE) 42)
          have LS2 := hide ((unhide LS).below ((Below.refl _ _).alloc (Nat.le_refl _) (.cells #[(.slice aS (hearS ss es frm now x y ns).length cS), (.slice aE (hearE ss es frm now x y ns).length cE)] 42)))
          have LE2 := hide ((unhide LE).below ((Below.refl _ _).alloc (Nat.le_refl _) (.cells #[(.slice aS (hearS ss es frm now x y ns).length cS), (.slice aE (hearE ss es frm now x y ns).length cE)] 42)))
          have HSF : Hid (v3.heap.size ≤ (v3.alloc (.cells #[(.slice aS (hearS ss es frm now x y ns).length cS), (.slice aE (hearE ss es frm now x y ns).length cE)] 42)).heap.size) := hide ((Below.refl _ _).alloc (Nat.le_refl _) _).size
          have HBk := hide bb3.size
          clear hHeld
          generalize hWF : v3.alloc (.cells #[(.slice aS (hearS ss es frm now x y ns).length cS), (.slice aE (hearE ss es frm now x y ns).length cE)] 42) = vF at *
          clear hWF
          refine hK.out _ _ (sQT ((unhide Q20).below bF) ((unhide T20).below bF)) (fun hHeld => ?_)
          clear hK K
          (try simp only [Act.put, List.setIfInBounds_toArray, List.set_cons_zero, List.set_cons_succ])
          (refine Rg.tk (i := 12) (d := 20) (v := ?_) rfl rfl (by kernel_rfl) (by kernel_rfl) (by kernel_rfl) (fun _ _ _ h => h) (by rfl) ?_ (by assumption) ?_; rotate_left; (focus (intro w0 hSw; (try dsimp only at hSw); go_simp; (try with_reducible rfl))); (try simp only [Act.put, List.setIfInBounds_toArray, List.set_cons_zero, List.set_cons_succ]))
          refine wpAnyH_done (by kernel_rfl) (NoPanic.normal ?_) _
          clear hHeld
          go_wp2_with fail
          go_meet
          case rel =>
            have h1 := unhide HLO
            have h2 := unhide HSF
            have h3 := unhide HBk
            exact ⟨v3.heap.size, aS, cS, aE, cE, mid, v3.heap.size, rfl, rfl, hide bF, ZF, hide ((unhide LS2).mono h1.1 (Nat.le_refl _)), LE2, hide ⟨Nat.le_trans h1.1 h1.2.1, h1.2.2, h2, h3⟩⟩
        · go_simp
          have b_3 : Below v2.heap.size v2 (v2.alloc (.cells #[.slice none 0 0, .slice none 0 0] 42)) := (Below.refl _ _).alloc (Nat.le_refl _) _
          have bb3 := bb2.trans (b_3.mono bb2.size)
          have ZK : Hid (TV (v2.alloc (.cells #[.slice none 0 0, .slice none 0 0] 42)) v2.heap.size (.slice none 0 0) (.slice none 0 0)) := hide (tv_new v2 _ _)
          have CS := hide ((unhide CS).below b_3)
          have CE := hide ((unhide CE).below b_3)
          have CN := hide ((unhide CN).below b_3)
          have HBk : Hid (w20.heap.size ≤ v2.heap.size) := hide (bb2.size)
          clear hHeld b_3
          generalize hWv : v2.alloc (.cells #[.slice none 0 0, .slice none 0 0] 42) = v3 at *
          clear hWv
          refine hK.out _ _ (sQT ((unhide Q20).below bb3) ((unhide T20).below bb3)) (fun hHeld => ?_)
          clear hK K
          (try simp only [Act.put, List.setIfInBounds_toArray, List.set_cons_zero, List.set_cons_succ])
          (refine wpAnyH_ready (rs := [6]) (by kernel_rfl) (by simp) ?_; refine AllReadyH.cons (o := _) rfl (fun K hK => ?_) AllReadyH.nil; go_simp)
          have HLK : Hid (v2.heap.size < v3.heap.size) := hide (unhide ZK).lt
          refine (implHear _ _ ss _ _ _ es _ frm now x y _ ns _ _ (Nat.le_refl _) hml_ss hml_es hml_ns (unhide CS) (unhide CE) (unhide CN)).mono ?_
          rintro e v4 ⟨vv, rfl, b_4, lv⟩
          have bb4 := bb3.trans (b_4.mono bb3.size)
          have CS := hide ((unhide CS).below b_4)
          have CE := hide ((unhide CE).below b_4)
          have CN := hide ((unhide CN).below b_4)
          have ZK := hide ((unhide ZK).below b_4)
          rw [unhide HC]
          obtain ⟨vs, ve, mid, rfl, ⟨aS, cS, rfl, lS⟩, ⟨aE, cE, rfl, lE⟩, q1, q2⟩ := lv
          have LS := hide lS
          have LE := hide lE
          have HLO := hide (And.intro bb3.size (And.intro q1 q2))
          clear lS lE q1 q2 b_4 hHeld
          refine hK.out _ _ (sQT ((unhide Q20).below bb4) ((unhide T20).below bb4)) (fun hHeld => ?_)
          clear hK K
          (try simp only [Act.put, List.setIfInBounds_toArray, List.set_cons_zero, List.set_cons_succ])
          (refine Rg.tk (i := 7) (d := 102) (v := ?_) rfl rfl (by kernel_rfl) (by kernel_rfl) (by kernel_rfl) (fun _ _ _ h => h) (by rfl) ?_ (by assumption) ?_; rotate_left; (focus (intro w0 hSw; (try dsimp only at hSw); go_simp; (try with_reducible rfl))); (try simp only [Act.put, List.setIfInBounds_toArray, List.set_cons_zero, List.set_cons_succ]))
          (refine Rg.tk (i := 8) (d := 110) (v := ?_) rfl rfl (by kernel_rfl) (by kernel_rfl) (by kernel_rfl) (fun _ _ _ h => h) (by rfl) ?_ (by assumption) ?_; rotate_left; (focus (intro w0 hSw; (try dsimp only at hSw); go_simp; (try with_reducible rfl))); (try simp only [Act.put, List.setIfInBounds_toArray, List.set_cons_zero, List.set_cons_succ]))
          (refine Rg.tk (i := 9) (d := 111) (v := ?_) rfl rfl (by kernel_rfl) (by kernel_rfl) (by kernel_rfl) (fun _ _ _ h => h) (by rfl) ?_ (by assumption) ?_; rotate_left; (focus (intro w0 hSw; (try dsimp only at hSw); go_simp; (try with_reducible rfl))); (try simp only [Act.put, List.setIfInBounds_toArray, List.set_cons_zero, List.set_cons_succ]))
          obtain ⟨x0, x1⟩ := (unhide ZK).bx
          have f0 := (unhide ZK).free 0
          have f1 := (unhide ZK).free 1
          have hzl := (unhide ZK).lt
          (refine wpAnyH_ready (rs := [11]) (by kernel_rfl) (by simp) ?_; refine AllReadyH.cons (o := _) rfl (fun K hK => ?_) AllReadyH.nil; go_simp)
          have ZF := hide ((unhide ZK).put (.slice aS (hearS ss es frm now x y ns).length cS) (.slice aE (hearE ss es frm now x y ns).length cE)).bx
          have LS2 := hide (lsS_set (b := v2.heap.size) (i := 1) (u := (.slice aE (hearE ss es frm now x y ns).length cE)) (lsS_set (b := v2.heap.size) (i := 0) (u := (.slice aS (hearS ss es frm now x y ns).length cS)) (unhide LS) (.inl (unhide HLK))) (.inl (unhide HLK)))
          have LE2 := hide (lsT_set (b := v2.heap.size) (i := 1) (u := (.slice aE (hearE ss es frm now x y ns).length cE)) (lsT_set (b := v2.heap.size) (i := 0) (u := (.slice aS (hearS ss es frm now x y ns).length cS)) (unhide LE) (.inl (Nat.lt_of_lt_of_le (unhide HLK) (unhide HLO).2.1))) (.inl (Nat.lt_of_lt_of_le (unhide HLK) (unhide HLO).2.1)))
          have bF := (bb4.setCell (p := ⟨v2.heap.size, 0, none⟩) (unhide HBk) (.slice aS (hearS ss es frm now x y ns).length cS)).setCell (p := ⟨v2.heap.size, 1, none⟩) (unhide HBk) (.slice aE (hearE ss es frm now x y ns).length cE)
          have HSF : Hid (v4.heap.size = ((v4.setCell ⟨v2.heap.size, 0, none⟩ (.slice aS (hearS ss es frm now x y ns).length cS)).setCell ⟨v2.heap.size, 1, none⟩ (.slice aE (hearE ss es frm now x y ns).length cE)).heap.size) := hide (by simp [World.setCell])
          clear hHeld x0 x1 f0 f1 hzl
          generalize hWF : (v4.setCell ⟨v2.heap.size, 0, none⟩ (.slice aS (hearS ss es frm now x y ns).length cS)).setCell ⟨v2.heap.size, 1, none⟩ (.slice aE (hearE ss es frm now x y ns).length cE) = vF at *
          clear hWF
          refine hK.out _ _ (sQT ((unhide Q20).below bF) ((unhide T20).below bF)) (fun hHeld => ?_)
          clear hK K
          (try simp only [Act.put, List.setIfInBounds_toArray, List.set_cons_zero, List.set_cons_succ])
          (refine Rg.tk (i := 12) (d := 20) (v := ?_) rfl rfl (by kernel_rfl) (by kernel_rfl) (by kernel_rfl) (fun _ _ _ h => h) (by rfl) ?_ (by assumption) ?_; rotate_left; (focus (intro w0 hSw; (try dsimp only at hSw); go_simp; (try with_reducible rfl))); (try simp only [Act.put, List.setIfInBounds_toArray, List.set_cons_zero, List.set_cons_succ]))
          refine wpAnyH_done (by kernel_rfl) (NoPanic.normal ?_) _
          clear hHeld
          go_wp2_with fail
          go_meet
          case rel =>
            have h1 := unhide HLO
            have h2 := unhide HSF
            have h3 := unhide HBk
            exact ⟨v2.heap.size, aS, cS, aE, cE, mid, v4.heap.size, rfl, rfl, hide bF, ZF, hide ((unhide LS2).mono h1.1 (Nat.le_refl _)), LE2, hide ⟨Nat.le_trans h1.1 h1.2.1, h1.2.2, Nat.le_of_eq h2, h3⟩⟩
      · go_simp
        have b_2 : Below v1.heap.size v1 (v1.alloc (.cells #[.slice none 0 0, .slice none 0 0] 42)) := (Below.refl _ _).alloc (Nat.le_refl _) _
        have bb2 := bb1.trans (b_2.mono bb1.size)
        have ZK : Hid (TV (v1.alloc (.cells #[.slice none 0 0, .slice none 0 0] 42)) v1.heap.size (.slice none 0 0) (.slice none 0 0)) := hide (tv_new v1 _ _)
        have CS := hide ((unhide CS).below b_2)
        have CE := hide ((unhide CE).below b_2)
        have HBk : Hid (w20.heap.size ≤ v1.heap.size) := hide (bb1.size)
        clear hHeld b_2
        generalize hWv : v1.alloc (.cells #[.slice none 0 0, .slice none 0 0] 42) = v2 at *
        clear hWv
        refine hK.out _ _ (sQT ((unhide Q20).below bb2) ((unhide T20).below bb2)) (fun hHeld => ?_)
        clear hK K
        (try simp only [Act.put, List.setIfInBounds_toArray, List.set_cons_zero, List.set_cons_succ])
        (refine wpAnyH_ready (rs := [5]) (by kernel_rfl) (by simp) ?_; refine AllReadyH.cons (o := _) rfl (fun K hK => ?_) AllReadyH.nil; go_simp)
        refine (Ts.to x y c ns cn _ hml_ns ((unhide HR_ns).below (B20.trans (bb2.mono B20.size)))).mono ?_
        rintro e v3 ⟨gn, rfl, b_3, hgn, hzn, un⟩
        have bb3 := bb2.trans (b_3.mono bb2.size)
        have CS := hide ((unhide CS).below b_3)
        have CE := hide ((unhide CE).below b_3)
        have ZK := hide ((unhide ZK).below b_3)
        have CN : Hid (Ed.RM v3 (some ⟨gn, 0, none⟩) ns) := hide (Ed.rm_of un)
        clear un
        clear b_3 hHeld
        refine hK.out _ _ (sQT ((unhide Q20).below bb3) ((unhide T20).below bb3)) (fun hHeld => ?_)
        clear hK K
        (try simp only [Act.put, List.setIfInBounds_toArray, List.set_cons_zero, List.set_cons_succ])
        (refine wpAnyH_ready (rs := [6]) (by kernel_rfl) (by simp) ?_; refine AllReadyH.cons (o := _) rfl (fun K hK => ?_) AllReadyH.nil; go_simp)
        have HLK : Hid (v1.heap.size < v3.heap.size) := hide (unhide ZK).lt
        refine (implHear _ _ ss _ _ _ es _ frm now x y _ ns _ _ (Nat.le_refl _) hml_ss hml_es hml_ns (unhide CS) (unhide CE) (unhide CN)).mono ?_
        rintro e v4 ⟨vv, rfl, b_4, lv⟩
        have bb4 := bb3.trans (b_4.mono bb3.size)
        have CS := hide ((unhide CS).below b_4)
        have CE := hide ((unhide CE).below b_4)
        have ZK := hide ((unhide ZK).below b_4)
        have CN := hide ((unhide CN).below b_4)
        rw [unhide HC]
        obtain ⟨vs, ve, mid, rfl, ⟨aS, cS, rfl, lS⟩, ⟨aE, cE, rfl, lE⟩, q1, q2⟩ := lv
        have LS := hide lS
        have LE := hide lE
        have HLO := hide (And.intro bb3.size (And.intro q1 q2))
        clear lS lE q1 q2 b_4 hHeld
        refine hK.out _ _ (sQT ((unhide Q20).below bb4) ((unhide T20).below bb4)) (fun hHeld => ?_)
        clear hK K
        (try simp only [Act.put, List.setIfInBounds_toArray, List.set_cons_zero, List.set_cons_succ])
        (refine Rg.tk (i := 7) (d := 102) (v := ?_) rfl rfl (by kernel_rfl) (by kernel_rfl) (by kernel_rfl) (fun _ _ _ h => h) (by rfl) ?_ (by assumption) ?_; rotate_left; (focus (intro w0 hSw; (try dsimp only at hSw); go_simp; (try with_reducible rfl))); (try simp only [Act.put, List.setIfInBounds_toArray, List.set_cons_zero, List.set_cons_succ]))
        (refine Rg.tk (i := 8) (d := 110) (v := ?_) rfl rfl (by kernel_rfl) (by kernel_rfl) (by kernel_rfl) (fun _ _ _ h => h) (by rfl) ?_ (by assumption) ?_; rotate_left; (focus (intro w0 hSw; (try dsimp only at hSw); go_simp; (try with_reducible rfl))); (try simp only [Act.put, List.setIfInBounds_toArray, List.set_cons_zero, List.set_cons_succ]))
        (refine Rg.tk (i := 9) (d := 111) (v := ?_) rfl rfl (by kernel_rfl) (by kernel_rfl) (by kernel_rfl) (fun _ _ _ h => h) (by rfl) ?_ (by assumption) ?_; rotate_left; (focus (intro w0 hSw; (try dsimp only at hSw); go_simp; (try with_reducible rfl))); (try simp only [Act.put, List.setIfInBounds_toArray, List.set_cons_zero, List.set_cons_succ]))
        obtain ⟨x0, x1⟩ := (unhide ZK).bx
        have f0 := (unhide ZK).free 0
        have f1 := (unhide ZK).free 1
        have hzl := (unhide ZK).lt
        (refine wpAnyH_ready (rs := [11]) (by kernel_rfl) (by simp) ?_; refine AllReadyH.cons (o := _) rfl (fun K hK => ?_) AllReadyH.nil; go_simp)
        have ZF := hide ((unhide ZK).put (.slice aS (hearS ss es frm now x y ns).length cS) (.slice aE (hearE ss es frm now x y ns).length cE)).bx
        have LS2 := hide (lsS_set (b := v1.heap.size) (i := 1) (u := (.slice aE (hearE ss es frm now x y ns).length cE)) (lsS_set (b := v1.heap.size) (i := 0) (u := (.slice aS (hearS ss es frm now x y ns).length cS)) (unhide LS) (.inl (unhide HLK))) (.inl (unhide HLK)))
        have LE2 := hide (lsT_set (b := v1.heap.size) (i := 1) (u := (.slice aE (hearE ss es frm now x y ns).length cE)) (lsT_set (b := v1.heap.size) (i := 0) (u := (.slice aS (hearS ss es frm now x y ns).length cS)) (unhide LE) (.inl (Nat.lt_of_lt_of_le (unhide HLK) (unhide HLO).2.1))) (.inl (Nat.lt_of_lt_of_le (unhide HLK) (unhide HLO).2.1)))
        have bF := (bb4.setCell (p := ⟨v1.heap.size, 0, none⟩) (unhide HBk) (.slice aS (hearS ss es frm now x y ns).length cS)).setCell (p := ⟨v1.heap.size, 1, none⟩) (unhide HBk) (.slice aE (hearE ss es frm now x y ns).length cE)
        have HSF : Hid (v4.heap.size = ((v4.setCell ⟨v1.heap.size, 0, none⟩ (.slice aS (hearS ss es frm now x y ns).length cS)).setCell ⟨v1.heap.size, 1, none⟩ (.slice aE (hearE ss es frm now x y ns).length cE)).heap.size) := hide (by simp [World.setCell])
        clear hHeld x0 x1 f0 f1 hzl
        generalize hWF : (v4.setCell ⟨v1.heap.size, 0, none⟩ (.slice aS (hearS ss es frm now x y ns).length cS)).setCell ⟨v1.heap.size, 1, none⟩ (.slice aE (hearE ss es frm now x y ns).length cE) = vF at *
        clear hWF
        refine hK.out _ _ (sQT ((unhide Q20).below bF) ((unhide T20).below bF)) (fun hHeld => ?_)
        clear hK K
        (try simp only [Act.put, List.setIfInBounds_toArray, List.set_cons_zero, List.set_cons_succ])
        (refine Rg.tk (i := 12) (d := 20) (v := ?_) rfl rfl (by kernel_rfl) (by kernel_rfl) (by kernel_rfl) (fun _ _ _ h => h) (by rfl) ?_ (by assumption) ?_; rotate_left; (focus (intro w0 hSw; (try dsimp only at hSw); go_simp; (try with_reducible rfl))); (try simp only [Act.put, List.setIfInBounds_toArray, List.set_cons_zero, List.set_cons_succ]))
        refine wpAnyH_done (by kernel_rfl) (NoPanic.normal ?_) _
        clear hHeld
        go_wp2_with fail
        go_meet
        case rel =>
          have h1 := unhide HLO
          have h2 := unhide HSF
          have h3 := unhide HBk
          exact ⟨v1.heap.size, aS, cS, aE, cE, mid, v4.heap.size, rfl, rfl, hide bF, ZF, hide ((unhide LS2).mono h1.1 (Nat.le_refl _)), LE2, hide ⟨Nat.le_trans h1.1 h1.2.1, h1.2.2, Nat.le_of_eq h2, h3⟩⟩
    · go_simp
      have b_1 : Below w20.heap.size w20 ((w20.alloc (.cells #[.slice none 0 0, .slice none 0 0] 42)).drew) := ((Below.refl _ _).alloc (Nat.le_refl _) _).drew
      have bb1 := b_1
      have ZK : Hid (TV ((w20.alloc (.cells #[.slice none 0 0, .slice none 0 0] 42)).drew) w20.heap.size (.slice none 0 0) (.slice none 0 0)) := hide ((tv_new w20 _ _).drew)
      have HBk : Hid (w20.heap.size ≤ w20.heap.size) := hide (Nat.le_refl _)
      clear hHeld b_1
      generalize hWv : (w20.alloc (.cells #[.slice none 0 0, .slice none 0 0] 42)).drew = v1 at *
      clear hWv
      refine hK.out _ _ (sQT ((unhide Q20).below bb1) ((unhide T20).below bb1)) (fun hHeld => ?_)
      clear hK K
      (try simp only [Act.put, List.setIfInBounds_toArray, List.set_cons_zero, List.set_cons_succ])
      (refine wpAnyH_ready (rs := [1]) (by kernel_rfl) (by simp) ?_; refine AllReadyH.cons (o := _) rfl (fun K hK => ?_) AllReadyH.nil; go_simp)
      refine (Tq.to a ss ca b es cb _ hml_ss hml_es ((unhide HR_ss).below (B20.trans (bb1.mono B20.size))) ((unhide HR_es).below (B20.trans (bb1.mono B20.size)))).mono ?_
      rintro e v2 ⟨gs, hs, rfl, b_2, hgs, us, vs⟩
      have bb2 := bb1.trans (b_2.mono bb1.size)
      have ZK := hide ((unhide ZK).below b_2)
      have CS : Hid (So.RM v2 (some ⟨gs, 0, none⟩) ss) := hide (So.rm_of us)
      have CE : Hid (Tu.RM v2 (some ⟨hs, 0, none⟩) es) := hide (Tu.rm_of vs)
      clear us vs
      clear b_2 hHeld
      refine hK.out _ _ (sQT ((unhide Q20).below bb2) ((unhide T20).below bb2)) (fun hHeld => ?_)
      clear hK K
      (try simp only [Act.put, List.setIfInBounds_toArray, List.set_cons_zero, List.set_cons_succ])
      (refine wpAnyH_ready (rs := [5]) (by kernel_rfl) (by simp) ?_; refine AllReadyH.cons (o := _) rfl (fun K hK => ?_) AllReadyH.nil; go_simp)
      refine (Ts.to x y c ns cn _ hml_ns ((unhide HR_ns).below (B20.trans (bb2.mono B20.size)))).mono ?_
      rintro e v3 ⟨gn, rfl, b_3, hgn, hzn, un⟩
      have bb3 := bb2.trans (b_3.mono bb2.size)
      have ZK := hide ((unhide ZK).below b_3)
      have CS := hide ((unhide CS).below b_3)
      have CE := hide ((unhide CE).below b_3)
      have CN : Hid (Ed.RM v3 (some ⟨gn, 0, none⟩) ns) := hide (Ed.rm_of un)
      clear un
      clear b_3 hHeld
      refine hK.out _ _ (sQT ((unhide Q20).below bb3) ((unhide T20).below bb3)) (fun hHeld => ?_)
      clear hK K
      (try simp only [Act.put, List.setIfInBounds_toArray, List.set_cons_zero, List.set_cons_succ])
      (refine wpAnyH_ready (rs := [6]) (by kernel_rfl) (by simp) ?_; refine AllReadyH.cons (o := _) rfl (fun K hK => ?_) AllReadyH.nil; go_simp)
      have HLK : Hid (w20.heap.size < v3.heap.size) := hide (unhide ZK).lt
      refine (implHear _ _ ss _ _ _ es _ frm now x y _ ns _ _ (Nat.le_refl _) hml_ss hml_es hml_ns (unhide CS) (unhide CE) (unhide CN)).mono ?_
      rintro e v4 ⟨vv, rfl, b_4, lv⟩
      have bb4 := bb3.trans (b_4.mono bb3.size)
      have ZK := hide ((unhide ZK).below b_4)
      have CS := hide ((unhide CS).below b_4)
      have CE := hide ((unhide CE).below b_4)
      have CN := hide ((unhide CN).below b_4)
      rw [unhide HC]
      obtain ⟨vs, ve, mid, rfl, ⟨aS, cS, rfl, lS⟩, ⟨aE, cE, rfl, lE⟩, q1, q2⟩ := lv
      have LS := hide lS
      have LE := hide lE
      have HLO := hide (And.intro bb3.size (And.intro q1 q2))
      clear lS lE q1 q2 b_4 hHeld
      refine hK.out _ _ (sQT ((unhide Q20).below bb4) ((unhide T20).below bb4)) (fun hHeld => ?_)
      clear hK K
      (try simp only [Act.put, List.setIfInBounds_toArray, List.set_cons_zero, List.set_cons_succ])
      (refine Rg.tk (i := 7) (d := 102) (v := ?_) rfl rfl (by kernel_rfl) (by kernel_rfl) (by kernel_rfl) (fun _ _ _ h => h) (by rfl) ?_ (by assumption) ?_; rotate_left; (focus (intro w0 hSw; (try dsimp only at hSw); go_simp; (try with_reducible rfl))); (try simp only [Act.put, List.setIfInBounds_toArray, List.set_cons_zero, List.set_cons_succ]))
      (refine Rg.tk (i := 8) (d := 110) (v := ?_) rfl rfl (by kernel_rfl) (by kernel_rfl) (by kernel_rfl) (fun _ _ _ h => h) (by rfl) ?_ (by assumption) ?_; rotate_left; (focus (intro w0 hSw; (try dsimp only at hSw); go_simp; (try with_reducible rfl))); (try simp only [Act.put, List.setIfInBounds_toArray, List.set_cons_zero, List.set_cons_succ]))
      (refine Rg.tk (i := 9) (d := 111) (v := ?_) rfl rfl (by kernel_rfl) (by kernel_rfl) (by kernel_rfl) (fun _ _ _ h => h) (by rfl) ?_ (by assumption) ?_; rotate_left; (focus (intro w0 hSw; (try dsimp only at hSw); go_simp; (try with_reducible rfl))); (try simp only [Act.put, List.setIfInBounds_toArray, List.set_cons_zero, List.set_cons_succ]))
      obtain ⟨x0, x1⟩ := (unhide ZK).bx
      have f0 := (unhide ZK).free 0
      have f1 := (unhide ZK).free 1
      have hzl := (unhide ZK).lt
      (refine wpAnyH_ready (rs := [11]) (by kernel_rfl) (by simp) ?_; refine AllReadyH.cons (o := _) rfl (fun K hK => ?_) AllReadyH.nil; go_simp)
      have ZF := hide ((unhide ZK).put (.slice aS (hearS ss es frm now x y ns).length cS) (.slice aE (hearE ss es frm now x y ns).length cE)).bx
      have LS2 := hide (lsS_set (b := w20.heap.size) (i := 1) (u := (.slice aE (hearE ss es frm now x y ns).length cE)) (lsS_set (b := w20.heap.size) (i := 0) (u := (.slice aS (hearS ss es frm now x y ns).length cS)) (unhide LS) (.inl (unhide HLK))) (.inl (unhide HLK)))
      have LE2 := hide (lsT_set (b := w20.heap.size) (i := 1) (u := (.slice aE (hearE ss es frm now x y ns).length cE)) (lsT_set (b := w20.heap.size) (i := 0) (u := (.slice aS (hearS ss es frm now x y ns).length cS)) (unhide LE) (.inl (Nat.lt_of_lt_of_le (unhide HLK) (unhide HLO).2.1))) (.inl (Nat.lt_of_lt_of_le (unhide HLK) (unhide HLO).2.1)))
      have bF := (bb4.setCell (p := ⟨w20.heap.size, 0, none⟩) (unhide HBk) (.slice aS (hearS ss es frm now x y ns).length cS)).setCell (p := ⟨w20.heap.size, 1, none⟩) (unhide HBk) (.slice aE (hearE ss es frm now x y ns).length cE)
      have HSF : Hid (v4.heap.size = ((v4.setCell ⟨w20.heap.size, 0, none⟩ (.slice aS (hearS ss es frm now x y ns).length cS)).setCell ⟨w20.heap.size, 1, none⟩ (.slice aE (hearE ss es frm now x y ns).length cE)).heap.size) := hide (by simp [World.setCell])
      clear hHeld x0 x1 f0 f1 hzl
      generalize hWF : (v4.setCell ⟨w20.heap.size, 0, none⟩ (.slice aS (hearS ss es frm now x y ns).length cS)).setCell ⟨w20.heap.size, 1, none⟩ (.slice aE (hearE ss es frm now x y ns).length cE) = vF at *
      clear hWF
      refine hK.out _ _ (sQT ((unhide Q20).below bF) ((unhide T20).below bF)) (fun hHeld => ?_)
      clear hK K
      (try simp only [Act.put, List.setIfInBounds_toArray, List.set_cons_zero, List.set_cons_succ])
      (refine Rg.tk (i := 12) (d := 20) (v := ?_) rfl rfl (by kernel_rfl) (by kernel_rfl) (by kernel_rfl) (fun _ _ _ h => h) (by rfl) ?_ (by assumption) ?_; rotate_left; (focus (intro w0 hSw; (try dsimp only at hSw); go_simp; (try with_reducible rfl))); (try simp only [Act.put, List.setIfInBounds_toArray, List.set_cons_zero, List.set_cons_succ]))
      refine wpAnyH_done (by kernel_rfl) (NoPanic.normal ?_) _
      clear hHeld
      go_wp2_with fail
      go_meet
      case rel =>
        have h1 := unhide HLO
        have h2 := unhide HSF
        have h3 := unhide HBk
        exact ⟨w20.heap.size, aS, cS, aE, cE, mid, v4.heap.size, rfl, rfl, hide bF, ZF, hide ((unhide LS2).mono h1.1 (Nat.le_refl _)), LE2, hide ⟨Nat.le_trans h1.1 h1.2.1, h1.2.2, Nat.le_of_eq h2, h3⟩⟩
  case rest =>
  obtain ⟨Bk21, as21, cs21, ae21, ce21, mid21, hi21, rfl, rfl, Hbw21, HB21, Hs21, He21, Hq21⟩ := hcut
  rename World => w21
  obtain ⟨qa21, qb21, qc21, qd21⟩ := unhide Hq21
  have b21 := unhide Hbw21
  have B21 := B20.trans (b21.mono B20.size)
  have sz21 : w20.heap.size ≤ w21.heap.size := b21.size
  clear Hbw21 Hq21
  have lt21 := (unhide HB21).lt
  have Q21 := hide ((unhide Q20).below b21)
  have T21 := hide ((unhide T20).below b21)
  have Ws21 := hide ((unhide Ws20).below b21)
  have We21 := hide ((unhide We20).below b21)
  have WB21 := hide ((unhide WB20).below b21)
  have GB21 := hide ((unhide GB20).below b21)
  have Ms21 := hide ((unhide Ms20).below b21)
  have Me21 := hide ((unhide Me20).below b21)
  clear Q20 T20 Ws20 We20 WB20 GB20 Ms20 Me20
  obtain ⟨zHB0, zHB1⟩ := unhide HB21
  obtain ⟨zWB0, zWB1⟩ := unhide WB21
  go_wp2_with fail
  clear zHB0 zHB1
  clear zWB0 zWB1
  refine (Tq.eq _ (hearS ss es frm now x y ns) _ _ (hearE ss es frm now x y ns) _ _ _ _ _ _ hoA hoB (unhide Hs21).rm (unhide He21).rm (unhide Ws21).rm (unhide We21).rm).mono ?_
  rintro e w22 ⟨rfl, b22⟩
  have B22 := B21.trans (b22.mono B21.size)
  have sz22 : w21.heap.size ≤ w22.heap.size := b22.size
  have Q22 := hide ((unhide Q21).below b22)
  have T22 := hide ((unhide T21).below b22)
  have Ws22 := hide ((unhide Ws21).below b22)
  have We22 := hide ((unhide We21).below b22)
  have WB22 := hide ((unhide WB21).below b22)
  have GB22 := hide ((unhide GB21).below b22)
  have Ms22 := hide ((unhide Ms21).below b22)
  have Me22 := hide ((unhide Me21).below b22)
  have Hs22 := hide ((unhide Hs21).below b22)
  have He22 := hide ((unhide He21).below b22)
  have HB22 := hide ((unhide HB21).below b22)
  clear Q21 T21 Ws21 We21 WB21 GB21 Ms21 Me21 Hs21 He21 HB21
  obtain ⟨zGB0, zGB1⟩ := unhide GB22
  go_wp2_with fail
  clear zGB0 zGB1
  refine (Tq.held _ (hearS ss es frm now x y ns).length _ _ (hearE ss es frm now x y ns).length _ _ _ _ 1 _ (by omega) (by omega) hoA hoB (unhide Ms22) (unhide Me22)).mono ?_
  rintro e w23 ⟨rfl, b23⟩
  have B23 := B22.trans (b23.mono B22.size)
  have sz23 : w22.heap.size ≤ w23.heap.size := b23.size
  have Q23 := hide ((unhide Q22).below b23)
  have T23 := hide ((unhide T22).below b23)
  have Ws23 := hide ((unhide Ws22).below b23)
  have We23 := hide ((unhide We22).below b23)
  have WB23 := hide ((unhide WB22).below b23)
  have GB23 := hide ((unhide GB22).below b23)
  have Ms23 := hide ((unhide Ms22).below b23)
  have Me23 := hide ((unhide Me22).below b23)
  have Hs23 := hide ((unhide Hs22).below b23)
  have He23 := hide ((unhide He22).below b23)
  have HB23 := hide ((unhide HB22).below b23)
  clear Q22 T22 Ws22 We22 WB22 GB22 Ms22 Me22 Hs22 He22 HB22
  have HF := hide B23
  go_wp2_with fail
  go_ret
  exact ⟨rfl, unhide HF⟩

set_option maxRecDepth 100000 in
theorem lifted (os : Os) (started : os.Started) (H : Type) (enc : TypeId × Value → H) :
    ReturnsInHanded {} Try.checked os 5 .any (Rows.fnExactHearTcSpec.pre6 enc Try.prog Try.f5 Rows.fnExactHearTcRow.domain false) (Rows.fnExactHearTcSpec.post enc Try.prog Try.f5 false true false false) := by
  refine returnsInHanded_of_change (C := Try.checked) own started (by kernel_rfl) Try.func5
    (ChangeSpec.witness6 (enc := enc) (C := Try.checked) false ⟨#[], #[.agg #[.slice none 0 0, .slice none 0 0], .int .i64 0, .int .i64 0, .agg #[.int .i64 0, .int .i64 0, .slice none 0 0]], []⟩ 8 (by kernel_rfl) (by kernel_rfl) (by kernel_rfl) (by kernel_rfl)) ?_
  intro W base args ds gs before hval0 hW hcnd _
  have hval : ∀ (j : Nat) t v, Try.f5.params[j]? = some t → args[j]? = some v → Value.okWide Try.prog W .any base t v := hval0
  have hW' := hW
  obtain ⟨p, q, hA0, hV, rfl, hfz, hnd⟩ := hW
  have hA : DataW.TrodAll enc Try.prog W 0 (fun _ => true) true Try.f5.params.toList args.toList ds p := hA0
  rw [Try.params5] at hA hval
  obtain ⟨v0, vs0, d0, ds0, p0, q0, hargs0, rfl, rfl, h0, r0⟩ := trodAll_cons hA
  obtain ⟨v1, vs1, d1, ds1, p1, q1, hargs1, rfl, rfl, h1, r1⟩ := trodAll_cons r0
  obtain ⟨v2, vs2, d2, ds2, p2, q2, hargs2, rfl, rfl, h2, r2⟩ := trodAll_cons r1
  obtain ⟨v3, vs3, d3, ds3, p3, q3, hargs3, rfl, rfl, h3, r3⟩ := trodAll_cons r2
  obtain ⟨rfl, rfl, rfl⟩ := trodAll_nil r3
  obtain rfl : args = #[v0, v1, v2, v3] := by cases args; simp_all
  obtain ⟨rfl, rfl⟩ := trodVars_none hV
  have k0 := h0
  have lt0 : ∀ x ∈ p0, x.block < W.heap.size := by obtain ⟨m, hm⟩ := k0; exact DataW.trod_lt m _ _ _ hm
  have k1 := h1
  have lt1 : ∀ x ∈ p1, x.block < W.heap.size := by obtain ⟨m, hm⟩ := k1; exact DataW.trod_lt m _ _ _ hm
  have k2 := h2
  have lt2 : ∀ x ∈ p2, x.block < W.heap.size := by obtain ⟨m, hm⟩ := k2; exact DataW.trod_lt m _ _ _ hm
  have k3 := h3
  have lt3 : ∀ x ∈ p3, x.block < W.heap.size := by obtain ⟨m, hm⟩ := k3; exact DataW.trod_lt m _ _ _ hm
  obtain ⟨a0, len0, cap0, ms0, b0, lem0, cbp0, es0, rfl, hlen0, hlem0, hmx0, hmy0, hrd0, hre0⟩ := Tq.open_top (hval 0 37 v0 rfl rfl) h0
  subst hlen0 hlem0
  obtain ⟨n1, rfl, _, _, wf1⟩ := open_int Try.underlying3 (hval 1 3 v1 rfl rfl) h1
  obtain ⟨n2, rfl, _, _, wf2⟩ := open_int Try.underlying3 (hval 2 3 v2 rfl rfl) h2
  obtain ⟨x3, y3, a3, len3, cap3, ms3, rfl, hlen3, hmx3, hrd3⟩ := Ts.open_str (hval 3 48 v3 rfl rfl) h3
  subst hlen3
  clear hA0 hval0
  refine (walk a0 ms0 cap0 b0 es0 cbp0 hmx0 hmy0 n1 wf1 n2 wf2 x3 y3 a3 ms3 cap3 hmx3 W hrd0 hre0 hrd3).mono fun e W' ⟨he, bel⟩ => ?_
  subst he
  exact ⟨_, rfl, _, _, _, [], _, [], hW', trodAll_mk1 (shut_bool Try.underlying4 _), (trodAll_cons_mk (Below.trod laidOut (by kernel_rfl) (of_decide_eq_true (by kernel_rfl)) k0 bel lt0) (trodAll_cons_mk (Below.trod laidOut (by kernel_rfl) (of_decide_eq_true (by kernel_rfl)) k1 bel lt1) (trodAll_cons_mk (Below.trod laidOut (by kernel_rfl) (of_decide_eq_true (by kernel_rfl)) k2 bel lt2) (trodAll_cons_mk (Below.trod laidOut (by kernel_rfl) (of_decide_eq_true (by kernel_rfl)) k3 bel lt3) trodAll_mk0)))), rfl, bel.frame _, fun h => by cases h⟩

theorem over : Rows.fnExactHearTcRow.holds Try.pinned (OpenSpec.ofChange Rows.fnExactHearTcSpec) :=
  OpenClaim.holds_of_wide 5 Try.f5 rfl rfl rfl rfl rfl rfl rfl ⟨rfl, rfl, rfl, rfl, rfl⟩ rfl rfl rfl rfl rfl (by kernel_rfl) Try.func5 (by kernel_rfl)
    (of_decide_eq_true (by kernel_rfl)) (by unfold Func.isWrapper; first | (rw [if_pos (by decide +kernel)]; kernel_rfl) | (rw [if_neg (by decide +kernel)]; exact ⟨rfl, rfl⟩))
    (fun os started H enc _ => lifted os started H enc)
end Go.Proofs.Ytmelbilepfnmjap.fnExactHearTc
namespace Go.Proofs.Ytmelbilepfnmjap
/-- At every argument the program's HearTc answers as its model. -/
theorem fnExactHearTc_holds : Rows.FnExactHearTcSaid := fnExactHearTc.over
end Go.Proofs.Ytmelbilepfnmjap
