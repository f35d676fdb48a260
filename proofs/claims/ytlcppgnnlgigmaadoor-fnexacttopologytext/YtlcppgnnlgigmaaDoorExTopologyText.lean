/-
  Proved here: for every argument, laws.FnExactTopologyText returns true (the program's TopologyText answers as its model, leaves its arguments alone, and answers in memory of its own), and leaves what came in as it was. No condition. (The walk is written by mktoplaw.py.)
-/
import Derived.Test.YtlcppgnnlgigmaaDoorTopT
import Derived.Test.YtlcppgnnlgigmaaDoorTopU
import Derived.Test.YtlcppgnnlgigmaaDoorStrTop
import Derived.Test.YtlcppgnnlgigmaaDoorCards
import Derived.Test.YtlcppgnnlgigmaaDoorTie
import Derived.OpenVars
import Derived.Deep.DeepHandedRow
import Derived.Lib.LaidTab
namespace Go.Proofs.YtlcppgnnlgigmaaDoor.fnExactTopologyText
open Go.ChangeShapes Go.WideShapes Go.ChangeAt Go.RowKit
open W1 Tp
set_option linter.unusedVariables false
set_option linter.unusedSimpArgs false
theorem own : ownKnob Tryd.prog.godebug = none := by kernel_rfl
theorem laidOut : laidOutB Tryd.prog = true := by kernel_rfl
theorem sH2 {w : World} {b c : Nat} {x y x2 y2 : Value} (h : Bx2 w b x y) (h2 : Bx2 w c x2 y2) :
    (Bx2 w b x y ∧ Bx2 w c x2 y2) ∧ w.cell? ⟨b, 0, none⟩ = some x ∧ w.cell? ⟨b, 1, none⟩ = some y ∧ w.cell? ⟨c, 0, none⟩ = some x2 ∧ w.cell? ⟨c, 1, none⟩ = some y2 := ⟨⟨h, h2⟩, h.1, h.2, h2.1, h2.2⟩
set_option maxRecDepth 100000 in
set_option maxHeartbeats 16000000 in
theorem walk (a : Option Addr) (ss : List So.R) (ca : Nat) (b : Option Addr) (es : List Tu.R) (cb : Nat) (hm_ss : ss.length ≤ maxLen) (hm_es : es.length ≤ maxLen) (w : World) (hr_ss : So.RM w a ss) (hr_es : Tu.RM w b es) (hp : TabP w) :
    Calls Tryd.prog 4 #[.agg #[.slice a ss.length ca, .slice b es.length cb]] w fun e w' => e = .returned (.bool true) ∧ Below w.heap.size w w' := by
  have HTP := hide (Lib.tabBelow_of_tabIs hp)
  clear hp
  have HR_ss := hide hr_ss
  have HR_es := hide hr_es
  clear hr_ss hr_es
  obtain ⟨w1, hw1⟩ : ∃ w1, w.alloc (.cells #[.slice a ss.length ca, .slice b es.length cb] 45) = w1 := ⟨_, rfl⟩
  have B1 : Below w.heap.size w w1 := by rw [← hw1]; exact (Below.refl _ _).alloc (Nat.le_refl _) _
  have Q1 : Hid (Bx2 w1 w.heap.size (.slice a ss.length ca) (.slice b es.length cb)) := hide (by rw [← hw1]; exact bx2_new _ _ _ _)
  have hq1 : w.heap.size < w1.heap.size := (unhide Q1).lt
  have HW1 := hide hw1
  clear hw1
  go_enter Tryd.func4, Tryd.ntmps4
  go_wp2_with fail
  rw [unhide HW1]
  refine (Tq.sz a ss.length ca b es.length cb 1048576 _ (by omega) (by omega) hm_ss hm_es).mono ?_
  rintro e w2 ⟨r2, rfl, b2, hr01⟩
  have B2 := B1.trans (b2.mono B1.size)
  have sz2 : w1.heap.size ≤ w2.heap.size := b2.size
  have Q2 := hide ((unhide Q1).below b2)
  clear Q1
  rcases hr01 with hr0 | ⟨hr0, hr1⟩
  · go_wp2_with fail
    go_ret
    exact ⟨rfl, B2⟩
  have hnn2 : ¬ r2 < 0 := by omega
  have hml_ss : ss.length ≤ 1048576 := by omega
  have hml_es : es.length ≤ 1048576 := by omega
  have hrl2 : r2 ≤ 1048576 := by omega
  clear hr1 hm_ss hm_es
  have hol : (txtA ss es).length ≤ 1048576 := Nat.le_trans (txt_len ss es) hml_ss
  obtain ⟨zQ0, zQ1⟩ := unhide Q2
  go_wp2_with fail
  clear zQ0 zQ1
  refine (Tq.to a ss ca b es cb _ hml_ss hml_es ((unhide HR_ss).below B2) ((unhide HR_es).below B2)).mono ?_
  rintro e w3 ⟨g3, h3, rfl, b3, hg3, u3, v3⟩
  have B3 := B2.trans (b3.mono B2.size)
  have sz3 : w2.heap.size ≤ w3.heap.size := b3.size
  have Q3 := hide ((unhide Q2).below b3)
  clear Q2
  have Ss3 : Hid (So.Lst w3 (some ⟨g3, 0, none⟩) ss w2.heap.size h3) := hide (.inr ⟨g3, rfl, hg3.1, hg3.2.1, by omega, u3⟩)
  have Se3 : Hid (Tu.Lst w3 (some ⟨h3, 0, none⟩) es h3 w3.heap.size) := hide (.inr ⟨h3, rfl, Nat.le_refl _, hg3.2.2, hg3.2.2, v3⟩)
  clear u3 v3
  go_wp2_with fail
  refine (specText _ ss _ _ es _ _ hml_ss hml_es (unhide Ss3).rm (unhide Se3).rm).mono ?_
  rintro e w4 ⟨v4, rfl, b4, l4⟩
  have B4 := B3.trans (b4.mono B3.size)
  have sz4 : w3.heap.size ≤ w4.heap.size := b4.size
  have Q4 := hide ((unhide Q3).below b4)
  have Ss4 := hide ((unhide Ss3).below b4)
  have Se4 := hide ((unhide Se3).below b4)
  clear Q3 Ss3 Se3
  obtain ⟨a4, c4, rfl, L4⟩ := l4
  have W4 := hide L4
  clear L4
  obtain ⟨cd, hcd⟩ : ∃ cd, topC ss es = cd := ⟨_, rfl⟩
  have HC := hide hcd
  rw [hcd]
  clear hcd
  have hne : (cd != cd) = false := by simp
  clear Ss4
  clear Se4
  obtain ⟨zQ0, zQ1⟩ := unhide Q4
  go_wp2_with fail
  clear zQ0 zQ1
  refine (Tq.to a ss ca b es cb _ hml_ss hml_es ((unhide HR_ss).below B4) ((unhide HR_es).below B4)).mono ?_
  rintro e w5 ⟨g5, h5, rfl, b5, hg5, u5, v5⟩
  have B5 := B4.trans (b5.mono B4.size)
  have sz5 : w4.heap.size ≤ w5.heap.size := b5.size
  have Q5 := hide ((unhide Q4).below b5)
  have W5 := hide ((unhide W4).below b5)
  clear Q4 W4
  have Xs5 : Hid (So.Lst w5 (some ⟨g5, 0, none⟩) ss w4.heap.size h5) := hide (.inr ⟨g5, rfl, hg5.1, hg5.2.1, by omega, u5⟩)
  have Xe5 : Hid (Tu.Lst w5 (some ⟨h5, 0, none⟩) es h5 w5.heap.size) := hide (.inr ⟨h5, rfl, Nat.le_refl _, hg5.2.2, hg5.2.2, v5⟩)
  clear u5 v5
  obtain ⟨w6, hw6⟩ : ∃ w6, w5.alloc (.cells #[.slice (some ⟨g5, 0, none⟩) ss.length ss.length, .slice (some ⟨h5, 0, none⟩) es.length es.length] 26) = w6 := ⟨_, rfl⟩
  have b6 : Below w5.heap.size w5 w6 := by rw [← hw6]; exact (Below.refl _ _).alloc (Nat.le_refl _) _
  have B6 := B5.trans (b6.mono B5.size)
  have sz6 : w5.heap.size ≤ w6.heap.size := b6.size
  have sy6 : w6.heap.size = w5.heap.size + 1 := by rw [← hw6]; simp
  have Q6 := hide ((unhide Q5).below b6)
  have W6 := hide ((unhide W5).below b6)
  have Xs6 := hide ((unhide Xs5).below b6)
  have Xe6 := hide ((unhide Xe5).below b6)
  clear Q5 W5 Xs5 Xe5
  have V6 : Hid (Bx2 w6 w5.heap.size (.slice (some ⟨g5, 0, none⟩) ss.length ss.length) (.slice (some ⟨h5, 0, none⟩) es.length es.length)) := hide (by rw [← hw6]; exact bx2_new _ _ _ _)
  have HW6 := hide hw6
  clear hw6
  go_wp2_with fail
  rw [unhide HW6]
  refine (implText _ ss _ _ es _ _ hml_ss hml_es (unhide Xs6).rm (unhide Xe6).rm (unhide HTP _ B6)).mono ?_
  rintro e w7 ⟨v7, rfl, b7, l7⟩
  have B7 := B6.trans (b7.mono B6.size)
  have sz7 : w6.heap.size ≤ w7.heap.size := b7.size
  have Q7 := hide ((unhide Q6).below b7)
  have W7 := hide ((unhide W6).below b7)
  have Xs7 := hide ((unhide Xs6).below b7)
  have Xe7 := hide ((unhide Xe6).below b7)
  have V7 := hide ((unhide V6).below b7)
  clear Q6 W6 Xs6 Xe6 V6
  obtain ⟨a7, c7, rfl, L7⟩ := l7
  have G7 := hide L7
  clear L7
  rw [unhide HC]
  go_wp2_with fail
  refine (Ss.eqS _ _ (txtA ss es) _ _ _ hol (unhide G7).rm (unhide W7).rm).mono ?_
  rintro e w8 ⟨rfl, b8⟩
  have B8 := B7.trans (b8.mono B7.size)
  have sz8 : w7.heap.size ≤ w8.heap.size := b8.size
  have Q8 := hide ((unhide Q7).below b8)
  have W8 := hide ((unhide W7).below b8)
  have Xs8 := hide ((unhide Xs7).below b8)
  have Xe8 := hide ((unhide Xe7).below b8)
  have V8 := hide ((unhide V7).below b8)
  have G8 := hide ((unhide G7).below b8)
  clear Q7 W7 Xs7 Xe7 V7 G7
  go_wp2_with fail
  refine wp_region_noPanic ?_
  refine wp_region_held_drew (S := fun w' => (Bx2 w' w5.heap.size (.slice (some ⟨g5, 0, none⟩) ss.length ss.length) (.slice (some ⟨h5, 0, none⟩) es.length es.length) ∧ Bx2 w' w.heap.size (.slice a ss.length ca) (.slice b es.length cb)) ∧ w'.cell? ⟨w5.heap.size, 0, none⟩ = some (.slice (some ⟨g5, 0, none⟩) ss.length ss.length) ∧ w'.cell? ⟨w5.heap.size, 1, none⟩ = some (.slice (some ⟨h5, 0, none⟩) es.length es.length) ∧ w'.cell? ⟨w.heap.size, 0, none⟩ = some (.slice a ss.length ca) ∧ w'.cell? ⟨w.heap.size, 1, none⟩ = some (.slice b es.length cb)) (by kernel_rfl) (sH2 (unhide V8).drew (unhide Q8).drew) (fun hHeld => ?_)
  (refine Rg.tk (i := 0) (d := 41) (v := ?_) rfl rfl (by kernel_rfl) (by kernel_rfl) (by kernel_rfl) (fun _ _ _ h => h) (by rfl) ?_ (by assumption) ?_; rotate_left; (focus (intro w0 hSw; (try dsimp only at hSw); go_simp; (try with_reducible rfl))); (try simp only [Act.put, List.setIfInBounds_toArray, List.set_cons_zero, List.set_cons_succ]))
  (refine Rg.tk (i := 1) (d := 42) (v := ?_) rfl rfl (by kernel_rfl) (by kernel_rfl) (by kernel_rfl) (fun _ _ _ h => h) (by rfl) ?_ (by assumption) ?_; rotate_left; (focus (intro w0 hSw; (try dsimp only at hSw); go_simp; (try with_reducible rfl))); (try simp only [Act.put, List.setIfInBounds_toArray, List.set_cons_zero, List.set_cons_succ]))
  (refine wpAnyH_ready (rs := [2]) (by kernel_rfl) (by simp) ?_; refine AllReadyH.cons (o := _) rfl (fun K hK => ?_) AllReadyH.nil; go_simp)
  refine (Tq.to a ss ca b es cb _ hml_ss hml_es ((unhide HR_ss).below B8.drew) ((unhide HR_es).below B8.drew)).mono ?_
  rintro e w9 ⟨g9, h9, rfl, b9_, hg9, u9, v9⟩
  have b9 : Below w8.heap.size w8 w9 := (Below.refl _ _).drew.trans b9_
  clear b9_
  have B9 := B8.trans (b9.mono B8.size)
  have sz9 : w8.heap.size ≤ w9.heap.size := b9.size
  have Q9 := hide ((unhide Q8).below b9)
  have W9 := hide ((unhide W8).below b9)
  have Xs9 := hide ((unhide Xs8).below b9)
  have Xe9 := hide ((unhide Xe8).below b9)
  have V9 := hide ((unhide V8).below b9)
  have G9 := hide ((unhide G8).below b9)
  clear Q8 W8 Xs8 Xe8 V8 G8
  clear hHeld
  have Ys9 : Hid (So.Lst w9 (some ⟨g9, 0, none⟩) ss w8.heap.size h9) := hide (.inr ⟨g9, rfl, hg9.1, hg9.2.1, by omega, u9⟩)
  have Ye9 : Hid (Tu.Lst w9 (some ⟨h9, 0, none⟩) es h9 w9.heap.size) := hide (.inr ⟨h9, rfl, Nat.le_refl _, hg9.2.2, hg9.2.2, v9⟩)
  clear u9 v9
  refine hK.out _ _ (sH2 (unhide V9) (unhide Q9)) (fun hHeld => ?_)
  clear hK K
  (try simp only [Act.put, List.setIfInBounds_toArray, List.set_cons_zero, List.set_cons_succ])
  (refine wpAnyH_ready (rs := [3]) (by kernel_rfl) (by simp) ?_; refine AllReadyH.cons (o := _) rfl (fun K hK => ?_) AllReadyH.nil; go_simp)
  refine (Tq.eq _ ss _ _ es _ _ _ _ _ _ hml_ss hml_es (unhide Xs9).rm (unhide Xe9).rm (unhide Ys9).rm (unhide Ye9).rm).mono ?_
  rintro e w10 ⟨rfl, b10⟩
  have B10 := B9.trans (b10.mono B9.size)
  have sz10 : w9.heap.size ≤ w10.heap.size := b10.size
  have Q10 := hide ((unhide Q9).below b10)
  have W10 := hide ((unhide W9).below b10)
  have Xs10 := hide ((unhide Xs9).below b10)
  have Xe10 := hide ((unhide Xe9).below b10)
  have V10 := hide ((unhide V9).below b10)
  have G10 := hide ((unhide G9).below b10)
  have Ys10 := hide ((unhide Ys9).below b10)
  have Ye10 := hide ((unhide Ye9).below b10)
  clear Q9 W9 Xs9 Xe9 V9 G9 Ys9 Ye9
  clear hHeld
  clear Ys10
  clear Ye10
  refine hK.out _ _ (sH2 (unhide V10) (unhide Q10)) (fun hHeld => ?_)
  clear hK K
  (try simp only [Act.put, List.setIfInBounds_toArray, List.set_cons_zero, List.set_cons_succ])
  (refine Rg.tk (i := 4) (d := 45) (v := ?_) rfl rfl (by kernel_rfl) (by kernel_rfl) (by kernel_rfl) (fun _ _ _ h => h) (by rfl) ?_ (by assumption) ?_; rotate_left; (focus (intro w0 hSw; (try dsimp only at hSw); go_simp; (try with_reducible rfl))); (try simp only [Act.put, List.setIfInBounds_toArray, List.set_cons_zero, List.set_cons_succ]))
  refine wpAnyH_done (by kernel_rfl) (NoPanic.normal ?_) _
  clear hHeld
  obtain ⟨zV0, zV1⟩ := unhide V10
  go_wp2_with fail
  clear zV0 zV1
  refine (Tq.mark _ _ _ _ _ _ _ 1 ss es _ (by omega) (by omega) hml_ss hml_es (by omega) (by omega) (by omega) (unhide Xs10) (unhide Xe10)).mono ?_
  rintro e w11 ⟨rfl, sz11, b11, ⟨f11, e11⟩, k11⟩
  have sB11 := B10.size
  have B11 := B10.trans (b11.mono (by omega))
  have Q11 := hide ((unhide Q10).but (k11 _ (unhide Q10).lt (by omega)))
  have W11 := hide ((unhide W10).but (p := fun k => k < w4.heap.size ∨ w5.heap.size ≤ k) sz11 (fun k hk h => k11 k hk h) (fun k h1 h2 => by omega))
  have V11 := hide ((unhide V10).but (k11 _ (unhide V10).lt (by omega)))
  have G11 := hide ((unhide G10).but (p := fun k => k < w4.heap.size ∨ w5.heap.size ≤ k) sz11 (fun k hk h => k11 k hk h) (fun k h1 h2 => by omega))
  clear Q10 W10 Xs10 Xe10 V10 G10 f11 k11 b11 e11
  clear V11
  have hpk : ¬ (1 + 3 * (ss.length : Int) + 3 * (es.length : Int) < 0) := by omega
  go_wp2_with fail
  refine (Ss.eqS _ _ (txtA ss es) _ _ _ hol (unhide G11).rm (unhide W11).rm).mono ?_
  rintro e w12 ⟨rfl, b12⟩
  have B12 := B11.trans (b12.mono B11.size)
  have sz12 : w11.heap.size ≤ w12.heap.size := b12.size
  have Q12 := hide ((unhide Q11).below b12)
  have W12 := hide ((unhide W11).below b12)
  have G12 := hide ((unhide G11).below b12)
  clear Q11 W11 G11
  go_wp2_with fail
  refine (Ss.markF _ _ _ _ 1 (txtA ss es) _ (by omega) (by omega) hol (unhide G12)).mono ?_
  rintro e w13 ⟨rfl, sz13, b13, f13, k13⟩
  have sB13 := B12.size
  have B13 := B12.trans (b13.mono (by omega))
  have Q13 := hide ((unhide Q12).but (k13 _ (unhide Q12).lt (by omega)))
  have W13 := hide ((unhide W12).but (p := fun k => k < w6.heap.size ∨ w7.heap.size ≤ k) sz13 (fun k hk h => k13 k hk h) (fun k h1 h2 => by omega))
  have M13 := hide f13
  clear Q12 W12 G12 f13 k13 b13
  have hpm : ¬ (1 + 1 * ((txtA ss es).length : Int) < 0) := by omega
  go_wp2_with fail
  refine (Ss.heldF _ _ (txtA ss es).length _ _ 1 _ (by omega) (by omega) hol (unhide M13)).mono ?_
  rintro e w14 ⟨rfl, b14⟩
  have B14 := B13.trans (b14.mono B13.size)
  have sz14 : w13.heap.size ≤ w14.heap.size := b14.size
  have Q14 := hide ((unhide Q13).below b14)
  have W14 := hide ((unhide W13).below b14)
  have M14 := hide ((unhide M13).below b14)
  clear Q13 W13 M13
  obtain ⟨zQ0, zQ1⟩ := unhide Q14
  go_wp2_with fail
  clear zQ0 zQ1
  refine (Tq.to a ss ca b es cb _ hml_ss hml_es ((unhide HR_ss).below B14) ((unhide HR_es).below B14)).mono ?_
  rintro e w15 ⟨g15, h15, rfl, b15, hg15, u15, v15⟩
  have B15 := B14.trans (b15.mono B14.size)
  have sz15 : w14.heap.size ≤ w15.heap.size := b15.size
  have Q15 := hide ((unhide Q14).below b15)
  have W15 := hide ((unhide W14).below b15)
  have M15 := hide ((unhide M14).below b15)
  clear Q14 W14 M14
  have Zs15 : Hid (So.Lst w15 (some ⟨g15, 0, none⟩) ss w14.heap.size h15) := hide (.inr ⟨g15, rfl, hg15.1, hg15.2.1, by omega, u15⟩)
  have Ze15 : Hid (Tu.Lst w15 (some ⟨h15, 0, none⟩) es h15 w15.heap.size) := hide (.inr ⟨h15, rfl, Nat.le_refl _, hg15.2.2, hg15.2.2, v15⟩)
  clear u15 v15
  go_wp2_with fail
  refine (implText _ ss _ _ es _ _ hml_ss hml_es (unhide Zs15).rm (unhide Ze15).rm (unhide HTP _ B15)).mono ?_
  rintro e w16 ⟨v16, rfl, b16, l16⟩
  have B16 := B15.trans (b16.mono B15.size)
  have sz16 : w15.heap.size ≤ w16.heap.size := b16.size
  have Q16 := hide ((unhide Q15).below b16)
  have W16 := hide ((unhide W15).below b16)
  have M16 := hide ((unhide M15).below b16)
  have Zs16 := hide ((unhide Zs15).below b16)
  have Ze16 := hide ((unhide Ze15).below b16)
  clear Q15 W15 M15 Zs15 Ze15
  obtain ⟨a16, c16, rfl, L16⟩ := l16
  have H16 := hide L16
  clear L16
  rw [unhide HC]
  go_wp2_with fail
  refine (Ss.eqS _ _ (txtA ss es) _ _ _ hol (unhide H16).rm (unhide W16).rm).mono ?_
  rintro e w17 ⟨rfl, b17⟩
  have B17 := B16.trans (b17.mono B16.size)
  have sz17 : w16.heap.size ≤ w17.heap.size := b17.size
  have Q17 := hide ((unhide Q16).below b17)
  have W17 := hide ((unhide W16).below b17)
  have M17 := hide ((unhide M16).below b17)
  have Zs17 := hide ((unhide Zs16).below b17)
  have Ze17 := hide ((unhide Ze16).below b17)
  have H17 := hide ((unhide H16).below b17)
  clear Q16 W16 M16 Zs16 Ze16 H16
  go_wp2_with fail
  refine (Ss.heldF _ _ (txtA ss es).length _ _ 1 _ (by omega) (by omega) hol (unhide M17)).mono ?_
  rintro e w18 ⟨rfl, b18⟩
  have B18 := B17.trans (b18.mono B17.size)
  have sz18 : w17.heap.size ≤ w18.heap.size := b18.size
  have Q18 := hide ((unhide Q17).below b18)
  have W18 := hide ((unhide W17).below b18)
  have M18 := hide ((unhide M17).below b18)
  have Zs18 := hide ((unhide Zs17).below b18)
  have Ze18 := hide ((unhide Ze17).below b18)
  have H18 := hide ((unhide H17).below b18)
  clear Q17 W17 M17 Zs17 Ze17 H17
  have HF := hide B18
  go_wp2_with fail
  go_ret
  exact ⟨rfl, unhide HF⟩

set_option maxRecDepth 100000
theorem gTab : Tryd.prog.globalNamed "internal/strconv.uint64pow10" = some 0 := by kernel_rfl
theorem gType : (Tryd.prog.globals[0]?).map (·.type) = some 122 := by kernel_rfl
theorem cellsA : Tryd.prog.cellsOf 122 = 20 := by kernel_rfl
theorem cellsU : Tryd.prog.cellsOf 116 = 1 := by kernel_rfl
theorem table {W : World} (h : laidMetH Tryd.prog Rows.fnExactTopologyTextRow.laid W) : TabP W := by
  have h1 := h.filter (fun x => x.1 == "internal/strconv.uint64pow10")
  have e : (Rows.fnExactTopologyTextRow.laid.filter (fun x => x.1 == "internal/strconv.uint64pow10")) = [("internal/strconv.uint64pow10", Lib.tabData .u64 Lib.pow10Tab)] := by kernel_rfl
  rw [e] at h1
  exact Lib.tabIs_of_head gTab gType Tryd.underlying122 Tryd.underlying116 cellsU cellsA (laidMetH_iff.1 h1).1

/-- What the walk gives, for every argument and every world that holds the tables. -/
theorem contract (H : Type) (enc : TypeId × Value → H) (W : World) (base : Nat) (args : Array Value) (ds gs : List (DataW H)) (before : List MemPlace)
    (hval0 : ∀ (j : Nat) t v, Tryd.f4.params[j]? = some t → args[j]? = some v → Value.okWide Tryd.prog W .any base t v)
    (hW : DataW.Whole enc Tryd.prog Tryd.f4.params.toList Rows.fnExactTopologyTextSpec.vars false W args.toList ds gs before) (hL : laidMetH Tryd.prog Rows.fnExactTopologyTextRow.laid W) :
    Calls Tryd.prog 4 args W fun e W' => ∃ v, e = .returned v ∧ Rows.fnExactTopologyTextSpec.post enc Tryd.prog Tryd.f4 false true false false W args v W' := by
  have hval := hval0
  have hW' := hW
  obtain ⟨p, q, hA0, hV, rfl, hfz, hnd⟩ := hW
  have hA : DataW.TrodAll enc Tryd.prog W 0 (fun _ => true) true Tryd.f4.params.toList args.toList ds p := hA0
  rw [Tryd.params4] at hA hval
  obtain ⟨v0, vs0, d0, ds0, p0, q0, hargs0, rfl, rfl, h0, r0⟩ := trodAll_cons hA
  obtain ⟨rfl, rfl, rfl⟩ := trodAll_nil r0
  obtain rfl : args = #[v0] := by cases args; simp_all
  obtain ⟨rfl, rfl⟩ := trodVars_none hV
  have k0 := h0
  have lt0 : ∀ x ∈ p0, x.block < W.heap.size := by obtain ⟨m, hm⟩ := k0; exact DataW.trod_lt m _ _ _ hm
  obtain ⟨a0, len0, cap0, ms0, b0, lem0, cbp0, es0, rfl, hlen0, hlem0, hmx0, hmy0, hrd0, hre0⟩ := Tq.open_top (hval 0 45 v0 rfl rfl) h0
  subst hlen0 hlem0
  clear hA0 hval0
  have hT := table hL
  refine (walk a0 ms0 cap0 b0 es0 cbp0 hmx0 hmy0 W hrd0 hre0 hT).mono fun e W' ⟨he, bel⟩ => ?_
  subst he
  exact ⟨_, rfl, _, _, _, [], _, [], hW', trodAll_mk1 (shut_bool Tryd.underlying4 _), (trodAll_cons_mk (Below.trod laidOut (by kernel_rfl) (of_decide_eq_true (by kernel_rfl)) k0 bel lt0) trodAll_mk0), rfl, bel.frame _, fun h => by cases h⟩

def d32 : List Int := [0, 1, 28, 2, 29, 14, 24, 3, 30, 22, 20, 15, 25, 17, 4, 8, 31, 27, 13, 23, 21, 19, 16, 7, 26, 12, 18, 6, 11, 5, 10, 9]
def d64 : List Int := [0, 1, 56, 2, 57, 49, 28, 3, 61, 58, 42, 50, 38, 29, 17, 4, 62, 47, 59, 36, 45, 43, 51, 22, 53, 39, 33, 30, 24, 18, 12, 5, 63, 55, 48, 27, 60, 41, 37, 16, 46, 35, 44, 21, 52, 32, 23, 11, 54, 26, 40, 15, 34, 20, 31, 10, 25, 14, 19, 9, 13, 8, 7, 6]
/-- A block whose cells are these numbers. -/
def laidAs (k : IntKind) (zs : List Int) : Obj → Obj
  | .cells _ t frozen => .cells (zs.map fun z => Value.int k z).toArray t frozen
  | o => o
theorem laid_met (os : Os) : laidMet Tryd.prog Rows.fnExactTopologyTextRow.laid (({ World.holding Tryd.prog os ⟨#[], #[], []⟩ with heap := (((World.holding Tryd.prog os ⟨#[], #[], []⟩).heap.modify 0 (laidAs .u64 Lib.pow10Tab)).modify 1 (laidAs .u8 d32)).modify 2 (laidAs .u8 d64) } : World).forCall (fun _ _ => 0) ⟨#[], #[.agg #[.slice none 0 0, .slice none 0 0]], []⟩).memory :=
  laidMet_of_run' 8 (by kernel_rfl) (by kernel_rfl)
theorem whole_of_map {α β γ : Type} {o : Option (α × β × γ)} {a : α} {b : β} (h : o.map (fun x => (x.1, x.2.1)) = some (a, b)) : ∃ c, o = some (a, b, c) := by
  cases o with
  | none => cases h
  | some x => obtain ⟨x1, x2, x3⟩ := x; cases h; exact ⟨x3, rfl⟩
theorem reads (os : Os) {H : Type} (enc : TypeId × Value → H) : ∃ places, DataW.whole enc Tryd.prog (({ World.holding Tryd.prog os ⟨#[], #[], []⟩ with heap := (((World.holding Tryd.prog os ⟨#[], #[], []⟩).heap.modify 0 (laidAs .u64 Lib.pow10Tab)).modify 1 (laidAs .u8 d32)).modify 2 (laidAs .u8 d64) } : World).forCall (fun _ _ => 0) ⟨#[], #[.agg #[.slice none 0 0, .slice none 0 0]], []⟩).memory Tryd.f4.params.toList Rows.fnExactTopologyTextSpec.vars false #[.agg #[.slice none 0 0, .slice none 0 0]].toList 8 = some ([.agg [.nil, .nil]], [], places) :=
  whole_of_map (by kernel_rfl)

set_option maxRecDepth 100000 in
theorem lifted (os : Os) (started : os.Started) (H : Type) (enc : TypeId × Value → H) (F : Stop.Interp) :
    ReturnsInHanded {} Tryd.checked os 4 .any ((OpenSpec.ofChange Rows.fnExactTopologyTextSpec).preRow enc Tryd.prog Tryd.f4 Rows.fnExactTopologyTextRow.domain false Rows.fnExactTopologyTextRow.laid) (((OpenSpec.ofChange Rows.fnExactTopologyTextSpec).at F).post enc Tryd.prog Tryd.f4 false true false false) := by
  obtain ⟨places, hx⟩ := reads os enc
  refine returnsInHanded_of_row (C := Tryd.checked) (s := OpenSpec.ofChange Rows.fnExactTopologyTextSpec) own started (by kernel_rfl) Tryd.func4
    (witness_row_at (enc := enc) (C := Tryd.checked) false ({ World.holding Tryd.prog os ⟨#[], #[], []⟩ with heap := (((World.holding Tryd.prog os ⟨#[], #[], []⟩).heap.modify 0 (laidAs .u64 Lib.pow10Tab)).modify 1 (laidAs .u8 d32)).modify 2 (laidAs .u8 d64) } : World) #[.agg #[.slice none 0 0, .slice none 0 0]] rfl (by kernel_rfl) (by kernel_rfl) (by kernel_rfl)
      (OpenSpec.preRow_of_cond 8 hx (by kernel_rfl) (fun k hk => by cases hk) (by kernel_rfl) (laid_met os))) ?_
  intro W base args ds gs before hval hW _ _ _ hL _ _
  exact contract H enc W base args ds gs before hval hW hL

theorem said : Rows.FnExactTopologyTextSaid :=
  OpenClaim.holds_of_cond 4 Tryd.f4 rfl rfl rfl rfl rfl rfl rfl ⟨rfl, rfl, rfl, rfl, rfl⟩ rfl rfl rfl rfl rfl (by kernel_rfl) Tryd.func4 (by kernel_rfl)
    (of_decide_eq_true (by kernel_rfl)) (by unfold Func.isWrapper; first | (rw [if_pos (by decide +kernel)]; kernel_rfl) | (rw [if_neg (by decide +kernel)]; exact ⟨rfl, rfl⟩))
    (fun os started H enc _ F => by rw [OpenClaim.pre_eq_preRow]; exact lifted os started H enc F)

theorem plain (f : FuncId) (fn : Func) (hf : Tryd.pinned.checked.prog.funcNamed "loop.example/g00419/laws.FnExactTopologyText" = some f) (hfn : Tryd.pinned.checked.prog.funcs[f]? = some fn) :
    false = Tryd.pinned.checked.prog.looks [] ∧ ∀ (j : Nat) t, fn.params[j]? = some t → Tryd.pinned.checked.prog.wantsStandIn t = false := by
  obtain rfl : f = 4 := Option.some.inj ((show Tryd.prog.funcNamed "loop.example/g00419/laws.FnExactTopologyText" = some 4 by kernel_rfl).symm.trans hf) |>.symm
  obtain rfl : fn = Tryd.f4 := (Option.some.inj (Tryd.func4.symm.trans hfn)).symm
  refine ⟨by kernel_rfl, fun j t ht => ?_⟩
  rw [Tryd.params4] at ht
  have e := Array.mem_of_getElem? ht
  simp at e
  subst e
  exact (show Tryd.prog.wantsStandIn 45 = false by kernel_rfl)
end Go.Proofs.YtlcppgnnlgigmaaDoor.fnExactTopologyText
namespace Go.Proofs.YtlcppgnnlgigmaaDoor
/-- The card: at every argument the program's TopologyText answers as its model. -/
theorem fnExactTopologyText_card : Rows.FnExactTopologyTextCardSaid :=
  Claim7.holds_tied_plain_at .later [] _ _ _ _ fnExactTopologyText.said (fun _ h => by cases h) (by kernel_rfl) (fun _ h => by cases h) fnExactTopologyText_row_tie rfl ⟨rfl, rfl⟩ (by kernel_rfl) rfl fnExactTopologyText.plain (by kernel_rfl)
end Go.Proofs.YtlcppgnnlgigmaaDoor
