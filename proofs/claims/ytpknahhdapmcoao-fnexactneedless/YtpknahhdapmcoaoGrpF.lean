/-
  The model's contract: Needless.
-/
import Derived.Test.YtpknahhdapmcoaoGrpE
namespace Go.Proofs.Ytpknahhdapmcoao
open Go.ChangeShapes Go.WideShapes Go.ChangeAt Go.RowKit
set_option linter.unusedVariables false
set_option linter.unusedSimpArgs false
attribute [local go_sem ↓] Go.wp_at_zero Go.wp_at_succ
namespace Gp
open W1 Tu St Tw Mr
theorem needA_len (ms : List R) (ls : List Lk.R) (me now : Int) (rs : List Int) : (needA ms ls me now rs).length ≤ rs.length := by
  unfold needA; split
  · exact need_len _ _ _ _
  · simp
set_option maxRecDepth 100000 in
set_option maxHeartbeats 8000000 in
theorem specNeedless (g off : Nat) (ms : List R) (cap : Nat) (b : Option Addr) (ls : List Lk.R) (capl : Nat) (me now : Int) (b2 : Option Addr) (rs : List Int) (capr : Nat) (w : World) (hm : ms.length ≤ 1048576) (hl : ls.length ≤ 1048576) (hrl : rs.length ≤ 1048576) (hcap : rs.length ≤ capr) (hcm : capr ≤ maxLen) (hr : RM w (some ⟨g, off, none⟩) ms) (hr' : Lk.RM w b ls) (hrr : In.RM w b2 rs) :
    Calls Try.prog 25 #[.slice (some ⟨g, off, none⟩) ms.length cap, .slice b ls.length capl, .int .i64 me, .int .i64 now, .slice b2 rs.length capr] w fun e w' => ∃ v, e = .returned (.tuple #[v, .int .i64 (codeM ms ls rs)]) ∧ Below w.heap.size w w' ∧ In.LstV w' v (needA ms ls me now rs) w.heap.size w'.heap.size := by
  have HR := hide hr
  have HL := hide hr'
  have HRR := hide hrr
  clear hr hr' hrr
  by_cases hb1 : (4096 : Int) < ms.length
  · have hc : codeM ms ls rs = 2 := by unfold codeM; rw [codeTL_long (ms := ms) (ls := ls) (.inl (by omega))]; split <;> rfl
    have ha : needA ms ls me now rs = [] := by unfold needA; rw [if_neg (by omega)]
    rw [hc, ha]
    clear hc ha
    go_enter Try.func25, Try.ntmps25
    go_wp2_with fail
    go_ret2
    exact ⟨_, rfl, (Below.refl _ _).alloc (Nat.le_refl _) _, In.lstV_nil _ _ _ _ _⟩
  by_cases hb2 : (4096 : Int) < ls.length
  · have hc : codeM ms ls rs = 2 := by unfold codeM; rw [codeTL_long (ms := ms) (ls := ls) (.inr (by omega))]; split <;> rfl
    have ha : needA ms ls me now rs = [] := by unfold needA; rw [if_neg (by omega)]
    rw [hc, ha]
    clear hc ha
    go_enter Try.func25, Try.ntmps25
    go_wp2_with fail
    go_ret2
    exact ⟨_, rfl, (Below.refl _ _).alloc (Nat.le_refl _) _, In.lstV_nil _ _ _ _ _⟩
  by_cases hb3 : (4096 : Int) < rs.length
  · have hc : codeM ms ls rs = 2 := by unfold codeM; rw [if_pos (by omega)]
    have ha : needA ms ls me now rs = [] := by unfold needA; rw [if_neg (by omega)]
    rw [hc, ha]
    clear hc ha
    go_enter Try.func25, Try.ntmps25
    go_wp2_with fail
    go_ret2
    exact ⟨_, rfl, (Below.refl _ _).alloc (Nat.le_refl _) _, In.lstV_nil _ _ _ _ _⟩
  by_cases hc : codeTL ms ls = 0
  rotate_left
  · have hcm2 : codeM ms ls rs = codeTL ms ls := by unfold codeM; rw [if_neg (by omega), if_neg hc]
    have hc : ¬ codeM ms ls rs = 0 := by rw [hcm2]; exact hc
    have ha : needA ms ls me now rs = [] := by unfold needA; rw [if_neg (by omega)]
    rw [ha, hcm2]
    rw [hcm2] at hc
    clear ha hcm2
    generalize hcd : codeTL ms ls = cd at *
    have HC := hide hcd
    clear hcd
    have q1 : (cd != 0) = true := by simpa using hc
    go_enter Try.func25, Try.ntmps25
    go_wp2_with fail
    refine (l07Ask _ ms cap _ ls capl _ (by omega) (by omega) (unhide HR) (unhide HL)).mono ?_
    rintro e w1 ⟨rfl, b1⟩
    rw [unhide HC]
    have HB1 := hide b1
    clear b1
    go_wp2_with fail
    go_ret2
    exact ⟨_, rfl, (unhide HB1).alloc (unhide HB1).size _, In.lstV_nil _ _ _ _ _⟩
  have HOK := hide (codeTL_ok hc)
  have HC := hide hc
  by_cases hb4 : 8 < rs.length
  · have hcm2 : codeM ms ls rs = 6 := by unfold codeM; rw [if_neg (by omega), if_pos hc, if_pos hb4]
    have hc : ¬ codeM ms ls rs = 0 := by rw [hcm2]; decide
    have ha : needA ms ls me now rs = [] := by unfold needA; rw [if_neg (by omega)]
    rw [ha, hcm2]
    clear ha hcm2 hc
    go_enter Try.func25, Try.ntmps25
    go_wp2_with fail
    refine (l07Ask _ ms cap _ ls capl _ (by omega) (by omega) (unhide HR) (unhide HL)).mono ?_
    rintro e w1 ⟨rfl, b1⟩
    rw [unhide HC]
    have HB1 := hide b1
    clear b1
    go_wp2_with fail
    refine (l08Mprs b2 rs.length capr _ hrl).mono ?_
    rintro e w2 ⟨rfl, hw2⟩
    rw [hw2, if_neg (by omega), if_pos hb4]
    clear hw2
    go_wp2_with fail
    go_ret2
    exact ⟨_, rfl, (unhide HB1).alloc (unhide HB1).size _, In.lstV_nil _ _ _ _ _⟩
  have hcm2 : codeM ms ls rs = 0 := by unfold codeM; rw [if_neg (by omega), if_pos hc, if_neg hb4]
  have ha : needA ms ls me now rs = needN (viaF ms ls now) (strF ms ls me now) rs rs.length := by unfold needA; rw [if_pos hcm2]
  rw [hcm2, ha]
  have hr8 : rs.length ≤ 8 := by omega
  clear ha hc hcm2
  have HLE := hide (fun (W : World) a' r' c' h1 h2 h3 h4 => l08Left g off ms cap b ls capl me now a' r' c' W h1 (unhide HOK) h2 h3 h4)
  have HLL : Hid (∀ r', (leftV (viaF ms ls now) (strF ms ls me now) r').length ≤ 8) := hide (fun r' => Nat.le_trans (left_len _ _ _) (str_len _ _ _ _))
  generalize strF ms ls me now = S at *
  generalize viaF ms ls now = via at *
  unfold maxLen at hcm
  go_enter Try.func25, Try.ntmps25
  go_wp2_with fail
  refine (l07Ask _ ms cap _ ls capl _ (by omega) (by omega) (unhide HR) (unhide HL)).mono ?_
  rintro e w1 ⟨rfl, b1⟩
  rw [unhide HC]
  have HB1 := hide b1
  have HR1 := hide ((unhide HR).below b1)
  have HL1 := hide ((unhide HL).below b1)
  have HRR1 := hide ((unhide HRR).below b1)
  clear b1
  go_wp2_with fail
  refine (l08Mprs b2 rs.length capr _ hrl).mono ?_
  rintro e w2 ⟨rfl, hw2⟩
  rw [hw2, if_neg (by omega), if_neg hb4]
  clear hw2
  have P0 := hide ((unhide HB1).alloc (unhide HB1).size (.cells #[] 3))
  have O1 : Hid ((w1.alloc (.cells #[] 3)).ownsRow w.heap.size 3 1 (.slice (some ⟨w1.heap.size, 0, none⟩) 0 0) (needN via S rs 0).length (In.flat (needN via S rs 0))) := hide (In.own_empty w1 w.heap.size (unhide HB1).size)
  generalize hn : rs.length = n at *
  have HN := hide hn
  clear hn
  go_wp2_with fail
  go_loopw [14, 15] (fun v i wr => ∃ j : Nat, j ≤ n ∧ i = .int .i64 j ∧ Hid (wr.ownsRow w.heap.size 3 1 v (needN via S rs j).length (In.flat (needN via S rs j))) ∧ Hid (Below w.heap.size w wr)) (fun _ i _ => n - (intOf i).toNat)
  case atStart => exact ⟨0, by omega, rfl, O1, P0⟩
  case round =>
    obtain ⟨j, hj, rfl, how, hbl⟩ := hrel
    have hbs := (unhide hbl).size
    have hfl := need_len via S rs j
    by_cases hlt : (j : Int) < (n : Int)
    · have k0 : (0 : Int) ≤ (j : Int) := by omega
      have k1 : (0 : Int) ≤ (j : Int) + 1 := by omega
      have k2 : (j : Int) ≤ (capr : Int) := by omega
      have k3 : (j : Int) + 1 ≤ (n : Int) := by omega
      have k4 : (n : Int) ≤ (capr : Int) := by omega
      have k5 : (j : Int) + 1 ≤ (capr : Int) := by omega
      have hlen : j < rs.length := by rw [unhide HN]; omega
      have HRRr := hide ((unhide HRR).below (unhide hbl))
      have HMr := hide ((unhide HR).below (unhide hbl))
      have HLr := hide ((unhide HL).below (unhide hbl))
      have HNB : Hid (needB via S rs j = ((leftV via S (rest rs j)).length == 0)) := hide rfl
      have HY := hide (fun (h : needB via S rs j = true) => need_yes h)
      have HZ := hide (fun (h : needB via S rs j = false) => need_no h)
      have lt1 : Hid ((rs.take j).length = j) := hide (by rw [List.length_take]; omega)
      have ld1 : Hid ((rs.drop (j + 1)).length = n - (j + 1)) := hide (by rw [List.length_drop, unhide HN])
      have HRE : Hid (([] ++ rs.take j) ++ rs.drop (j + 1) = rest rs j) := hide rfl
      have HRL : Hid ((rest rs j).length ≤ 64) := hide (by unfold rest; rw [List.length_append, unhide lt1, unhide ld1]; omega)
      rcases unhide HRRr with e0 | ⟨gr, ofr, rfl, hc⟩
      · exfalso; rw [e0] at hlen; simp at hlen
      clear hc
      have HAT : Hid (∀ W : World, In.RM W (some ⟨gr, ofr, none⟩) rs → W.cell? ⟨gr, ofr + j, none⟩ = some (.int .i64 (rs.getD j 0))) := hide (fun W h => h.at hlen)
      generalize rs.getD j 0 = y at *
      by_cases hcp : capr = j + 1
      · have hnj : n - (j + 1) = 0 := by omega
        rw [hnj] at ld1
        have HD : Hid (∀ W : World, In.RM W (some ⟨gr, ofr, none⟩) rs → In.RM W (some ⟨gr, ofr, none⟩) (rs.drop (j + 1))) := hide (fun W h => .inl (List.eq_nil_of_length_eq_zero (unhide ld1)))
        subst hcp
        have p1 : (j : Int) ≤ (j : Int) + 1 := by omega
        have p2 : (n : Int) ≤ (j : Int) + 1 := by omega
        go_wp2_with fail
        refine wp_region_noPanic ?_
        refine wp_region_held_drew (S := fun w' => True) (by kernel_rfl) trivial (fun hHeld => ?_)
        have HV : Hid (Below wr.heap.size wr wr.drew) := hide ((Below.refl _ _).drew)
        (refine Rg.tk (i := 1) (d := 52) (v := ?_) rfl rfl (by kernel_rfl) (by kernel_rfl) (by kernel_rfl) (fun _ _ _ h => h) (by rfl) ?_ (by assumption) ?_; rotate_left; (focus (intro w0 hSw; (try dsimp only at hSw); go_simp; (try with_reducible rfl))); (try simp only [Act.put, List.setIfInBounds_toArray, List.set_cons_zero, List.set_cons_succ]))
        (refine Rg.tk (i := 2) (d := 53) (v := ?_) rfl rfl (by kernel_rfl) (by kernel_rfl) (by kernel_rfl) (fun _ _ _ h => h) (by rfl) ?_ (by assumption) ?_; rotate_left; (focus (intro w0 hSw; (try dsimp only at hSw); go_simp; (try with_reducible rfl))); (try simp only [Act.put, List.setIfInBounds_toArray, List.set_cons_zero, List.set_cons_succ]))
        (refine Rg.tk (i := 3) (d := 54) (v := ?_) rfl rfl (by kernel_rfl) (by kernel_rfl) (by kernel_rfl) (fun _ _ _ h => h) (by rfl) ?_ (by assumption) ?_; rotate_left; (focus (intro w0 hSw; (try dsimp only at hSw); go_simp; (try with_reducible rfl))); (try simp only [Act.put, List.setIfInBounds_toArray, List.set_cons_zero, List.set_cons_succ]))
        (refine Rg.tk (i := 5) (d := 56) (v := ?_) rfl rfl (by kernel_rfl) (by kernel_rfl) (by kernel_rfl) (fun _ _ _ h => h) (by rfl) ?_ (by assumption) ?_; rotate_left; (focus (intro w0 hSw; (try dsimp only at hSw); go_simp; (try with_reducible rfl))); (try simp only [Act.put, List.setIfInBounds_toArray, List.set_cons_zero, List.set_cons_succ]))
        (refine Rg.tk (i := 6) (d := 57) (v := ?_) rfl rfl (by kernel_rfl) (by kernel_rfl) (by kernel_rfl) (fun _ _ _ h => h) (by rfl) ?_ (by assumption) ?_; rotate_left; (focus (intro w0 hSw; (try dsimp only at hSw); go_simp; (try with_reducible rfl))); (try simp only [Act.put, List.setIfInBounds_toArray, List.set_cons_zero, List.set_cons_succ]))
        (refine Rg.tk (i := 7) (d := 58) (v := .int .i64 ((j : Int) + 1)) rfl rfl (by kernel_rfl) (by kernel_rfl) (by kernel_rfl) (fun _ _ _ h => h) (by rfl) ?_ (by assumption) ?_; (focus (intro w0 hSw; (try dsimp only at hSw); go_simp)); (try simp only [Act.put, List.setIfInBounds_toArray, List.set_cons_zero, List.set_cons_succ]))
        · exact IntWalk.i64_in _ (by omega)
        (refine Rg.tk (i := 8) (d := 59) (v := ?_) rfl rfl (by kernel_rfl) (by kernel_rfl) (by kernel_rfl) (fun _ _ _ h => h) (by rfl) ?_ (by assumption) ?_; rotate_left; (focus (intro w0 hSw; (try dsimp only at hSw); go_simp; (try with_reducible rfl))); (try simp only [Act.put, List.setIfInBounds_toArray, List.set_cons_zero, List.set_cons_succ]))
        (refine wpAnyH_ready (rs := [0]) (by kernel_rfl) (by simp) ?_; refine AllReadyH.cons (o := _) rfl (fun K hK => ?_) AllReadyH.nil; go_simp)
        have HV1 := hide ((unhide HV).alloc (unhide HV).size (.cells #[] 3))
        have O0 := hide (In.own_empty wr.drew wr.heap.size (unhide HV).size)
        clear hHeld
        refine hK.out _ _ trivial (fun hHeld => ?_)
        clear hK K
        (try simp only [Act.put, List.setIfInBounds_toArray, List.set_cons_zero, List.set_cons_succ])
        (refine wpAnyH_ready (rs := [4]) (by kernel_rfl) (by simp) ?_; refine AllReadyH.cons (o := _) rfl (fun K hK => ?_) AllReadyH.nil; rw [if_pos (by rfl)])
        refine wp_apI (unhide O0) gr ofr j _ (rs.take j) (unhide lt1) (rmI_take ((unhide HRRr).below (unhide HV1)) j) (by rw [unhide lt1]; simp <;> omega) (unhide HV1).size _ _ rfl rfl rfl rfl ?_
        intro v4 w4 o4 g4
        have O4 := hide o4
        have HV4 := hide (In.below_own (unhide HV1) (unhide O0) g4 (Nat.le_refl _) (unhide HV1).size)
        clear o4 g4 hHeld
        refine hK.out _ _ trivial (fun hHeld => ?_)
        clear hK K
        (try simp only [Act.put, List.setIfInBounds_toArray, List.set_cons_zero, List.set_cons_succ])
        (refine wpAnyH_ready (rs := [9]) (by kernel_rfl) (by simp) ?_; refine AllReadyH.cons (o := _) rfl (fun K hK => ?_) AllReadyH.nil; rw [if_pos (by rfl)])
        refine wp_apI (unhide O4) gr _ _ _ (rs.drop (j + 1)) (unhide ld1) (unhide HD _ ((unhide HRRr).below (unhide HV4))) (by simp only [List.nil_append]; rw [unhide ld1, unhide lt1]; omega) (unhide HV4).size _ _ rfl rfl rfl rfl ?_
        intro v5 w5 o5 g5
        have HV5 := hide (In.below_own (unhide HV4) (unhide O4) g5 (Nat.le_refl _) (unhide HV4).size)
        rw [unhide HRE] at o5
        obtain ⟨a5, c5, rfl, l5⟩ := In.lst_own rfl o5
        have HR5 := hide l5.rm
        clear o5 g5 l5 hHeld O0 O4 HV1 HV4
        refine hK.out _ _ trivial (fun hHeld => ?_)
        clear hK K
        (try simp only [Act.put, List.setIfInBounds_toArray, List.set_cons_zero, List.set_cons_succ])
        (refine Rg.tk (i := 10) (d := 16) (v := ?_) rfl rfl (by kernel_rfl) (by kernel_rfl) (by kernel_rfl) (fun _ _ _ h => h) (by rfl) ?_ (by assumption) ?_; rotate_left; (focus (intro w0 hSw; (try dsimp only at hSw); go_simp; (try with_reducible rfl))); (try simp only [Act.put, List.setIfInBounds_toArray, List.set_cons_zero, List.set_cons_succ]))
        refine wpAnyH_done (by kernel_rfl) (NoPanic.normal ?_) _
        clear hHeld
        have HO5 := hide (Ln.own_belowI (unhide how) (unhide HV5))
        have HB5 := hide ((unhide hbl).trans ((unhide HV5).mono hbs))
        have HM5 := hide ((unhide HMr).below (unhide HV5))
        have HL5 := hide ((unhide HLr).below (unhide HV5))
        have HRR5 := hide ((unhide HRRr).below (unhide HV5))
        clear HV HV5 HD
        go_wp2_with fail
        refine (unhide HLE _ _ _ _ (unhide HRL) (unhide HM5) (unhide HL5) (unhide HR5)).mono ?_
        rintro e w6 ⟨v6, rfl, b6, hl6⟩
        obtain ⟨a6, c6, rfl, l6⟩ := hl6
        have HO6 := hide (Ln.own_belowI (unhide HO5) b6)
        have HB6 := hide ((unhide HB5).trans (b6.mono (unhide HB5).size))
        have HRR6 := hide ((unhide HRR5).below b6)
        have hs6 := (unhide HB6).size
        have hll := unhide HLL (rest rs j)
        clear b6 l6 HO5 HB5 HM5 HL5 HRR5 HR5
        generalize (leftV via S (rest rs j)).length = nl at *
        cases hnb : needB via S rs j
        · have HTF := hide (unhide HZ hnb)
          have hn0 : ((nl : Int) == 0) = false := by
            have := unhide HNB
            rw [hnb] at this
            have h2 : ¬ nl = 0 := fun e => by rw [e] at this; cases this
            simp; omega
          clear HY HZ HNB hnb
          have HO : Hid (w6.ownsRow w.heap.size 3 1 u14 (needN via S rs (j + 1)).length (In.flat (needN via S rs (j + 1)))) := hide (by rw [unhide HTF]; exact unhide HO6)
          go_wp2_with fail
          go_roundw
          case rel => exact ⟨j + 1, by omega, by go_num, HO, HB6⟩
          case measure => simp [intOf]; omega
        · have HTF := hide (unhide HY hnb)
          have hn0 : nl = 0 := by
            have := unhide HNB
            rw [hnb] at this
            simpa using this.symm
          subst hn0
          clear HY HZ HNB hnb
          have cy := unhide HAT _ (unhide HRR6)
          go_wp2_with (at_builtin; refine In.wpList_apS ((unhide HO6).alloc _) w6.heap.size 0 1 1 [y] rfl (In.rm_new w6 y) (by simp only [List.length_cons, List.length_nil]; omega) (by simp; omega) rfl _ _ rfl rfl rfl ?_; intro v' w' ho hg; have HO : Hid (w'.ownsRow w.heap.size 3 1 v' (needN via S rs (j + 1)).length (In.flat (needN via S rs (j + 1)))) := hide (by rw [unhide HTF]; exact ho); have HB := hide (In.below_own ((unhide HB6).alloc hs6 _) ((unhide HO6).alloc _) hg (Nat.le_refl _) (by simp; omega)); clear ho hg)
          go_roundw
          case rel => exact ⟨j + 1, by omega, by go_num, HO, HB⟩
          case measure => simp [intOf]; omega
      · have HD : Hid (∀ W : World, In.RM W (some ⟨gr, ofr, none⟩) rs → In.RM W (some ⟨gr, ofr + (j + 1), none⟩) (rs.drop (j + 1))) := hide (fun W h => rmI_drop h (j + 1))
        go_wp2_with fail
        refine wp_region_noPanic ?_
        refine wp_region_held_drew (S := fun w' => True) (by kernel_rfl) trivial (fun hHeld => ?_)
        have HV : Hid (Below wr.heap.size wr wr.drew) := hide ((Below.refl _ _).drew)
        (refine Rg.tk (i := 1) (d := 52) (v := ?_) rfl rfl (by kernel_rfl) (by kernel_rfl) (by kernel_rfl) (fun _ _ _ h => h) (by rfl) ?_ (by assumption) ?_; rotate_left; (focus (intro w0 hSw; (try dsimp only at hSw); go_simp; (try with_reducible rfl))); (try simp only [Act.put, List.setIfInBounds_toArray, List.set_cons_zero, List.set_cons_succ]))
        (refine Rg.tk (i := 2) (d := 53) (v := ?_) rfl rfl (by kernel_rfl) (by kernel_rfl) (by kernel_rfl) (fun _ _ _ h => h) (by rfl) ?_ (by assumption) ?_; rotate_left; (focus (intro w0 hSw; (try dsimp only at hSw); go_simp; (try with_reducible rfl))); (try simp only [Act.put, List.setIfInBounds_toArray, List.set_cons_zero, List.set_cons_succ]))
        (refine Rg.tk (i := 3) (d := 54) (v := ?_) rfl rfl (by kernel_rfl) (by kernel_rfl) (by kernel_rfl) (fun _ _ _ h => h) (by rfl) ?_ (by assumption) ?_; rotate_left; (focus (intro w0 hSw; (try dsimp only at hSw); go_simp; (try with_reducible rfl))); (try simp only [Act.put, List.setIfInBounds_toArray, List.set_cons_zero, List.set_cons_succ]))
        (refine Rg.tk (i := 5) (d := 56) (v := ?_) rfl rfl (by kernel_rfl) (by kernel_rfl) (by kernel_rfl) (fun _ _ _ h => h) (by rfl) ?_ (by assumption) ?_; rotate_left; (focus (intro w0 hSw; (try dsimp only at hSw); go_simp; (try with_reducible rfl))); (try simp only [Act.put, List.setIfInBounds_toArray, List.set_cons_zero, List.set_cons_succ]))
        (refine Rg.tk (i := 6) (d := 57) (v := ?_) rfl rfl (by kernel_rfl) (by kernel_rfl) (by kernel_rfl) (fun _ _ _ h => h) (by rfl) ?_ (by assumption) ?_; rotate_left; (focus (intro w0 hSw; (try dsimp only at hSw); go_simp; (try with_reducible rfl))); (try simp only [Act.put, List.setIfInBounds_toArray, List.set_cons_zero, List.set_cons_succ]))
        (refine Rg.tk (i := 7) (d := 58) (v := .int .i64 ((j : Int) + 1)) rfl rfl (by kernel_rfl) (by kernel_rfl) (by kernel_rfl) (fun _ _ _ h => h) (by rfl) ?_ (by assumption) ?_; (focus (intro w0 hSw; (try dsimp only at hSw); go_simp)); (try simp only [Act.put, List.setIfInBounds_toArray, List.set_cons_zero, List.set_cons_succ]))
        · exact IntWalk.i64_in _ (by omega)
        (refine Rg.tk (i := 8) (d := 59) (v := ?_) rfl rfl (by kernel_rfl) (by kernel_rfl) (by kernel_rfl) (fun _ _ _ h => h) (by rfl) ?_ (by assumption) ?_; rotate_left; (focus (intro w0 hSw; (try dsimp only at hSw); go_simp; (try with_reducible rfl))); (try simp only [Act.put, List.setIfInBounds_toArray, List.set_cons_zero, List.set_cons_succ]))
        (refine wpAnyH_ready (rs := [0]) (by kernel_rfl) (by simp) ?_; refine AllReadyH.cons (o := _) rfl (fun K hK => ?_) AllReadyH.nil; go_simp)
        have HV1 := hide ((unhide HV).alloc (unhide HV).size (.cells #[] 3))
        have O0 := hide (In.own_empty wr.drew wr.heap.size (unhide HV).size)
        clear hHeld
        refine hK.out _ _ trivial (fun hHeld => ?_)
        clear hK K
        (try simp only [Act.put, List.setIfInBounds_toArray, List.set_cons_zero, List.set_cons_succ])
        (refine wpAnyH_ready (rs := [4]) (by kernel_rfl) (by simp) ?_; refine AllReadyH.cons (o := _) rfl (fun K hK => ?_) AllReadyH.nil; rw [if_pos (by rfl)])
        refine wp_apI (unhide O0) gr ofr j _ (rs.take j) (unhide lt1) (rmI_take ((unhide HRRr).below (unhide HV1)) j) (by rw [unhide lt1]; simp <;> omega) (unhide HV1).size _ _ rfl rfl rfl rfl ?_
        intro v4 w4 o4 g4
        have O4 := hide o4
        have HV4 := hide (In.below_own (unhide HV1) (unhide O0) g4 (Nat.le_refl _) (unhide HV1).size)
        clear o4 g4 hHeld
        refine hK.out _ _ trivial (fun hHeld => ?_)
        clear hK K
        (try simp only [Act.put, List.setIfInBounds_toArray, List.set_cons_zero, List.set_cons_succ])
        (refine wpAnyH_ready (rs := [9]) (by kernel_rfl) (by simp) ?_; refine AllReadyH.cons (o := _) rfl (fun K hK => ?_) AllReadyH.nil; rw [if_pos (by rfl)])
        refine wp_apI (unhide O4) gr _ _ _ (rs.drop (j + 1)) (unhide ld1) (unhide HD _ ((unhide HRRr).below (unhide HV4))) (by simp only [List.nil_append]; rw [unhide ld1, unhide lt1]; omega) (unhide HV4).size _ _ rfl rfl rfl rfl ?_
        intro v5 w5 o5 g5
        have HV5 := hide (In.below_own (unhide HV4) (unhide O4) g5 (Nat.le_refl _) (unhide HV4).size)
        rw [unhide HRE] at o5
        obtain ⟨a5, c5, rfl, l5⟩ := In.lst_own rfl o5
        have HR5 := hide l5.rm
        clear o5 g5 l5 hHeld O0 O4 HV1 HV4
        refine hK.out _ _ trivial (fun hHeld => ?_)
        clear hK K
        (try simp only [Act.put, List.setIfInBounds_toArray, List.set_cons_zero, List.set_cons_succ])
        (refine Rg.tk (i := 10) (d := 16) (v := ?_) rfl rfl (by kernel_rfl) (by kernel_rfl) (by kernel_rfl) (fun _ _ _ h => h) (by rfl) ?_ (by assumption) ?_; rotate_left; (focus (intro w0 hSw; (try dsimp only at hSw); go_simp; (try with_reducible rfl))); (try simp only [Act.put, List.setIfInBounds_toArray, List.set_cons_zero, List.set_cons_succ]))
        refine wpAnyH_done (by kernel_rfl) (NoPanic.normal ?_) _
        clear hHeld
        have HO5 := hide (Ln.own_belowI (unhide how) (unhide HV5))
        have HB5 := hide ((unhide hbl).trans ((unhide HV5).mono hbs))
        have HM5 := hide ((unhide HMr).below (unhide HV5))
        have HL5 := hide ((unhide HLr).below (unhide HV5))
        have HRR5 := hide ((unhide HRRr).below (unhide HV5))
        clear HV HV5 HD
        go_wp2_with fail
        refine (unhide HLE _ _ _ _ (unhide HRL) (unhide HM5) (unhide HL5) (unhide HR5)).mono ?_
        rintro e w6 ⟨v6, rfl, b6, hl6⟩
        obtain ⟨a6, c6, rfl, l6⟩ := hl6
        have HO6 := hide (Ln.own_belowI (unhide HO5) b6)
        have HB6 := hide ((unhide HB5).trans (b6.mono (unhide HB5).size))
        have HRR6 := hide ((unhide HRR5).below b6)
        have hs6 := (unhide HB6).size
        have hll := unhide HLL (rest rs j)
        clear b6 l6 HO5 HB5 HM5 HL5 HRR5 HR5
        generalize (leftV via S (rest rs j)).length = nl at *
        cases hnb : needB via S rs j
        · have HTF := hide (unhide HZ hnb)
          have hn0 : ((nl : Int) == 0) = false := by
            have := unhide HNB
            rw [hnb] at this
            have h2 : ¬ nl = 0 := fun e => by rw [e] at this; cases this
            simp; omega
          clear HY HZ HNB hnb
          have HO : Hid (w6.ownsRow w.heap.size 3 1 u14 (needN via S rs (j + 1)).length (In.flat (needN via S rs (j + 1)))) := hide (by rw [unhide HTF]; exact unhide HO6)
          go_wp2_with fail
          go_roundw
          case rel => exact ⟨j + 1, by omega, by go_num, HO, HB6⟩
          case measure => simp [intOf]; omega
        · have HTF := hide (unhide HY hnb)
          have hn0 : nl = 0 := by
            have := unhide HNB
            rw [hnb] at this
            simpa using this.symm
          subst hn0
          clear HY HZ HNB hnb
          have cy := unhide HAT _ (unhide HRR6)
          go_wp2_with (at_builtin; refine In.wpList_apS ((unhide HO6).alloc _) w6.heap.size 0 1 1 [y] rfl (In.rm_new w6 y) (by simp only [List.length_cons, List.length_nil]; omega) (by simp; omega) rfl _ _ rfl rfl rfl ?_; intro v' w' ho hg; have HO : Hid (w'.ownsRow w.heap.size 3 1 v' (needN via S rs (j + 1)).length (In.flat (needN via S rs (j + 1)))) := hide (by rw [unhide HTF]; exact ho); have HB := hide (In.below_own ((unhide HB6).alloc hs6 _) ((unhide HO6).alloc _) hg (Nat.le_refl _) (by simp; omega)); clear ho hg)
          go_roundw
          case rel => exact ⟨j + 1, by omega, by go_num, HO, HB⟩
          case measure => simp [intOf]; omega
    · obtain rfl : j = n := by omega
      have HLs := hide (In.lst_own rfl (unhide how))
      go_wp2_with fail
      go_ret2
      exact ⟨_, rfl, unhide hbl, by rw [unhide HN]; exact unhide HLs⟩
end Gp
end Go.Proofs.Ytpknahhdapmcoao
