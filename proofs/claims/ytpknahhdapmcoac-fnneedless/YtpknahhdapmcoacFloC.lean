/-
  The program's contracts: FloodMprs, with the capacity of its answer.
-/
import Derived.Test.YtpknahhdapmcoacMg4
import Derived.Test.YtpknahhdapmcoacMg5
namespace Go.Proofs.Ytpknahhdapmcoac
open Go.ChangeShapes Go.WideShapes Go.ChangeAt Go.RowKit
set_option linter.unusedVariables false
set_option linter.unusedSimpArgs false
attribute [local go_sem ↓] Go.wp_at_zero Go.wp_at_succ
namespace Gp
open W1 Tu St Tw Mr Mt
set_option maxRecDepth 100000 in
set_option maxHeartbeats 4000000 in
theorem addrsC (s : Nat) (w : World) (hs : s < 65536) :
    Calls Try.prog 65 #[.int .u16 s] w fun e w' => ∃ v, e = .returned v ∧ Below w.heap.size w w' ∧ In.LstV w' v (strN (hasB s) 8) w.heap.size w'.heap.size ∧ CapV v := by
  obtain ⟨c, hc⟩ : ∃ c, hasB s = c := ⟨_, rfl⟩
  have HC : Hid (∀ x, hasB s x = c x) := hide (fun x => by rw [hc])
  rw [hc]
  clear hc
  have O0 : Hid (w.ownsRow w.heap.size 3 1 (.slice none 0 0) (strN c 0).length (In.flat (strN c 0))) := hide (In.own_nil w w.heap.size)
  go_enter Try.func65, Try.ntmps65
  go_wp2_with fail
  go_loopw [3, 4] (fun v i wr => ∃ j : Nat, j ≤ 8 ∧ i = .int .i64 ((j : Int) + 1) ∧ Hid (wr.ownsRow w.heap.size 3 1 v (strN c j).length (In.flat (strN c j))) ∧ Hid (Below w.heap.size w wr)) (fun _ i _ => 9 - (intOf i).toNat)
  case atStart => exact ⟨0, by omega, rfl, O0, hide (Below.refl _ _)⟩
  case round =>
    obtain ⟨j, hj, rfl, how, hbl⟩ := hrel
    have hbs := (unhide hbl).size
    have hfl := strN_len c j
    by_cases hlt : (j : Int) + 1 ≤ 8
    · have HY := hide (fun (h : c ((j : Int) + 1) = true) => strN_yes h)
      have HZ := hide (fun (h : c ((j : Int) + 1) = false) => strN_no h)
      obtain ⟨b, hb⟩ : ∃ b, c ((j : Int) + 1) = b := ⟨_, rfl⟩
      have HB := hide hb
      rw [hb] at HY HZ
      clear hb
      go_wp2_with fail
      refine (has s ((j : Int) + 1) _ hs).mono ?_
      rintro e w5 ⟨rfl, b5⟩
      rw [unhide HC, unhide HB]
      have HB5 := hide ((unhide hbl).trans (b5.mono (unhide hbl).size))
      have HO5 := hide (Ln.own_belowI (unhide how) b5)
      have hs5 := (unhide HB5).size
      clear b5
      cases b
      · have HTF := hide (unhide HZ rfl)
        have HO : Hid (w5.ownsRow w.heap.size 3 1 u3 (strN c (j + 1)).length (In.flat (strN c (j + 1)))) := hide (by rw [unhide HTF]; exact unhide HO5)
        go_wp2_with fail
        go_roundw
        case rel => exact ⟨j + 1, by omega, by go_num, HO, HB5⟩
        case measure => simp [intOf]; omega
      · have HTF := hide (unhide HY rfl)
        go_wp2_with (at_builtin; refine In.wpList_apS ((unhide HO5).alloc _) w5.heap.size 0 1 1 [(j : Int) + 1] rfl (In.rm_new w5 ((j : Int) + 1)) (by simp only [List.length_cons, List.length_nil]; omega) (by simp; omega) rfl _ _ rfl rfl rfl ?_; intro v' w' ho hg; have HO : Hid (w'.ownsRow w.heap.size 3 1 v' (strN c (j + 1)).length (In.flat (strN c (j + 1)))) := hide (by rw [unhide HTF]; exact ho); have HB := hide (In.below_own ((unhide HB5).alloc hs5 _) ((unhide HO5).alloc _) hg (Nat.le_refl _) (by simp; omega)); clear ho hg)
        go_roundw
        case rel => exact ⟨j + 1, by omega, by go_num, HO, HB⟩
        case measure => simp [intOf]; omega
    · obtain rfl : j = 8 := by omega
      have HLs := hide (In.lst_own rfl (unhide how))
      have HCp := hide (cap_own (unhide how))
      go_wp2_with fail
      go_ret
      exact ⟨_, rfl, unhide hbl, unhide HLs, unhide HCp⟩
set_option maxRecDepth 100000 in
set_option maxHeartbeats 16000000 in
theorem implFloodC (a : Option Addr) (ms : List R) (cap : Nat) (b : Option Addr) (ls : List Lk.R) (capl : Nat) (me now : Int) (w : World) (hm : ms.length ≤ 1048576) (hl : ls.length ≤ 1048576) (hr : RM w a ms) (hr' : Lk.RM w b ls) :
    Calls Try.prog 18 #[.slice a ms.length cap, .slice b ls.length capl, .int .i64 me, .int .i64 now] w fun e w' => ∃ v, e = .returned (.tuple #[v, .int .i64 (codeTL ms ls)]) ∧ Below w.heap.size w w' ∧ In.LstV w' v (fldA ms ls me now) w.heap.size w'.heap.size ∧ CapV v := by
  have HRC := hide (fun W h1 h2 => relaysCode a ms cap b ls capl none [] 0 W hm hl (by simp) h1 h2)
  rw [codeM_nil] at HRC
  have HR := hide hr
  have HL := hide hr'
  clear hr hr'
  by_cases hc : codeTL ms ls = 0
  rotate_left
  · have h1 : fldA ms ls me now = [] := by unfold fldA; rw [if_neg hc]
    rw [h1]
    clear h1
    generalize hcd : codeTL ms ls = cd at *
    clear hcd
    have q1 : (cd != 0) = true := by simpa using hc
    go_enter Try.func18, Try.ntmps18
    go_wp2_with fail
    refine (unhide HRC _ (unhide HR) (unhide HL)).mono ?_
    rintro e w1 ⟨rfl, b1⟩
    have HB1 := hide b1
    clear b1
    go_wp2_with fail
    go_ret2
    exact ⟨_, rfl, unhide HB1, In.lstV_nil _ _ _ _ _, ⟨none, 0, 0, rfl, Nat.le_refl _, Nat.zero_le _⟩⟩
  have HOK := hide (codeTL_ok hc)
  have h8 := Ln.links_len (unhide HOK).2
  have h1 : fldA ms ls me now = fldV (viaF ms ls now) (strF ms ls me now) ls now := by unfold fldA; rw [if_pos hc]
  have HGO := hide (fun W h1 h2 => groundOf a ms cap b ls capl me now W (unhide HOK) h1 h2)
  have HVR : Hid (∀ z, ∀ a ∈ viaF ms ls now z, 1 ≤ a ∧ a ≤ 8) := hide (fun z => via_rng (unhide HOK).2)
  have HVN : Hid (∀ z, (viaF ms ls now z).Nodup) := hide (fun z => via_nodup (unhide HOK).2)
  have HSR := hide (str_rng2 (ms := ms) (ls := ls) (me := me) (now := now))
  have HSV : Hid (∀ z ∈ strF ms ls me now, ∃ i, i < ls.length ∧ (viaF ms ls now z).contains (ls.getD i Lk.R.zero).ad = true) := hide (fun z hz => via_link (str_via z hz))
  have HSC : Hid (strF ms ls me now = strN (condS ms ls me now) 8) := hide rfl
  have HLR : Hid (∀ i, i < ls.length → 1 ≤ (ls.getD i Lk.R.zero).ad ∧ (ls.getD i Lk.R.zero).ad ≤ 8) := hide (fun i hi => Ln.ok_ad (Ri.all_ok (unhide HOK).2 hi))
  have HLU := hide (links_up (unhide HOK).2)
  have HAN := hide (alw_nodup (now := now) (unhide HOK).2)
  have HAR := hide (alw_rng (now := now) (unhide HOK).2)
  rw [h1]
  rw [hc] at HRC ⊢
  clear hc h1
  generalize strF ms ls me now = S at *
  generalize viaF ms ls now = via at *
  obtain ⟨A, hA⟩ : ∃ A, alwV ls now ls.length = A := ⟨_, rfl⟩
  obtain ⟨r0, hr0⟩ : ∃ r0, onesV via S A = r0 := ⟨_, rfl⟩
  have hF : fldV via S ls now = sortV (grdV via S ls 8 r0) := by unfold fldV; rw [hA, hr0]
  rw [hF]
  rw [hA] at HAN HAR
  have HAW : Hid (∀ W, Lk.RM W b ls → Calls Try.prog 56 #[.slice b ls.length capl, .int .i64 now] W fun e w' => e = .returned (.int .u16 (gL A)) ∧ Below W.heap.size W w') := hide (fun W h => by rw [← hA]; exact alwaysWilling b ls capl now W (by omega) h)
  have HON : Hid (bits .or .u16 (gL A : Int) (gN (oB S via 9) : Int) = (gL r0 : Int)) := hide (by rw [← hr0]; exact ones_group (unhide HSR) (unhide HVN) (unhide HVR))
  have HRN : Hid r0.Nodup := hide (by rw [← hr0]; exact ones_nodup (unhide HAN))
  have HRR : Hid (∀ a ∈ r0, 1 ≤ a ∧ a ≤ 8) := hide (by
    intro a ha
    rw [← hr0, ones_mem] at ha
    rcases ha with ha | ⟨z, hz, hl, rfl⟩
    · exact unhide HAR a ha
    · have : (via z).getD 0 0 ∈ via z := getD_mem (by omega)
      exact unhide HVR z _ this)
  have HLG : Hid (∀ r, bits .andNot .u16 (gL S : Int) (gN (reB S via (strN (fun a => r.contains a) 8)) : Int) = (gL (leftV via S r) : Int)) := hide (fun r => left_group (unhide HVR))
  have hS8 : S.length ≤ 8 := by rw [unhide HSC]; exact strN_len _ _
  clear hA hr0 hF
  go_enter Try.func18, Try.ntmps18
  go_wp2_with fail
  refine (unhide HRC _ (unhide HR) (unhide HL)).mono ?_
  rintro e w1 ⟨rfl, b1⟩
  have HB1 := hide b1
  have HR1 := hide ((unhide HR).below b1)
  have HL1 := hide ((unhide HL).below b1)
  clear b1
  go_wp2_with fail
  refine (unhide HGO _ (unhide HR1) (unhide HL1)).mono ?_
  rintro e w2 ⟨rfl, b2'⟩
  have HB2 := hide ((unhide HB1).trans (b2'.mono (unhide HB1).size))
  have HL2 := hide ((unhide HL1).below b2')
  clear b2'
  go_wp2_with (refine wpList_storeG _ _ rfl rfl rfl rfl (ga_new w2 0 (fun _ => 0) (fun _ => 0) 94).2 ?_; intro w5 ga5 hbb5 hsz5; have HG5 := hide ga5; have HB5 := hide (hbb5 _ _ ((unhide HB2).alloc (unhide HB2).size (.cells #[.int .u16 0, .int .u16 0, .int .u16 0, .int .u16 0, .int .u16 0, .int .u16 0, .int .u16 0, .int .u16 0, .int .u16 0, .int .u16 0, .int .u16 0, .int .u16 0, .int .u16 0, .int .u16 0, .int .u16 0, .int .u16 0, .int .u16 0, .int .u16 0, .int .u16 0] 94)) (unhide HB2).size); have HL5 := hide ((unhide HL2).below (hbb5 _ _ ((Below.refl w2.heap.size w2).alloc (Nat.le_refl _) (.cells #[.int .u16 0, .int .u16 0, .int .u16 0, .int .u16 0, .int .u16 0, .int .u16 0, .int .u16 0, .int .u16 0, .int .u16 0, .int .u16 0, .int .u16 0, .int .u16 0, .int .u16 0, .int .u16 0, .int .u16 0, .int .u16 0, .int .u16 0, .int .u16 0, .int .u16 0] 94)) (Nat.le_refl _))); clear ga5 hbb5 hsz5)
  obtain ⟨G, hG⟩ : ∃ G, w2.heap.size = G := ⟨_, rfl⟩
  rw [hG] at HG5 ⊢
  have hGw : w.heap.size ≤ G := by rw [← hG]; exact (unhide HB2).size
  clear hG
  -- the first relays
  refine wp_region_noPanic ?_
  refine wp_region_held_drew (S := fun w' => GA w' G (gL S) (vN S via) (rN S via)) (by kernel_rfl) ((unhide HG5).below ((Below.refl _ _).drew)) (fun hHeld => ?_)
  have B5 : Below w5.heap.size w5 w5.drew := (Below.refl _ _).drew
  (refine Rg.tk (i := 0) (d := 27) (v := ?_) rfl rfl (by kernel_rfl) (by kernel_rfl) (by kernel_rfl) (fun _ _ _ h => h) (by rfl) ?_ (by assumption) ?_; rotate_left; (focus (intro w0 hSw; (try dsimp only at hSw); go_simp; (try with_reducible rfl))); (try simp only [Act.put, List.setIfInBounds_toArray, List.set_cons_zero, List.set_cons_succ]))
  (refine Rg.tk (i := 1) (d := 28) (v := ?_) rfl rfl (by kernel_rfl) (by kernel_rfl) (by kernel_rfl) (fun _ _ _ h => h) (by rfl) ?_ (by assumption) ?_; rotate_left; (focus (intro w0 hSw; (try dsimp only at hSw); go_simp; (try with_reducible rfl))); (try simp only [Act.put, List.setIfInBounds_toArray, List.set_cons_zero, List.set_cons_succ]))
  (refine Rg.tk (i := 3) (d := 30) (v := GV (gL S) (vN S via) (rN S via)) rfl rfl (by kernel_rfl) (by kernel_rfl) (by kernel_rfl) (fun _ _ _ h => h) (by rfl) (fun w0 hSw => run_execG _ rfl rfl hSw) (by assumption) ?_; (try simp only [Act.put, List.setIfInBounds_toArray, List.set_cons_zero, List.set_cons_succ]))
  (refine wpAnyH_ready (rs := [2]) (by kernel_rfl) (by simp) ?_; refine AllReadyH.cons (o := _) rfl (fun K hK => ?_) AllReadyH.nil; go_simp)
  refine (unhide HAW _ ((unhide HL5).below B5)).mono ?_
  rintro e w6 ⟨rfl, b6⟩
  have B6 := B5.trans (b6.mono B5.size)
  clear b6 hHeld
  refine hK.out _ _ ((unhide HG5).below B6) (fun hHeld => ?_)
  clear hK K
  (try simp only [Act.put, List.setIfInBounds_toArray, List.set_cons_zero, List.set_cons_succ])
  (refine wpAnyH_ready (rs := [4]) (by kernel_rfl) (by simp) ?_; refine AllReadyH.cons (o := _) rfl (fun K hK => ?_) AllReadyH.nil; go_simp)
  refine (onlyOnes _ _ S via _).mono ?_
  rintro e w7 ⟨rfl, b7⟩
  have B7 := B6.trans (b7.mono B6.size)
  clear b7 hHeld
  refine hK.out _ _ ((unhide HG5).below B7) (fun hHeld => ?_)
  clear hK K
  (try simp only [Act.put, List.setIfInBounds_toArray, List.set_cons_zero, List.set_cons_succ])
  (refine Rg.tk (i := 5) (d := 32) (v := .int .u16 (gL r0)) rfl rfl (by kernel_rfl) (by kernel_rfl) (by kernel_rfl) (fun _ _ _ h => h) (by rfl) ?_ (by assumption) ?_; (focus (intro w0 hSw; (try dsimp only at hSw); go_simp)); (try simp only [Act.put, List.setIfInBounds_toArray, List.set_cons_zero, List.set_cons_succ]))
  · rw [unhide HON]
  (refine Rg.tk (i := 6) (d := 12) (v := ?_) rfl rfl (by kernel_rfl) (by kernel_rfl) (by kernel_rfl) (fun _ _ _ h => h) (by rfl) ?_ (by assumption) ?_; rotate_left; (focus (intro w0 hSw; (try dsimp only at hSw); go_simp; (try with_reducible rfl))); (try simp only [Act.put, List.setIfInBounds_toArray, List.set_cons_zero, List.set_cons_succ]))
  refine wpAnyH_done (by kernel_rfl) (NoPanic.normal ?_) _
  clear hHeld B5 B6
  have HG7 := hide ((unhide HG5).below B7)
  have HB7 := hide ((unhide HB5).trans (B7.mono (unhide HB5).size))
  have HL7 := hide ((unhide HL5).below B7)
  clear B7 HG5 HB5 HL5
  go_wp2_with fail
  go_cut [13] (fun p wx => ∃ lb, p = .pointer (some ⟨lb, 0, none⟩) ∧ CL wx lb (gL (leftV via S r0)) ∧ Below w7.heap.size w7 wx ∧ w7.heap.size ≤ lb)
  case first =>
    have HRB := hide (fun W => reachedBy (gL S) (vN S via) S via (fun z => r0.contains z) W)
    have HLG0 := hide (unhide HLG r0)
    generalize hre : gN (reB S via (strN (fun z => r0.contains z) 8)) = Y at *
    generalize hle : gL (leftV via S r0) = X at *
    clear hre hle
    have B7 : Below w7.heap.size w7 w7.drew := (Below.refl _ _).drew
    refine wp_region_noPanic ?_
    refine wp_region_held_drew (S := fun w' => w'.cell? ⟨G, 0, none⟩ = some (.int .u16 (gL S)) ∧ GA w' G (gL S) (vN S via) (rN S via)) (by kernel_rfl) ⟨((unhide HG7).below B7).s, (unhide HG7).below B7⟩ (fun hHeld => ?_)
    (refine Rg.tk (i := 0) (d := 33) (v := ?_) rfl rfl (by kernel_rfl) (by kernel_rfl) (by kernel_rfl) (fun _ _ _ h => h) (by rfl) ?_ (by assumption) ?_; rotate_left; (focus (intro w0 hSw; (try dsimp only at hSw); go_simp; (try with_reducible rfl))); (try simp only [Act.put, List.setIfInBounds_toArray, List.set_cons_zero, List.set_cons_succ]))
    (refine Rg.tk (i := 1) (d := 34) (v := ?_) rfl rfl (by kernel_rfl) (by kernel_rfl) (by kernel_rfl) (fun _ _ _ h => h) (by rfl) ?_ (by assumption) ?_; rotate_left; (focus (intro w0 hSw; (try dsimp only at hSw); go_simp; (try with_reducible rfl))); (try simp only [Act.put, List.setIfInBounds_toArray, List.set_cons_zero, List.set_cons_succ]))
    (refine Rg.tk (i := 2) (d := 35) (v := GV (gL S) (vN S via) (rN S via)) rfl rfl (by kernel_rfl) (by kernel_rfl) (by kernel_rfl) (fun _ _ _ h => h) (by rfl) (fun w0 hSw => run_execG _ rfl rfl hSw.2) (by assumption) ?_; (try simp only [Act.put, List.setIfInBounds_toArray, List.set_cons_zero, List.set_cons_succ]))
    (refine Rg.tk (i := 3) (d := 36) (v := ?_) rfl rfl (by kernel_rfl) (by kernel_rfl) (by kernel_rfl) (fun _ _ _ h => h) (by rfl) ?_ (by assumption) ?_; rotate_left; (focus (intro w0 hSw; (try dsimp only at hSw); go_simp; (try with_reducible rfl))); (try simp only [Act.put, List.setIfInBounds_toArray, List.set_cons_zero, List.set_cons_succ]))
    (refine wpAnyH_ready (rs := [4, 6]) (by kernel_rfl) (by simp) ?_; refine AllReadyH.cons (o := _) rfl (fun K hK => ?_) (AllReadyH.cons (o := _) rfl (fun K hK => ?_) AllReadyH.nil))
    · go_simp
      refine (unhide HRB _).mono ?_
      rintro e w8 ⟨rfl, b8⟩
      have B8 := B7.trans (b8.mono B7.size)
      clear b8 hHeld
      refine hK.out _ _ ⟨((unhide HG7).below B8).s, (unhide HG7).below B8⟩ (fun hHeld => ?_)
      clear hK K
      (try simp only [Act.put, List.setIfInBounds_toArray, List.set_cons_zero, List.set_cons_succ])
      (refine Rg.tk (i := 5) (d := 38) (v := .int .u16 X) rfl rfl (by kernel_rfl) (by kernel_rfl) (by kernel_rfl) (fun _ _ _ h => h) (by rfl) ?_ (by assumption) ?_; (focus (intro w0 hSw; (try dsimp only at hSw); go_simp)); (try simp only [Act.put, List.setIfInBounds_toArray, List.set_cons_zero, List.set_cons_succ]))
      · rw [unhide HLG0]
      (refine wpAnyH_ready (rs := [6]) (by kernel_rfl) (by simp) ?_; refine AllReadyH.cons (o := _) rfl (fun K hK => ?_) AllReadyH.nil; go_simp)
      have B9 := B8.alloc B8.size (.cells #[.int .u16 0] 91)
      clear hHeld
      refine hK.out _ _ ⟨((unhide HG7).below B9).s, (unhide HG7).below B9⟩ (fun hHeld => ?_)
      clear hK K
      (try simp only [Act.put, List.setIfInBounds_toArray, List.set_cons_zero, List.set_cons_succ])
      (refine wpAnyH_ready (rs := [7]) (by kernel_rfl) (by simp) ?_; refine AllReadyH.cons (o := _) rfl (fun K hK => ?_) AllReadyH.nil; go_simp)
      have B10 := B8.alloc B8.size (.cells #[.int .u16 X] 91)
      clear hHeld
      refine hK.out _ _ ⟨((unhide HG7).below B10).s, (unhide HG7).below B10⟩ (fun hHeld => ?_)
      clear hK K
      (try simp only [Act.put, List.setIfInBounds_toArray, List.set_cons_zero, List.set_cons_succ])
      refine wpAnyH_done (by kernel_rfl) (NoPanic.normal ?_) _
      clear hHeld
      go_wp2_with fail
      go_meet
      case rel => exact ⟨_, rfl, cl_new _ _ _, B10, B8.size⟩
    · go_simp
      have B8 := B7.alloc B7.size (.cells #[.int .u16 0] 91)
      have HC8 : Hid (CL (w7.drew.alloc (.cells #[.int .u16 0] 91)) w7.heap.size 0) := hide (cl_new w7.drew 0 91)
      clear hHeld
      refine hK.out _ _ ⟨((unhide HG7).below B8).s, (unhide HG7).below B8⟩ (fun hHeld => ?_)
      clear hK K
      (try simp only [Act.put, List.setIfInBounds_toArray, List.set_cons_zero, List.set_cons_succ])
      (refine wpAnyH_ready (rs := [4]) (by kernel_rfl) (by simp) ?_; refine AllReadyH.cons (o := _) rfl (fun K hK => ?_) AllReadyH.nil; go_simp)
      refine (unhide HRB _).mono ?_
      rintro e w9 ⟨rfl, b9⟩
      have B9 := B8.trans (b9.mono B8.size)
      have HC9 := hide ((unhide HC8).below b9)
      clear b9 hHeld HC8
      refine hK.out _ _ ⟨((unhide HG7).below B9).s, (unhide HG7).below B9⟩ (fun hHeld => ?_)
      clear hK K
      (try simp only [Act.put, List.setIfInBounds_toArray, List.set_cons_zero, List.set_cons_succ])
      (refine Rg.tk (i := 5) (d := 38) (v := .int .u16 X) rfl rfl (by kernel_rfl) (by kernel_rfl) (by kernel_rfl) (fun _ _ _ h => h) (by rfl) ?_ (by assumption) ?_; (focus (intro w0 hSw; (try dsimp only at hSw); go_simp)); (try simp only [Act.put, List.setIfInBounds_toArray, List.set_cons_zero, List.set_cons_succ]))
      · rw [unhide HLG0]
      obtain ⟨cz, fz⟩ := unhide HC9
      (refine wpAnyH_ready (rs := [7]) (by kernel_rfl) (by simp) ?_; refine AllReadyH.cons (o := _) rfl (fun K hK => ?_) AllReadyH.nil; go_simp)
      have B10 := B9.setCell (p := ⟨w7.heap.size, 0, none⟩) (Nat.le_refl _) (.int .u16 X)
      have HC10 := hide ((unhide HC9).set X)
      clear hHeld
      refine hK.out _ _ ⟨((unhide HG7).below B10).s, (unhide HG7).below B10⟩ (fun hHeld => ?_)
      clear hK K
      (try simp only [Act.put, List.setIfInBounds_toArray, List.set_cons_zero, List.set_cons_succ])
      refine wpAnyH_done (by kernel_rfl) (NoPanic.normal ?_) _
      clear hHeld cz fz
      go_wp2_with fail
      go_meet
      case rel => exact ⟨_, rfl, unhide HC10, B10, Nat.le_refl _⟩
  case rest =>
    obtain ⟨lb, rfl, hcl, hbb, hlo⟩ := hcut
    have HCL := hide hcl
    have HBB := hide hbb
    clear hcl hbb HLG HON HAW
    obtain ⟨Gd, hGd⟩ : ∃ Gd, grdV via S ls 8 r0 = Gd := ⟨_, rfl⟩
    have HGd := hide hGd
    clear hGd
    have HL8 : Hid ((leftV via S r0).length ≤ 8) := hide (Nat.le_trans (left_len _ _ _) hS8)
    go_wp2_with fail
    go_loopg [12] 8 (fun kx rl wr => ∃ (r : List Int) (f : Nat), rl = .int .u16 (gL r) ∧ Hid ((leftV via S r).length ≤ kx) ∧ Hid (CL wr lb (gL (leftV via S r))) ∧ Hid (Below w7.heap.size w7 wr) ∧ Hid (grdV via S ls f r = Gd) ∧ Hid ((leftV via S r).length ≤ f) ∧ Hid r.Nodup ∧ Hid (∀ a ∈ r, 1 ≤ a ∧ a ≤ 8))
    case atStart => exact ⟨r0, 8, rfl, HL8, HCL, HBB, HGd, HL8, HRN, HRR⟩
    case round =>
      obtain ⟨r, f, rfl, hkx, hcl, hbl, hgr, hlf, hnd, hrg⟩ := hrel
      have hLr : ∀ z ∈ leftV via S r, 1 ≤ z ∧ z ≤ 8 := fun z hz => unhide HSR z (left_sub hz)
      have HZI := hide (gL_zero hLr)
      by_cases hz : (leftV via S r).length = 0
      · have h0 : gL (leftV via S r) = 0 := (unhide HZI).2 hz
        rw [h0] at hcl
        have c0 := (unhide hcl).1
        have HGE : Hid (Gd = r) := hide (by rw [← unhide hgr]; exact grd_end hz)
        have HRES : Hid (strN (hasB (gL r)) 8 = sortV (grdV via S ls 8 r0)) := hide (by rw [unhide HGd, unhide HGE]; exact gL_list (unhide hnd) (unhide hrg))
        have hlt := gN_lt (fun z => r.contains z)
        clear hLr HZI
        go_wp2_with fail
        refine (addrsC (gL r) _ (by unfold gL; omega)).mono ?_
        rintro e w9 ⟨v9, rfl, b9, hl9, hc9⟩
        rw [unhide HRES] at hl9
        have HB9 := hide ((unhide HB7).trans (((unhide hbl).trans (b9.mono (unhide hbl).size)).mono (unhide HB7).size))
        have HV9 := hide (hl9.mono (lo' := w.heap.size) (Nat.le_trans (unhide HB7).size (unhide hbl).size) (Nat.le_refl _))
        have HCp := hide hc9
        clear b9 hl9 hc9
        go_wp2_with fail
        go_ret2
        exact ⟨_, rfl, unhide HB9, unhide HV9, unhide HCp⟩
      · have hne : ((gL (leftV via S r) : Int) != 0) = true := by
          have : ¬ gL (leftV via S r) = 0 := fun e => hz ((unhide HZI).1 e)
          simp; omega
        have hpos : 0 < (leftV via S r).length := by omega
        obtain ⟨bi, hbi⟩ := pick_some (via := via) (S := S) (L := leftV via S r) (ls := ls) (fun z hz => unhide HSV z (left_sub hz)) hpos
        have hb1 := pick_lt hbi
        have hn0 : 0 < ls.length := by omega
        have hmx : maxV (worth (gnV S via (leftV via S r)) (dgV S via)) ls (ls.length - 1) = ls.getD bi Lk.R.zero := by
          have e1 : gnV S via (leftV via S r) = fun a => (cntV via (leftV via S r) a : Int) := by
            funext a
            have := gain_count (cd := condS ms ls me now) (via := via) (r := r) (a := a)
            rw [← unhide HSC] at this
            rw [← this]; rfl
          have e2 : dgV S via = fun a => (cntV via S a : Int) := by
            funext a
            have := deg_count (cd := condS ms ls me now) (via := via) (a := a)
            rw [← unhide HSC] at this
            rw [← this]; rfl
          rw [e1, e2]
          have := pick_max (via := via) (S := S) (L := leftV via S r) (ls := ls) (f := worth (fun a => (cntV via (leftV via S r) a : Int)) (fun a => (cntV via S a : Int))) (fun i j hij hj => worth_bet (unhide HLU j i hij hj)) (ls.length - 1) (by omega)
          exact this.2 bi (by rw [show ls.length - 1 + 1 = ls.length by omega]; exact hbi)
        have HGS : Hid (∀ f', grdV via S ls (f' + 1) r = grdV via S ls f' (r ++ [(ls.getD bi Lk.R.zero).ad])) := hide (fun f' => grd_step hbi)
        have HLS : Hid ((leftV via S (r ++ [(ls.getD bi Lk.R.zero).ad])).length < (leftV via S r).length) := hide (left_less hb1.2)
        have hxr := unhide HLR bi hb1.1
        have HND : Hid (r ++ [(ls.getD bi Lk.R.zero).ad]).Nodup := hide (app_nodup (unhide hnd) (gain_new hb1.2))
        have HRG2 : Hid (∀ a ∈ r ++ [(ls.getD bi Lk.R.zero).ad], 1 ≤ a ∧ a ≤ 8) := hide (fun a ha => by
          rcases List.mem_append.1 ha with h | h
          · exact unhide hrg a h
          · rw [List.mem_singleton] at h; subst h; exact hxr)
        have HMF := hide (fun W h1 h2 h3 => maxFunc b ls capl G lb (gL S) (vN S via) S via (leftV via S r) W hn0 h8 (unhide HLR) h1 h2 h3)
        rw [hmx] at HMF
        clear hmx hbi hb1 HZI hLr hz
        generalize ls.getD bi Lk.R.zero = x at *
        obtain ⟨xa, xh, xs, xi, xo, xw⟩ := x
        have hxv : Lk.R.value ⟨xa, xh, xs, xi, xo, xw⟩ = .agg #[.int .i64 xa, .int .i64 xh, .int .i64 xs, .int .i64 xi, .int .i64 xo, .int .i64 xw] := rfl
        rw [hxv] at HMF
        clear hxv
        dsimp only at HGS HLS hxr HND HRG2
        obtain ⟨q, rfl⟩ : ∃ q : Nat, xa = (q : Int) := ⟨xa.toNat, by omega⟩
        have hq9 : q < 9 := by omega
        have q0 : (0 : Int) ≤ (q : Int) := by omega
        have q9 : (q : Int) < 9 := by omega
        clear hxr
        have HOR := hide (gL_app r (q : Int))
        have HAN2 : Hid (bits .andNot .u16 (gL (leftV via S r) : Int) (rN S via q : Int) = (gL (leftV via S (r ++ [(q : Int)])) : Int)) := hide less_group
        obtain ⟨f1, rfl⟩ : ∃ f1, f = f1 + 1 := ⟨f - 1, by have := unhide hlf; omega⟩
        have HGR2 : Hid (grdV via S ls f1 (r ++ [(q : Int)]) = Gd) := hide (by rw [← unhide HGS]; exact unhide hgr)
        have HLF2 : Hid ((leftV via S (r ++ [(q : Int)])).length ≤ f1) := hide (by have := unhide hlf; have := unhide HLS; omega)
        have hdec : (leftV via S (r ++ [(q : Int)])).length < gk := by have := unhide hkx; have := unhide HLS; omega
        clear HGS HLS hgr hlf hnd hrg hkx hpos
        have c0 := (unhide hcl).1
        have HLw := hide ((unhide HL7).below (unhide hbl))
        have HGw := hide ((unhide HG7).below (unhide hbl))
        have hgl := (unhide HG7).lt
        go_wp2_with fail
        refine (unhide HMF _ (unhide HLw) (unhide HGw) (unhide hcl).1).mono ?_
        rintro e w9 ⟨rfl, b9⟩
        have HCL9 := hide ((unhide hcl).below b9)
        have HB9 := hide ((unhide hbl).trans (b9.mono (unhide hbl).size))
        clear b9 c0
        have HBn := hide ((unhide HB9).alloc (unhide HB9).size (.cells #[.int .i64 (q : Int), .int .i64 xh, .int .i64 xs, .int .i64 xi, .int .i64 xo, .int .i64 xw] 30))
        have HX := hide (bf_new w9 ⟨(q : Int), xh, xs, xi, xo, xw⟩ 30)
        have HCLn := hide ((unhide HCL9).below ((Below.refl _ _).alloc (Nat.le_refl _) (.cells #[.int .i64 (q : Int), .int .i64 xh, .int .i64 xs, .int .i64 xi, .int .i64 xo, .int .i64 xw] 30)))
        go_wp2_with fail
        have HRq : Hid (In.RM ((w9.alloc (.cells #[.int .i64 (q : Int), .int .i64 xh, .int .i64 xs, .int .i64 xi, .int .i64 xo, .int .i64 xw] 30)).alloc (.cells #[.int .i64 (q : Int)] 3)) (some ⟨w9.heap.size + 1, 0, none⟩) [(q : Int)]) := hide (by
          have := In.rm_new (w9.alloc (.cells #[.int .i64 (q : Int), .int .i64 xh, .int .i64 xs, .int .i64 xi, .int .i64 xo, .int .i64 xw] 30)) (q : Int)
          rw [World.size_alloc] at this; exact this)
        have HB10 := hide ((unhide HBn).alloc (unhide HBn).size (.cells #[.int .i64 (q : Int)] 3))
        have HX10 := hide ((unhide HX).below ((Below.refl _ _).alloc (Nat.le_refl _) (.cells #[.int .i64 (q : Int)] 3)))
        have HC10 := hide ((unhide HCLn).below ((Below.refl _ _).alloc (Nat.le_refl _) (.cells #[.int .i64 (q : Int)] 3)))
        refine (groupOf _ [(q : Int)] _ _ (by simp) (unhide HRq)).mono ?_
        rintro e w11 ⟨rfl, hw11⟩
        generalize hW : (w9.alloc (.cells #[.int .i64 (q : Int), .int .i64 xh, .int .i64 xs, .int .i64 xi, .int .i64 xo, .int .i64 xw] 30)).alloc (.cells #[.int .i64 (q : Int)] 3) = w10 at *
        rw [hw11]
        clear hw11 hW HBn HX HCLn HCL9 HB9 HRq
        go_wp2_with fail
        rw [unhide HOR]
        have HG10 := hide ((unhide HG7).below (unhide HB10))
        have HS : Hid (∀ w', Below w10.heap.size w10 w' → w'.cell? ⟨w9.heap.size, 0, none⟩ = some (.int .i64 (q : Int)) ∧ w'.cell? ⟨G, 10 + q, none⟩ = some (.int .u16 (rN S via q))) := hide (fun w' hb => ⟨((unhide HX10).below hb).1.1, (((unhide HG10).below hb).r hq9).1⟩)
        have HSf : Hid (∀ y : Int, (w10.drew.setCell ⟨lb, 0, none⟩ (.int .u16 y)).cell? ⟨w9.heap.size, 0, none⟩ = some (.int .i64 (q : Int)) ∧ (w10.drew.setCell ⟨lb, 0, none⟩ (.int .u16 y)).cell? ⟨G, 10 + q, none⟩ = some (.int .u16 (rN S via q))) := hide (fun y => by
          have h1 := unhide HS _ ((Below.refl w10.heap.size w10).drew)
          refine ⟨?_, ?_⟩
          · rw [World.cell?_setCell_other _ _ _ _ (by
              intro e
              injection e with e1 _ _
              have h2 := (unhide HX10).1.1
              have h3 := (unhide HC10).1
              rw [e1] at h3
              rw [h3] at h2
              cases h2)]
            exact h1.1
          · rw [World.cell?_setCell_other _ _ _ _ (by intro e; injection e with e1 e2 _; omega)]; exact h1.2)
        obtain ⟨cz, fz⟩ := unhide HC10
        have HCf := hide ((unhide HC10).below ((Below.refl _ _).drew) |>.set (gL (leftV via S (r ++ [(q : Int)]))))
        have HBf := hide ((unhide HB10).drew.setCell (p := ⟨lb, 0, none⟩) hlo (.int .u16 (gL (leftV via S (r ++ [(q : Int)])))))
        refine wp_region_noPanic ?_
        refine wp_region_held_drew (S := fun w' => w'.cell? ⟨w9.heap.size, 0, none⟩ = some (.int .i64 (q : Int)) ∧ w'.cell? ⟨G, 10 + q, none⟩ = some (.int .u16 (rN S via q))) (by kernel_rfl) (unhide HS _ ((Below.refl _ _).drew)) (fun hHeld => ?_)
        (refine Rg.tk (i := 1) (d := 52) (v := ?_) rfl rfl (by kernel_rfl) (by kernel_rfl) (by kernel_rfl) (fun _ _ _ h => h) (by rfl) ?_ (by assumption) ?_; rotate_left; (focus (intro w0 hSw; (try dsimp only at hSw); go_simp; (try with_reducible rfl))); (try simp only [Act.put, List.setIfInBounds_toArray, List.set_cons_zero, List.set_cons_succ]))
        (refine Rg.tk (i := 2) (d := 53) (v := ?_) rfl rfl (by kernel_rfl) (by kernel_rfl) (by kernel_rfl) (fun _ _ _ h => h) (by rfl) ?_ (by assumption) ?_; rotate_left; (focus (intro w0 hSw; (try dsimp only at hSw); go_simp; (try with_reducible rfl))); (try simp only [Act.put, List.setIfInBounds_toArray, List.set_cons_zero, List.set_cons_succ]))
        (refine Rg.tk (i := 3) (d := 54) (v := ?_) rfl rfl (by kernel_rfl) (by kernel_rfl) (by kernel_rfl) (fun _ _ _ h => h) (by rfl) ?_ (by assumption) ?_; rotate_left; (focus (intro w0 hSw; (try dsimp only at hSw); go_simp; (try with_reducible rfl))); (try simp only [Act.put, List.setIfInBounds_toArray, List.set_cons_zero, List.set_cons_succ]))
        (refine Rg.tk (i := 4) (d := 55) (v := ?_) rfl rfl (by kernel_rfl) (by kernel_rfl) (by kernel_rfl) (fun _ _ _ h => h) (by rfl) ?_ (by assumption) ?_; rotate_left; (focus (intro w0 hSw; (try dsimp only at hSw); go_simp; (try with_reducible rfl))); (try simp only [Act.put, List.setIfInBounds_toArray, List.set_cons_zero, List.set_cons_succ]))
        (refine Rg.tk (i := 5) (d := 56) (v := ?_) rfl rfl (by kernel_rfl) (by kernel_rfl) (by kernel_rfl) (fun _ _ _ h => h) (by rfl) ?_ (by assumption) ?_; rotate_left; (focus (intro w0 hSw; (try dsimp only at hSw); go_simp; (try with_reducible rfl))); (try simp only [Act.put, List.setIfInBounds_toArray, List.set_cons_zero, List.set_cons_succ]))
        (refine wpAnyH_ready (rs := [0]) (by kernel_rfl) (by simp) ?_; refine AllReadyH.cons (o := _) rfl (fun K hK => ?_) AllReadyH.nil; go_simp)
        clear hHeld
        refine hK.out _ _ (unhide HS _ ((Below.refl _ _).drew)) (fun hHeld => ?_)
        clear hK K
        (try simp only [Act.put, List.setIfInBounds_toArray, List.set_cons_zero, List.set_cons_succ])
        (refine Rg.tk (i := 6) (d := 57) (v := .int .u16 (gL (leftV via S (r ++ [(q : Int)])))) rfl rfl (by kernel_rfl) (by kernel_rfl) (by kernel_rfl) (fun _ _ _ h => h) (by rfl) ?_ (by assumption) ?_; (focus (intro w0 hSw; (try dsimp only at hSw); go_simp)); (try simp only [Act.put, List.setIfInBounds_toArray, List.set_cons_zero, List.set_cons_succ]))
        · rw [unhide HAN2]
        (refine wpAnyH_ready (rs := [7]) (by kernel_rfl) (by simp) ?_; refine AllReadyH.cons (o := _) rfl (fun K hK => ?_) AllReadyH.nil; go_simp)
        clear hHeld
        refine hK.out _ _ (unhide HSf _) (fun hHeld => ?_)
        clear hK K
        (try simp only [Act.put, List.setIfInBounds_toArray, List.set_cons_zero, List.set_cons_succ])
        refine wpAnyH_done (by kernel_rfl) (NoPanic.normal ?_) _
        clear hHeld cz fz HS HSf
        go_wp2_with fail
        go_roundg ((leftV via S (r ++ [(q : Int)])).length)
        case measure => exact hdec
        case rel => exact ⟨r ++ [(q : Int)], f1, rfl, hide (Nat.le_refl _), HCf, HBf, HGR2, HLF2, HND, HRG2⟩
end Gp
end Go.Proofs.Ytpknahhdapmcoac
