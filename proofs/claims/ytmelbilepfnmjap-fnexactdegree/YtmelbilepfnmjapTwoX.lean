/-
  The program's contracts: ViaOf, StrictTwo.
-/
import Derived.Test.YtmelbilepfnmjapTwoV
namespace Go.Proofs.Ytmelbilepfnmjap
open Go.ChangeShapes Go.WideShapes Go.ChangeAt Go.RowKit
set_option linter.unusedVariables false
set_option linter.unusedSimpArgs false
attribute [local go_sem ↓] Go.wp_at_zero Go.wp_at_succ
namespace Tw
open W1 Tu St Mt
theorem codeTL_long {ms : List R} {ls : List Lk.R} (h : 4096 < ms.length ∨ 4096 < ls.length) : codeTL ms ls = 2 := by unfold codeTL; rw [if_pos h]
theorem codeTL_bad {ms : List R} {ls : List Lk.R} (h : ¬ 4096 < ms.length) (h' : ¬ 4096 < ls.length) (hb : (twoB ms && Ln.linksB ls) = false) : codeTL ms ls = 1 := by unfold codeTL; rw [if_neg (by omega), if_neg (by rw [hb]; simp)]
theorem codeTL_zero {ms : List R} {ls : List Lk.R} (h : ¬ 4096 < ms.length) (h' : ¬ 4096 < ls.length) (hb : (twoB ms && Ln.linksB ls) = true) : codeTL ms ls = 0 := by unfold codeTL; rw [if_neg (by omega), if_pos hb]
set_option maxHeartbeats 2000000 in
theorem twoLinksCode (a : Option Addr) (ms : List R) (cap : Nat) (b : Option Addr) (ls : List Lk.R) (capl : Nat) (w : World) (hm : ms.length ≤ 1048576) (hl : ls.length ≤ 1048576) (hr : RM w a ms) (hr' : Lk.RM w b ls) :
    Calls Try.prog 90 #[.slice a ms.length cap, .slice b ls.length capl] w fun e w' => e = .returned (.int .i64 (codeTL ms ls)) ∧ Below w.heap.size w w' := by
  have HR := hide hr
  have HL := hide hr'
  clear hr hr'
  by_cases hb1 : (4096 : Int) < ms.length
  · rw [codeTL_long (.inl (by omega))]
    go_enter Try.func90, Try.ntmps90
    go_wp2
    go_ret
    exact ⟨rfl, Below.refl _ _⟩
  by_cases hb2 : (4096 : Int) < ls.length
  · rw [codeTL_long (.inr (by omega))]
    go_enter Try.func90, Try.ntmps90
    go_wp2
    go_ret
    exact ⟨rfl, Below.refl _ _⟩
  cases hs : twoB ms
  · rw [codeTL_bad (by omega) (by omega) (by rw [hs]; rfl)]
    have HS := hide hs
    clear hs
    go_enter Try.func90, Try.ntmps90
    go_wp2_with fail
    refine (areHops _ ms cap _ hm (unhide HR)).mono ?_
    rintro e w1 ⟨rfl, b1⟩
    rw [unhide HS]
    have HB := hide b1
    clear b1
    go_wp2_with fail
    go_ret
    exact ⟨rfl, unhide HB⟩
  cases hk : Ln.linksB ls
  · rw [codeTL_bad (by omega) (by omega) (by rw [hs, hk]; rfl)]
    have HS := hide hs
    have HK := hide hk
    clear hs hk
    go_enter Try.func90, Try.ntmps90
    go_wp2_with fail
    refine (areHops _ ms cap _ hm (unhide HR)).mono ?_
    rintro e w1 ⟨rfl, b1⟩
    rw [unhide HS]
    have HB := hide b1
    have HL1 := hide ((unhide HL).below b1)
    clear b1
    go_wp2_with fail
    refine (Ln.implOK _ ls capl _ hl (unhide HL1)).mono ?_
    rintro e w2 ⟨rfl, b2⟩
    rw [unhide HK]
    have HB2 := hide ((unhide HB).trans (b2.mono (unhide HB).size))
    clear b2
    go_wp2_with fail
    go_ret
    exact ⟨rfl, unhide HB2⟩
  rw [codeTL_zero (by omega) (by omega) (by rw [hs, hk]; rfl)]
  have HS := hide hs
  have HK := hide hk
  clear hs hk
  go_enter Try.func90, Try.ntmps90
  go_wp2_with fail
  refine (areHops _ ms cap _ hm (unhide HR)).mono ?_
  rintro e w1 ⟨rfl, b1⟩
  rw [unhide HS]
  have HB := hide b1
  have HL1 := hide ((unhide HL).below b1)
  clear b1
  go_wp2_with fail
  refine (Ln.implOK _ ls capl _ hl (unhide HL1)).mono ?_
  rintro e w2 ⟨rfl, b2⟩
  rw [unhide HK]
  have HB2 := hide ((unhide HB).trans (b2.mono (unhide HB).size))
  clear b2
  go_wp2_with fail
  go_ret
  exact ⟨rfl, unhide HB2⟩
set_option maxRecDepth 100000 in
set_option maxHeartbeats 4000000 in
theorem strictOf (bm q : Nat) (ms : List R) (b : Option Addr) (ls : List Lk.R) (capl : Nat) (me now : Int) (w : World) (hok : Ln.linksB ls = true) (hom : OM w bm q (findT ms)) (hr' : Lk.RM w b ls) :
    Calls Try.prog 92 #[.map (some bm), .slice b ls.length capl, .int .i64 me, .int .i64 now] w fun e w' => ∃ v, e = .returned v ∧ Below w.heap.size w w' ∧ In.LstV w' v (strN (condS ms ls me now) 8) w.heap.size w'.heap.size := by
  have HL := hide hr'
  have HM := hide hom
  have HOK := hide hok
  have h8 := Ln.links_len hok
  have HSC : Hid (Ln.codeL ls = 0) := hide (Ln.code_zero hok)
  have hsl := Ln.sym_len ls now
  obtain ⟨c, hcc⟩ : ∃ c, condS ms ls me now = c := ⟨_, rfl⟩
  have HCC : Hid (∀ x, c x = ((x != me) && (!(Ln.symA ls now).contains x && decide (0 < (viaL (findT ms) ls x now ls.length).length)))) := hide (fun x => by rw [← hcc]; unfold condS Ln.symA; rw [if_pos (unhide HSC)])
  rw [hcc]
  clear hr' hom hok hcc
  go_enter Try.func92, Try.ntmps92
  go_wp2_with fail
  refine (Ln.implSym _ ls capl now _ (by omega) (unhide HL)).mono ?_
  rintro e w2 ⟨v2, rfl, b2, hl2⟩
  rw [unhide HSC]
  obtain ⟨a2, c2, rfl, l2⟩ := hl2
  have HN2 := hide l2.rm
  have HB2 := hide b2
  have HL2 := hide ((unhide HL).below b2)
  have HM2 := hide ((unhide HM).below b2)
  clear b2 l2
  generalize Ln.symA ls now = zs at *
  have O0 : Hid (w2.ownsRow w2.heap.size 3 1 (.slice none 0 0) (strN c 0).length (In.flat (strN c 0))) := hide (In.own_nil w2 w2.heap.size)
  go_wp2_with fail
  go_loopw [11, 12] (fun v i wr => ∃ j : Nat, j ≤ 8 ∧ i = .int .i64 ((j : Int) + 1) ∧ Hid (wr.ownsRow w2.heap.size 3 1 v (strN c j).length (In.flat (strN c j))) ∧ Hid (Below w2.heap.size w2 wr)) (fun _ i _ => 9 - (intOf i).toNat)
  case atStart => exact ⟨0, by omega, rfl, O0, hide (Below.refl _ _)⟩
  case round =>
    obtain ⟨j, hj, rfl, how, hbl⟩ := hrel
    have hbs := (unhide hbl).size
    have hfl := strN_len c j
    by_cases hlt : (j : Int) + 1 ≤ 8
    · have HWK : Hid ((Lit.int .i64 ((j : Int) + 1)).wf = true) := hide (WalkArith.wf_i64 ⟨by omega, by omega⟩)
      have HCJ := hide (unhide HCC ((j : Int) + 1))
      have HY := hide (fun (h : c ((j : Int) + 1) = true) => strN_yes h)
      have HZ := hide (fun (h : c ((j : Int) + 1) = false) => strN_no h)
      cases hq : ((j : Int) + 1 != me)
      · have HTF := hide (unhide HZ (by rw [unhide HCJ, hq]; rfl))
        clear HY HZ HCJ
        have HO : Hid (wr.ownsRow w2.heap.size 3 1 u11 (strN c (j + 1)).length (In.flat (strN c (j + 1)))) := hide (by rw [unhide HTF]; exact unhide how)
        go_wp2_with fail
        go_roundw
        case rel => exact ⟨j + 1, by omega, by go_num, HO, hbl⟩
        case measure => simp [intOf]; omega
      obtain ⟨kc, hkc⟩ : ∃ kc, zs.contains ((j : Int) + 1) = kc := ⟨_, rfl⟩
      have HKC := hide hkc
      have HNr := hide ((unhide HN2).below (unhide hbl))
      rw [hkc, hq] at HCJ
      clear hkc
      go_wp2_with fail
      refine (contains a2 zs c2 ((j : Int) + 1) _ (by omega) (unhide HNr)).mono ?_
      rintro e w4 ⟨rfl, hw4⟩
      rw [unhide HKC, hw4]
      clear hw4
      cases kc
      rotate_left
      · have HTF := hide (unhide HZ (by rw [unhide HCJ]; rfl))
        clear HY HZ HCJ
        have HO : Hid (wr.ownsRow w2.heap.size 3 1 u11 (strN c (j + 1)).length (In.flat (strN c (j + 1)))) := hide (by rw [unhide HTF]; exact unhide how)
        go_wp2_with fail
        go_roundw
        case rel => exact ⟨j + 1, by omega, by go_num, HO, hbl⟩
        case measure => simp [intOf]; omega
      have HMr := hide ((unhide HM2).below (unhide hbl))
      have HLr := hide ((unhide HL2).below (unhide hbl))
      obtain ⟨nv, hnv⟩ : ∃ nv, (viaL (findT ms) ls ((j : Int) + 1) now ls.length).length = nv := ⟨_, rfl⟩
      rw [hnv] at HCJ
      have HNV := hide hnv
      clear hnv
      go_wp2_with fail
      refine (viasOf bm q _ _ ls capl ((j : Int) + 1) now _ (unhide HWK) (unhide HOK) (unhide HMr) (unhide HLr)).mono ?_
      rintro e w5 ⟨v5, rfl, b5, hl5⟩
      obtain ⟨a5, c5, rfl, l5⟩ := hl5
      rw [unhide HNV]
      have HB5 := hide ((unhide hbl).trans (b5.mono (unhide hbl).size))
      have HO5 := hide (Ln.own_belowI (unhide how) b5)
      have hs5 := (unhide HB5).size
      clear b5 l5
      rcases nv with _ | nv
      rotate_left
      · have HTF := hide (unhide HY (by rw [unhide HCJ, decide_eq_true (by omega)]; rfl))
        clear HY HZ HCJ
        go_wp2_with (at_builtin; refine In.wpList_apS ((unhide HO5).alloc _) w5.heap.size 0 1 1 [(j : Int) + 1] rfl (In.rm_new w5 ((j : Int) + 1)) (by simp only [List.length_cons, List.length_nil]; omega) (by simp; omega) rfl _ _ rfl rfl rfl ?_; intro v' w' ho hg; have HO : Hid (w'.ownsRow w2.heap.size 3 1 v' (strN c (j + 1)).length (In.flat (strN c (j + 1)))) := hide (by rw [unhide HTF]; exact ho); have HB := hide (In.below_own ((unhide HB5).alloc hs5 _) ((unhide HO5).alloc _) hg (Nat.le_refl _) (by simp; omega)); clear ho hg)
        go_roundw
        case rel => exact ⟨j + 1, by omega, by go_num, HO, HB⟩
        case measure => simp [intOf]; omega
      · have HTF := hide (unhide HZ (by rw [unhide HCJ, decide_eq_false (by omega)]; rfl))
        clear HY HZ HCJ
        have HO : Hid (w5.ownsRow w2.heap.size 3 1 u11 (strN c (j + 1)).length (In.flat (strN c (j + 1)))) := hide (by rw [unhide HTF]; exact unhide HO5)
        go_wp2_with fail
        go_roundw
        case rel => exact ⟨j + 1, by omega, by go_num, HO, HB5⟩
        case measure => simp [intOf]; omega
    · obtain rfl : j = 8 := by omega
      have HLs := hide ((In.lst_own rfl (unhide how)).mono (lo' := w.heap.size) (unhide HB2).size (Nat.le_refl _))
      have HBf := hide ((unhide HB2).trans ((unhide hbl).mono (unhide HB2).size))
      go_wp2_with fail
      go_ret
      exact ⟨_, rfl, unhide HBf, unhide HLs⟩
end Tw
end Go.Proofs.Ytmelbilepfnmjap
