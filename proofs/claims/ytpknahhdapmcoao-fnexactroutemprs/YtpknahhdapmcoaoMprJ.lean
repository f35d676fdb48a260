/-
  The model's contracts: all neighbors; Keeps.
-/
import Derived.Test.YtpknahhdapmcoaoMprI
namespace Go.Proofs.Ytpknahhdapmcoao
open Go.ChangeShapes Go.WideShapes Go.ChangeAt Go.RowKit
set_option linter.unusedVariables false
set_option linter.unusedSimpArgs false
attribute [local go_sem ↓] Go.wp_at_zero Go.wp_at_succ
namespace Mr
open W1 Tu St Tw
def allL (ls : List Lk.R) (j : Nat) : List Int := (ls.take j).map (·.ad)
theorem allL_step {ls : List Lk.R} {j : Nat} (h : j < ls.length) : allL ls (j + 1) = allL ls j ++ [(ls.getD j Lk.R.zero).ad] := by
  unfold allL; rw [ls_take h, List.map_append]; rfl
theorem allL_len (ls : List Lk.R) (j : Nat) : (allL ls j).length ≤ j := by
  unfold allL; rw [List.length_map]; exact List.length_take_le j ls
set_option maxRecDepth 100000 in
set_option maxHeartbeats 2000000 in
theorem l08All (a : Option Addr) (ls : List Lk.R) (capl : Nat) (w : World) (h8 : ls.length ≤ 8) (hr : Lk.RM w a ls) :
    Calls Try.prog 62 #[.slice a ls.length capl] w fun e w' => ∃ v, e = .returned v ∧ Below w.heap.size w w' ∧ In.LstV w' v (allL ls ls.length) w.heap.size w'.heap.size := by
  have HR := hide hr
  clear hr
  have P0 := hide ((Below.refl w.heap.size w).alloc (Nat.le_refl _) (.cells #[] 3))
  have O1 : Hid ((w.alloc (.cells #[] 3)).ownsRow w.heap.size 3 1 (.slice (some ⟨w.heap.size, 0, none⟩) 0 0) (allL ls 0).length (In.flat (allL ls 0))) := hide (In.own_empty w w.heap.size (Nat.le_refl _))
  go_enter Try.func62, Try.ntmps62
  go_wp2_with fail
  go_loopw [3, 4] (fun v i wr => ∃ j : Nat, j ≤ ls.length ∧ i = .int .i64 j ∧ Hid (wr.ownsRow w.heap.size 3 1 v (allL ls j).length (In.flat (allL ls j))) ∧ Hid (Below w.heap.size w wr)) (fun _ i _ => ls.length - (intOf i).toNat)
  case atStart => exact ⟨0, by omega, rfl, O1, P0⟩
  case round =>
    obtain ⟨j, hj, rfl, how, hbl⟩ := hrel
    have hbs := (unhide hbl).size
    by_cases hlt : (j : Int) < (ls.length : Int)
    · have k0 : (0 : Int) ≤ (j : Int) := by omega
      have hlen : j < ls.length := by omega
      obtain ⟨gl, ol, rfl⟩ := (unhide HR).form (by omega)
      obtain ⟨c0, c1, c2, c3, c4, c5⟩ := ((unhide HR).below (unhide hbl)).at hlen
      have HTF := hide (allL_step hlen)
      have hfl := allL_len ls j
      generalize ls.getD j Lk.R.zero = m at *
      go_wp2_with (at_builtin; refine In.wpList_apS ((unhide how).alloc _) wr.heap.size 0 1 1 [m.ad] rfl (In.rm_new wr m.ad) (by simp only [List.length_cons, List.length_nil]; omega) (by simp; omega) rfl _ _ rfl rfl rfl ?_; intro v' w' ho hg; have HO : Hid (w'.ownsRow w.heap.size 3 1 v' (allL ls (j + 1)).length (In.flat (allL ls (j + 1)))) := hide (by rw [unhide HTF]; exact ho); have HB := hide (In.below_own ((unhide hbl).alloc hbs _) ((unhide how).alloc _) hg (Nat.le_refl _) (by simp; omega)); clear ho hg)
      go_roundw
      case rel => exact ⟨j + 1, by omega, by go_num, HO, HB⟩
      case measure => simp [intOf]; omega
    · obtain rfl : j = ls.length := by omega
      have HLs := hide (In.lst_own rfl (unhide how))
      go_wp2_with fail
      go_ret
      exact ⟨_, rfl, unhide hbl, unhide HLs⟩
/-- No way costs more. -/
def keepB (f : Int → Int → Option R) (ls : List Lk.R) (me now : Int) (rs : List Int) (x : Int) : Bool := !(x != me) || !(costV f ls x now rs ls.length != costV f ls x now (allL ls ls.length) ls.length)
def keepN (f : Int → Int → Option R) (ls : List Lk.R) (me now : Int) (rs : List Int) (n : Nat) : Bool := (List.range n).all (fun t : Nat => keepB f ls me now rs ((t : Int) + 1))
theorem keep_succ {f : Int → Int → Option R} {ls : List Lk.R} {me now : Int} {rs : List Int} {n : Nat} : keepN f ls me now rs (n + 1) = (keepN f ls me now rs n && keepB f ls me now rs ((n : Int) + 1)) := by
  unfold keepN; rw [List.range_succ, List.all_append]; simp
theorem keep_no {f : Int → Int → Option R} {ls : List Lk.R} {me now : Int} {rs : List Int} {n : Nat} (hn : n < 8) (h : keepB f ls me now rs ((n : Int) + 1) = false) : keepN f ls me now rs 8 = false := by
  unfold keepN
  rw [List.all_eq_false]
  exact ⟨n, List.mem_range.2 hn, by rw [h]; simp⟩
def keepA (ms : List R) (ls : List Lk.R) (me now : Int) (rs : List Int) : Bool := decide (codeM ms ls rs = 0) && keepN (findT ms) ls me now rs 8
set_option maxRecDepth 100000 in
set_option maxHeartbeats 4000000 in
theorem specKeeps (g off : Nat) (ms : List R) (cap : Nat) (b : Option Addr) (ls : List Lk.R) (capl : Nat) (me now : Int) (b2 : Option Addr) (rs : List Int) (capr : Nat) (w : World) (hm : ms.length ≤ 1048576) (hl : ls.length ≤ 1048576) (hrl : rs.length ≤ 1048576) (hr : RM w (some ⟨g, off, none⟩) ms) (hr' : Lk.RM w b ls) (hrr : In.RM w b2 rs) :
    Calls Try.prog 31 #[.slice (some ⟨g, off, none⟩) ms.length cap, .slice b ls.length capl, .int .i64 me, .int .i64 now, .slice b2 rs.length capr] w fun e w' => e = .returned (.tuple #[.bool (keepA ms ls me now rs), .int .i64 (codeM ms ls rs)]) ∧ Below w.heap.size w w' := by
  have HR := hide hr
  have HL := hide hr'
  have HRR := hide hrr
  clear hr hr' hrr
  by_cases hb1 : (4096 : Int) < ms.length
  · have hc : codeM ms ls rs = 2 := by unfold codeM; rw [codeTL_long (ms := ms) (ls := ls) (.inl (by omega))]; split <;> rfl
    have ha : keepA ms ls me now rs = false := by unfold keepA; rw [decide_eq_false (by omega)]; rfl
    rw [hc, ha]
    clear hc ha
    go_enter Try.func31, Try.ntmps31
    go_wp2_with fail
    go_ret2
    exact ⟨rfl, Below.refl _ _⟩
  by_cases hb2 : (4096 : Int) < ls.length
  · have hc : codeM ms ls rs = 2 := by unfold codeM; rw [codeTL_long (ms := ms) (ls := ls) (.inr (by omega))]; split <;> rfl
    have ha : keepA ms ls me now rs = false := by unfold keepA; rw [decide_eq_false (by omega)]; rfl
    rw [hc, ha]
    clear hc ha
    go_enter Try.func31, Try.ntmps31
    go_wp2_with fail
    go_ret2
    exact ⟨rfl, Below.refl _ _⟩
  by_cases hb3 : (4096 : Int) < rs.length
  · have hc : codeM ms ls rs = 2 := by unfold codeM; rw [if_pos (by omega)]
    have ha : keepA ms ls me now rs = false := by unfold keepA; rw [decide_eq_false (by omega)]; rfl
    rw [hc, ha]
    clear hc ha
    go_enter Try.func31, Try.ntmps31
    go_wp2_with fail
    go_ret2
    exact ⟨rfl, Below.refl _ _⟩
  by_cases hc : codeTL ms ls = 0
  rotate_left
  · have hcm : codeM ms ls rs = codeTL ms ls := by unfold codeM; rw [if_neg (by omega), if_neg hc]
    have hc : ¬ codeM ms ls rs = 0 := by rw [hcm]; exact hc
    have ha : keepA ms ls me now rs = false := by unfold keepA; rw [decide_eq_false (by omega)]; rfl
    rw [ha, hcm]
    rw [hcm] at hc
    clear ha hcm
    generalize hcd : codeTL ms ls = cd at *
    have HC := hide hcd
    clear hcd
    have q1 : (cd != 0) = true := by simpa using hc
    go_enter Try.func31, Try.ntmps31
    go_wp2_with fail
    refine (l07Ask _ ms cap _ ls capl _ (by omega) (by omega) (unhide HR) (unhide HL)).mono ?_
    rintro e w1 ⟨rfl, b1⟩
    rw [unhide HC]
    have HB1 := hide b1
    clear b1
    go_wp2_with fail
    go_ret2
    exact ⟨rfl, unhide HB1⟩
  have HOK := hide (codeTL_ok hc)
  have HC := hide hc
  by_cases hb4 : 8 < rs.length
  · have hcm : codeM ms ls rs = 6 := by unfold codeM; rw [if_neg (by omega), if_pos hc, if_pos hb4]
    have hc : ¬ codeM ms ls rs = 0 := by rw [hcm]; decide
    have ha : keepA ms ls me now rs = false := by unfold keepA; rw [decide_eq_false (by omega)]; rfl
    rw [ha, hcm]
    clear ha hcm hc
    go_enter Try.func31, Try.ntmps31
    go_wp2_with fail
    refine (l07Ask _ ms cap _ ls capl _ (by omega) (by omega) (unhide HR) (unhide HL)).mono ?_
    rintro e w1 ⟨rfl, b1⟩
    rw [unhide HC]
    have HB1 := hide b1
    clear b1
    go_wp2_with fail
    refine (l08Mprs b2 rs.length capr _ hrl).mono ?_
    rintro e w2 ⟨rfl, hw2⟩
    rw [hw2, if_neg (by omega), if_pos hb4]
    clear hw2
    go_wp2_with fail
    go_ret2
    exact ⟨rfl, unhide HB1⟩
  have hcm : codeM ms ls rs = 0 := by unfold codeM; rw [if_neg (by omega), if_pos hc, if_neg hb4]
  have ha : keepA ms ls me now rs = keepN (findT ms) ls me now rs 8 := by unfold keepA; rw [decide_eq_true hcm]; rfl
  rw [hcm, ha]
  obtain ⟨KA, hKA⟩ : ∃ KA, keepN (findT ms) ls me now rs 8 = KA := ⟨_, rfl⟩
  rw [hKA]
  have HKA := hide hKA
  have hr8 : rs.length ≤ 64 := by omega
  have h8 := Ln.links_len (unhide HOK).2
  have hal := allL_len ls ls.length
  obtain ⟨al, hal2⟩ : ∃ al, allL ls ls.length = al := ⟨_, rfl⟩
  have HAL := hide hal2
  rw [hal2] at hal
  clear ha hc hcm hKA hal2
  go_enter Try.func31, Try.ntmps31
  go_wp2_with fail
  refine (l07Ask _ ms cap _ ls capl _ (by omega) (by omega) (unhide HR) (unhide HL)).mono ?_
  rintro e w1 ⟨rfl, b1⟩
  rw [unhide HC]
  have HB1 := hide b1
  clear b1
  go_wp2_with fail
  refine (l08Mprs b2 rs.length capr _ hrl).mono ?_
  rintro e w2 ⟨rfl, hw2⟩
  rw [hw2, if_neg (by omega), if_neg hb4]
  clear hw2
  go_wp2_with fail
  go_loopw [14] (fun i wr => ∃ j : Nat, j ≤ 8 ∧ i = .int .i64 ((j : Int) + 1) ∧ Hid (keepN (findT ms) ls me now rs j = true) ∧ Hid (Below w.heap.size w wr)) (fun i _ => 9 - (intOf i).toNat)
  case atStart => exact ⟨0, by omega, rfl, hide rfl, HB1⟩
  case round =>
    obtain ⟨j, hj, rfl, hkp, hbl⟩ := hrel
    have hbs := (unhide hbl).size
    by_cases hlt : (j : Int) + 1 ≤ 8
    · have HKS := hide (keep_succ (f := findT ms) (ls := ls) (me := me) (now := now) (rs := rs) (n := j))
      rw [unhide hkp] at HKS
      have HKN := hide (fun (h : keepB (findT ms) ls me now rs ((j : Int) + 1) = false) => keep_no (by omega) h)
      have HKB : Hid (keepB (findT ms) ls me now rs ((j : Int) + 1) = (!((j : Int) + 1 != me) || !(costV (findT ms) ls ((j : Int) + 1) now rs ls.length != costV (findT ms) ls ((j : Int) + 1) now al ls.length))) := hide (by rw [← unhide HAL]; rfl)
      cases hq : ((j : Int) + 1 != me)
      · have HT : Hid (keepN (findT ms) ls me now rs (j + 1) = true) := hide (by rw [unhide HKS, unhide HKB, hq]; rfl)
        clear HKS HKN HKB
        go_wp2_with fail
        go_roundw
        case rel => exact ⟨j + 1, by omega, by go_num, HT, hbl⟩
        case measure => simp [intOf]; omega
      rw [hq] at HKB
      have HMr := hide ((unhide HR).below (unhide hbl))
      have HLr := hide ((unhide HL).below (unhide hbl))
      have HRr := hide ((unhide HRR).below (unhide hbl))
      go_wp2_with fail
      refine (l08Cost g off ms cap _ ls capl ((j : Int) + 1) now b2 rs capr _ (by omega) (by omega) hr8 (unhide HOK) (unhide HMr) (unhide HLr) (unhide HRr)).mono ?_
      rintro e w3 ⟨rfl, b3⟩
      have HB3 := hide ((unhide hbl).trans (b3.mono (unhide hbl).size))
      have HM3 := hide ((unhide HMr).below b3)
      have HL3 := hide ((unhide HLr).below b3)
      clear b3 HMr HLr HRr
      generalize costV (findT ms) ls ((j : Int) + 1) now rs ls.length = x1 at *
      go_wp2_with fail
      refine (l08All _ ls capl _ h8 (unhide HL3)).mono ?_
      rintro e w4 ⟨v4, rfl, b4, hl4⟩
      obtain ⟨a4, c4, rfl, l4⟩ := hl4
      rw [unhide HAL] at l4 ⊢
      have HB4 := hide ((unhide HB3).trans (b4.mono (unhide HB3).size))
      have HM4 := hide ((unhide HM3).below b4)
      have HL4 := hide ((unhide HL3).below b4)
      have HA4 := hide l4.rm
      clear b4 l4 HM3 HL3
      go_wp2_with fail
      refine (l08Cost g off ms cap _ ls capl ((j : Int) + 1) now a4 al c4 _ (by omega) (by omega) (by omega) (unhide HOK) (unhide HM4) (unhide HL4) (unhide HA4)).mono ?_
      rintro e w5 ⟨rfl, b5⟩
      have HB5 := hide ((unhide HB4).trans (b5.mono (unhide HB4).size))
      clear b5 HM4 HL4 HA4
      generalize costV (findT ms) ls ((j : Int) + 1) now al ls.length = x2 at *
      cases hx : (x1 != x2)
      · have HT : Hid (keepN (findT ms) ls me now rs (j + 1) = true) := hide (by rw [unhide HKS, unhide HKB, hx]; rfl)
        clear HKS HKN HKB
        go_wp2_with fail
        go_roundw
        case rel => exact ⟨j + 1, by omega, by go_num, HT, HB5⟩
        case measure => simp [intOf]; omega
      · have HT : Hid (KA = false) := hide (by rw [← unhide HKA]; exact unhide HKN (by rw [unhide HKB, hx]; rfl))
        clear HKS HKN HKB
        go_wp2_with fail
        go_ret2
        exact ⟨by rw [unhide HT]; rfl, unhide HB5⟩
    · obtain rfl : j = 8 := by omega
      have HT : Hid (KA = true) := hide (by rw [← unhide HKA]; exact unhide hkp)
      go_wp2_with fail
      go_ret2
      exact ⟨by rw [unhide HT]; rfl, unhide hbl⟩
end Mr
end Go.Proofs.Ytpknahhdapmcoao
