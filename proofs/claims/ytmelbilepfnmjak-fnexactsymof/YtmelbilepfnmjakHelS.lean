/-
  Contracts over hellos: the addresses of those that are symmetric (the program's and the model's).
-/
import Derived.Test.YtmelbilepfnmjakHelC
import Derived.Test.YtmelbilepfnmjakInts
namespace Go.Proofs.Ytmelbilepfnmjak
open Go.ChangeShapes Go.WideShapes Go.ChangeAt Go.RowKit
set_option linter.unusedVariables false
set_option linter.unusedSimpArgs false
attribute [local go_sem ↓] Go.wp_at_zero Go.wp_at_succ
namespace Hl
open W1 Nb
def isSym (m : R) : Bool := m.st == 2
def symN (ms : List R) (j : Nat) : List Int := ((ms.take j).filter isSym).map (·.ad)
def symA (x y : Int) (ms : List R) : List Int := if helB x y ms = true then symN ms ms.length else []
def symE (x y : Int) (ms : List R) : Int := if helB x y ms = true then 0 else 1
theorem symN_yes {ms : List R} {j : Nat} (h : j < ms.length) (hs : isSym (ms.getD j R.zero) = true) : symN ms (j + 1) = symN ms j ++ [(ms.getD j R.zero).ad] := by
  unfold symN
  rw [List.getD_eq_getElem?_getD, List.getElem?_eq_getElem h] at hs ⊢
  rw [List.take_add_one, List.getElem?_eq_getElem h, List.filter_append, List.map_append]
  simp only [Option.toList_some, Option.getD_some] at hs ⊢
  rw [List.filter_cons_of_pos hs]; rfl
theorem symN_no {ms : List R} {j : Nat} (h : j < ms.length) (hs : isSym (ms.getD j R.zero) = false) : symN ms (j + 1) = symN ms j := by
  unfold symN
  rw [List.getD_eq_getElem?_getD, List.getElem?_eq_getElem h] at hs
  rw [List.take_add_one, List.getElem?_eq_getElem h, List.filter_append, List.map_append]
  simp only [Option.toList_some, Option.getD_some] at hs ⊢
  rw [List.filter_cons_of_neg (by simp [hs])]; simp
theorem symN_len (ms : List R) (j : Nat) : (symN ms j).length ≤ j := by
  unfold symN; rw [List.length_map]
  have := List.length_filter_le isSym (ms.take j)
  rw [List.length_take] at this; omega
theorem sym_len (x y : Int) (ms : List R) : (symA x y ms).length ≤ ms.length := by
  unfold symA; split
  · exact symN_len _ _
  · exact Nat.zero_le _
set_option maxRecDepth 100000 in
set_option maxHeartbeats 4000000 in
theorem implSymOf (x y : Int) (a : Option Addr) (ms : List R) (cap : Nat) (w : World) (hm : ms.length ≤ 1048576) (hr : RM w a ms) :
    Calls Try.prog 31 #[.agg #[.int .i64 x, .int .i64 y, .slice a ms.length cap]] w fun e w' => ∃ v, e = .returned (.tuple #[v, .int .i64 (symE x y ms)]) ∧ Below w.heap.size w w' ∧ In.LstV w' v (symA x y ms) w.heap.size w'.heap.size := by
  have HA : Hid (Below w.heap.size w (w.alloc (.cells #[.int .i64 x, .int .i64 y, .slice a ms.length cap] 38))) := hide ((Below.refl _ _).alloc (Nat.le_refl _) _)
  have HX : Hid (Bx3 (w.alloc (.cells #[.int .i64 x, .int .i64 y, .slice a ms.length cap] 38)) w.heap.size x y (.slice a ms.length cap)) := hide (bx3_new w x y _ _)
  have HR := hide ((hr).below (unhide HA))
  clear hr
  cases hh : helB x y ms
  · have h1 : symA x y ms = [] := by unfold symA; rw [if_neg (by simp [hh])]
    have h2 : symE x y ms = 1 := by unfold symE; rw [if_neg (by simp [hh])]
    rw [h1, h2]
    have HH := hide hh
    clear h1 h2 hh
    go_enter Try.func31, Try.ntmps31
    go_wp2_with fail
    refine (implOK x y a ms cap _ hm (unhide HR)).mono ?_
    rintro e w1 ⟨rfl, b1⟩
    rw [unhide HH]
    have hb1 := hide ((unhide HA).trans (b1.mono (unhide HA).size))
    clear b1
    go_wp2_with fail
    go_ret2
    exact ⟨_, rfl, unhide hb1, In.lstV_nil _ _ _ _ _⟩
  have h1 : symA x y ms = symN ms ms.length := by unfold symA; rw [if_pos hh]
  have h2 : symE x y ms = 0 := by unfold symE; rw [if_pos hh]
  rw [h1, h2]
  have HH := hide hh
  have h8 := hel_len hh
  clear h1 h2 hh
  go_enter Try.func31, Try.ntmps31
  go_wp2_with fail
  refine (implOK x y a ms cap _ hm (unhide HR)).mono ?_
  rintro e w1 ⟨rfl, b1⟩
  rw [unhide HH]
  have hbx := ((unhide HX).below b1).2.2
  have HR1 := hide ((unhide HR).below b1)
  have hb1 := hide ((unhide HA).trans (b1.mono (unhide HA).size))
  clear b1 HX HR HA
  have O0 : Hid (w1.ownsRow w1.heap.size 3 1 (.slice none 0 0) (symN ms 0).length (In.flat (symN ms 0))) := hide (World.ownsRow_nil w1 w1.heap.size _ _)
  have P0 : Hid (Below w1.heap.size w1 w1) := hide (Below.refl _ _)
  generalize hN : ms.length = n at *
  have HN := hide hN
  clear hN
  go_wp2_with fail
  clear hbx
  go_loopw [4, 13] (fun v i wr => ∃ j : Nat, j ≤ n ∧ i = .int .i64 j ∧ Hid (wr.ownsRow w1.heap.size 3 1 v (symN ms j).length (In.flat (symN ms j))) ∧ Hid (Below w1.heap.size w1 wr)) (fun _ i _ => n - (intOf i).toNat)
  case atStart => exact ⟨0, by omega, rfl, O0, P0⟩
  case round =>
    obtain ⟨j, hj, rfl, how, hbl⟩ := hrel
    by_cases hlt : (j : Int) < (n : Int)
    · have k0 : (0 : Int) ≤ (j : Int) := by omega
      have hlen : j < ms.length := by rw [unhide HN]; omega
      obtain ⟨g, off, rfl⟩ := (unhide HR1).form (by omega)
      obtain ⟨c0, c1, c2, c3⟩ := ((unhide HR1).below (unhide hbl)).at hlen
      have hfl := symN_len ms j
      have hbs := (unhide hbl).size
      cases hs : isSym (ms.getD j R.zero)
      · have HTF := hide (symN_no hlen hs)
        have hne : ((ms.getD j R.zero).st == 2) = false := hs
        clear hs
        generalize ms.getD j R.zero = m at *
        have HBL := hide ((unhide hbl).alloc hbs (.cells #[.int .i64 m.ad, .int .i64 m.st, .int .i64 m.mt, .bool m.mp] 49))
        have HOW : Hid ((wr.alloc (.cells #[.int .i64 m.ad, .int .i64 m.st, .int .i64 m.mt, .bool m.mp] 49)).ownsRow w1.heap.size 3 1 u4 (symN ms (j + 1)).length (In.flat (symN ms (j + 1)))) := hide (by rw [unhide HTF]; exact (unhide how).alloc _)
        go_wp2_with fail
        go_roundw
        case rel => exact ⟨j + 1, by omega, by go_num, HOW, HBL⟩
        case measure => simp [intOf]; omega
      · have HTF := hide (symN_yes hlen hs)
        have hne : ((ms.getD j R.zero).st == 2) = true := hs
        clear hs
        generalize ms.getD j R.zero = m at *
        have HBL := hide ((unhide hbl).alloc hbs (.cells #[.int .i64 m.ad, .int .i64 m.st, .int .i64 m.mt, .bool m.mp] 49))
        have HOW := hide ((unhide how).alloc (.cells #[.int .i64 m.ad, .int .i64 m.st, .int .i64 m.mt, .bool m.mp] 49))
        have RN : Hid (In.RM ((wr.alloc (.cells #[.int .i64 m.ad, .int .i64 m.st, .int .i64 m.mt, .bool m.mp] 49)).alloc (.cells #[.int .i64 m.ad] 3)) (some ⟨wr.heap.size + 1, 0, none⟩) [m.ad]) := hide (by have := In.rm_new (wr.alloc (.cells #[.int .i64 m.ad, .int .i64 m.st, .int .i64 m.mt, .bool m.mp] 49)) m.ad; simp only [World.size_alloc] at this; exact this)
        go_wp2_with (at_builtin; refine In.wpList_apS ((unhide HOW).alloc _) (wr.heap.size + 1) 0 1 1 [m.ad] rfl (unhide RN) (by simp only [List.length_cons, List.length_nil]; omega) (by simp; omega) rfl _ _ rfl rfl rfl ?_; intro v' w' ho hg; have HO : Hid (w'.ownsRow w1.heap.size 3 1 v' (symN ms (j + 1)).length (In.flat (symN ms (j + 1)))) := hide (by rw [unhide HTF]; exact ho); have HB := hide (In.below_own ((unhide HBL).alloc (unhide HBL).size _) ((unhide HOW).alloc _) hg (Nat.le_refl _) (by simp; omega)); clear ho hg)
        go_roundw
        case rel => exact ⟨j + 1, by omega, by go_num, HO, HB⟩
        case measure => simp [intOf]; omega
    · obtain rfl : j = n := by omega
      have hl := (In.lst_own rfl (unhide how)).mono (unhide hb1).size (Nat.le_refl _)
      have ej : symN ms j = symN ms ms.length := by rw [unhide HN]
      rw [ej] at hl
      have HL := hide hl
      clear hl ej
      have HF := hide ((unhide hb1).trans ((unhide hbl).mono (unhide hb1).size))
      go_wp2_with fail
      go_ret2
      exact ⟨_, rfl, unhide HF, unhide HL⟩
set_option maxRecDepth 100000 in
set_option maxHeartbeats 4000000 in
theorem specSymOf (x y : Int) (a : Option Addr) (ms : List R) (cap : Nat) (w : World) (hm : ms.length ≤ 1048576) (hr : RM w a ms) :
    Calls Try.prog 30 #[.agg #[.int .i64 x, .int .i64 y, .slice a ms.length cap]] w fun e w' => ∃ v, e = .returned (.tuple #[v, .int .i64 (symE x y ms)]) ∧ Below w.heap.size w w' ∧ In.LstV w' v (symA x y ms) w.heap.size w'.heap.size := by
  have HA : Hid (Below w.heap.size w (w.alloc (.cells #[.int .i64 x, .int .i64 y, .slice a ms.length cap] 38))) := hide ((Below.refl _ _).alloc (Nat.le_refl _) _)
  have HX : Hid (Bx3 (w.alloc (.cells #[.int .i64 x, .int .i64 y, .slice a ms.length cap] 38)) w.heap.size x y (.slice a ms.length cap)) := hide (bx3_new w x y _ _)
  have HR := hide ((hr).below (unhide HA))
  clear hr
  cases hh : helB x y ms
  · have h1 : symA x y ms = [] := by unfold symA; rw [if_neg (by simp [hh])]
    have h2 : symE x y ms = 1 := by unfold symE; rw [if_neg (by simp [hh])]
    rw [h1, h2]
    have HH := hide hh
    clear h1 h2 hh
    go_enter Try.func30, Try.ntmps30
    go_wp2_with fail
    refine (specOK x y a ms cap _ hm (unhide HR)).mono ?_
    rintro e w1 ⟨rfl, b1⟩
    rw [unhide HH]
    have hb1 := hide ((unhide HA).trans (b1.mono (unhide HA).size))
    clear b1
    go_wp2_with fail
    go_ret2
    exact ⟨_, rfl, (unhide hb1).alloc (unhide hb1).size _, In.lstV_nil _ _ _ _ _⟩
  have h1 : symA x y ms = symN ms ms.length := by unfold symA; rw [if_pos hh]
  have h2 : symE x y ms = 0 := by unfold symE; rw [if_pos hh]
  rw [h1, h2]
  have HH := hide hh
  have h8 := hel_len hh
  clear h1 h2 hh
  go_enter Try.func30, Try.ntmps30
  go_wp2_with fail
  refine (specOK x y a ms cap _ hm (unhide HR)).mono ?_
  rintro e w1 ⟨rfl, b1⟩
  rw [unhide HH]
  have HX1 := hide ((unhide HX).below b1)
  have HR1 := hide ((unhide HR).below b1)
  have hb1 := hide ((unhide HA).trans (b1.mono (unhide HA).size))
  clear b1 HX HR HA
  have O0 := hide (In.own_empty w1 w1.heap.size (Nat.le_refl _))
  have P0 := hide ((Below.refl w1.heap.size w1).alloc (Nat.le_refl _) (.cells #[] 3))
  generalize hN : ms.length = n at *
  have HN := hide hN
  clear hN
  go_wp2_with fail
  go_loopw [4, 5] (fun v i wr => ∃ j : Nat, j ≤ n ∧ i = .int .i64 j ∧ Hid (wr.ownsRow w1.heap.size 3 1 v (symN ms j).length (In.flat (symN ms j))) ∧ Hid (Below w1.heap.size w1 wr)) (fun _ i _ => n - (intOf i).toNat)
  case atStart => exact ⟨0, by omega, rfl, O0, P0⟩
  case round =>
    obtain ⟨j, hj, rfl, how, hbl⟩ := hrel
    have hbx := ((unhide HX1).below (unhide hbl)).2.2
    by_cases hlt : (j : Int) < (n : Int)
    · have k0 : (0 : Int) ≤ (j : Int) := by omega
      have hlen : j < ms.length := by rw [unhide HN]; omega
      obtain ⟨g, off, rfl⟩ := (unhide HR1).form (by omega)
      obtain ⟨c0, c1, c2, c3⟩ := ((unhide HR1).below (unhide hbl)).at hlen
      have hfl := symN_len ms j
      have hbs := (unhide hbl).size
      cases hs : isSym (ms.getD j R.zero)
      · have HTF := hide (symN_no hlen hs)
        have hne : ((ms.getD j R.zero).st == 2) = false := hs
        clear hs
        generalize ms.getD j R.zero = m at *
        have HOW : Hid (wr.ownsRow w1.heap.size 3 1 u4 (symN ms (j + 1)).length (In.flat (symN ms (j + 1)))) := hide (by rw [unhide HTF]; exact unhide how)
        go_wp2_with fail
        go_roundw
        case rel => exact ⟨j + 1, by omega, by go_num, HOW, hbl⟩
        case measure => simp [intOf]; omega
      · have HTF := hide (symN_yes hlen hs)
        have hne : ((ms.getD j R.zero).st == 2) = true := hs
        clear hs
        generalize ms.getD j R.zero = m at *
        go_wp2_with (at_builtin; refine In.wpList_apS ((unhide how).alloc _) wr.heap.size 0 1 1 [m.ad] rfl (In.rm_new wr m.ad) (by simp only [List.length_cons, List.length_nil]; omega) (by simp; omega) rfl _ _ rfl rfl rfl ?_; intro v' w' ho hg; have HO : Hid (w'.ownsRow w1.heap.size 3 1 v' (symN ms (j + 1)).length (In.flat (symN ms (j + 1)))) := hide (by rw [unhide HTF]; exact ho); have HB := hide (In.below_own ((unhide hbl).alloc hbs _) ((unhide how).alloc _) hg (Nat.le_refl _) (by simp; omega)); clear ho hg)
        go_roundw
        case rel => exact ⟨j + 1, by omega, by go_num, HO, HB⟩
        case measure => simp [intOf]; omega
    · obtain rfl : j = n := by omega
      have hl := (In.lst_own rfl (unhide how)).mono (unhide hb1).size (Nat.le_refl _)
      have ej : symN ms j = symN ms ms.length := by rw [unhide HN]
      rw [ej] at hl
      have HL := hide hl
      clear hl ej
      have HF := hide ((unhide hb1).trans ((unhide hbl).mono (unhide hb1).size))
      go_wp2_with fail
      go_ret2
      exact ⟨_, rfl, unhide HF, unhide HL⟩
end Hl
end Go.Proofs.Ytmelbilepfnmjak
