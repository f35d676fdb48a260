/-
  Contracts: SetKeys, both.
-/
import Derived.Test.YtmelbilepfnmjajSetD
import Derived.Test.YtmelbilepfnmjajInts
namespace Go.Proofs.Ytmelbilepfnmjaj
open Go.ChangeShapes Go.WideShapes Go.ChangeAt Go.RowKit
set_option linter.unusedVariables false
set_option linter.unusedSimpArgs false
attribute [local go_sem ↓] Go.wp_at_zero Go.wp_at_succ
namespace St
open W1 Tu
def keysN (ms : List R) (j : Nat) : List Int := (ms.take j).map (·.key)
theorem keysN_succ (ms : List R) (j : Nat) (h : j < ms.length) : keysN ms (j + 1) = keysN ms j ++ [(ms.getD j R.zero).key] := by
  unfold keysN
  rw [List.take_add_one, List.getElem?_eq_getElem h, List.map_append, List.getD_eq_getElem?_getD, List.getElem?_eq_getElem h]; rfl
theorem keysN_len (ms : List R) (j : Nat) : (keysN ms j).length ≤ j := by
  unfold keysN; rw [List.length_map, List.length_take]; omega
theorem keysN_all (ms : List R) (n : Nat) (h : ms.length = n) : keysN ms n = ms.map (·.key) := by
  unfold keysN; rw [List.take_of_length_le (by omega)]
theorem keys_len (ms : List R) : (keysA ms).length ≤ ms.length := by
  unfold keysA; split
  · rw [List.length_map]; exact Nat.le_refl _
  · exact Nat.zero_le _
set_option maxHeartbeats 2000000 in
theorem l03Keys (a : Option Addr) (ms : List R) (cap : Nat) (w : World) (hm : ms.length ≤ 4096) (hr : RM w a ms) :
    Calls Try.prog 42 #[.slice a ms.length cap] w fun e w' => ∃ v, e = .returned v ∧ Below w.heap.size w w' ∧ In.LstV w' v (ms.map (·.key)) w.heap.size w'.heap.size := by
  have HR := hide hr
  clear hr
  have O0 := hide (In.own_empty w w.heap.size (Nat.le_refl _))
  generalize hN : ms.length = n at *
  have HN := hide hN
  clear hN
  go_enter Try.func42, Try.ntmps42
  go_wp2
  go_loopw [3, 4] (fun v i wr => ∃ j : Nat, j ≤ n ∧ i = .int .i64 j ∧ Hid (wr.ownsRow w.heap.size 3 1 v (keysN ms j).length (In.flat (keysN ms j))) ∧ Hid (Below w.heap.size w wr)) (fun _ i _ => n - (intOf i).toNat)
  case atStart => exact ⟨0, by omega, rfl, O0, hide ((Below.refl _ _).alloc (Nat.le_refl _) _)⟩
  case round =>
    obtain ⟨j, hj, rfl, how, hbl⟩ := hrel
    by_cases hlt : (j : Int) < (n : Int)
    · have k0 : (0 : Int) ≤ (j : Int) := by omega
      have hlen : j < ms.length := by rw [unhide HN]; omega
      obtain ⟨g, off, rfl⟩ := (unhide HR).form (by omega)
      obtain ⟨c0, c1, c2⟩ := ((unhide HR).below (unhide hbl)).at hlen
      have HTF := hide (keysN_succ ms j hlen)
      have hfl := keysN_len ms j
      have hbs := (unhide hbl).size
      generalize ms.getD j R.zero = m at *
      go_wp2_with (at_builtin; refine In.wpList_apS ((unhide how).alloc _) wr.heap.size 0 1 1 [m.key] rfl (In.rm_new wr m.key) (by simp only [List.length_cons, List.length_nil]; omega) (by simp; omega) rfl _ _ rfl rfl rfl ?_; intro v' w' ho hg; have HO : Hid (w'.ownsRow w.heap.size 3 1 v' (keysN ms (j + 1)).length (In.flat (keysN ms (j + 1)))) := hide (by rw [unhide HTF]; exact ho); have HB := hide (In.below_own ((unhide hbl).alloc hbs _) ((unhide how).alloc _) hg (Nat.le_refl _) (by simp; omega)); clear ho hg)
      go_roundw
      case rel => exact ⟨j + 1, by omega, by go_num, HO, HB⟩
      case measure => simp [intOf]; omega
    · obtain rfl : j = n := by omega
      have hl := In.lst_own rfl (unhide how)
      rw [keysN_all ms j (unhide HN)] at hl
      have HL := hide hl
      clear hl
      go_wp2_with fail
      go_ret
      exact ⟨_, rfl, unhide hbl, unhide HL⟩
set_option maxHeartbeats 2000000 in
theorem specKeys (g off : Nat) (ms : List R) (cap : Nat) (w : World) (hm : ms.length ≤ 1048576) (hr : RM w (some ⟨g, off, none⟩) ms) :
    Calls Try.prog 24 #[.slice (some ⟨g, off, none⟩) ms.length cap] w fun e w' => ∃ v, e = .returned (.tuple #[v, .int .i64 (codeS ms)]) ∧ Below w.heap.size w w' ∧ In.LstV w' v (keysA ms) w.heap.size w'.heap.size := by
  have HR := hide hr
  clear hr
  by_cases hbig : (4096 : Int) < ms.length
  · have hc := code_long (ms := ms) (by omega)
    have h1 : keysA ms = [] := by unfold keysA; rw [if_neg (by rw [hc]; omega)]
    rw [h1, hc]
    clear h1 hc
    go_enter Try.func24, Try.ntmps24
    go_wp2_with fail
    go_ret2
    exact ⟨_, rfl, (Below.refl _ _).alloc (Nat.le_refl _) _, In.lstV_nil _ _ _ _ _⟩
  have hsm : ms.length ≤ 4096 := by omega
  cases hs : setB ms
  · have hc := code_bad (by omega) hs
    have h1 : keysA ms = [] := by unfold keysA; rw [if_neg (by rw [hc]; omega)]
    rw [h1, hc]
    have HS := hide hs
    clear h1 hc hs
    go_enter Try.func24, Try.ntmps24
    go_wp2_with fail
    refine (specOK _ ms cap _ hm (unhide HR)).mono ?_
    rintro e w1 ⟨rfl, b1⟩
    rw [unhide HS]
    have hb1 := hide b1
    clear b1
    go_wp2_with fail
    go_ret2
    exact ⟨_, rfl, (unhide hb1).alloc (unhide hb1).size _, In.lstV_nil _ _ _ _ _⟩
  have hc := code_zero hs
  have h1 : keysA ms = ms.map (·.key) := by unfold keysA; rw [if_pos hc]
  rw [h1, hc]
  have HS := hide hs
  clear h1 hc hs
  go_enter Try.func24, Try.ntmps24
  go_wp2_with fail
  refine (specOK _ ms cap _ hm (unhide HR)).mono ?_
  rintro e w1 ⟨rfl, b1⟩
  rw [unhide HS]
  have hb1 := hide b1
  clear b1
  go_wp2_with fail
  refine (l03Keys _ ms cap _ hsm ((unhide HR).below (unhide hb1))).mono ?_
  rintro e w2 ⟨v, rfl, b2, hl⟩
  have hb2 := hide ((unhide hb1).trans (b2.mono (unhide hb1).size))
  have HL := hide (hl.mono (unhide hb1).size (Nat.le_refl _))
  clear b2 hl
  go_wp2_with fail
  go_ret2
  exact ⟨_, rfl, unhide hb2, unhide HL⟩
set_option maxHeartbeats 2000000 in
theorem implKeys (g off : Nat) (ms : List R) (cap : Nat) (w : World) (hm : ms.length ≤ 1048576) (hr : RM w (some ⟨g, off, none⟩) ms) :
    Calls Try.prog 25 #[.slice (some ⟨g, off, none⟩) ms.length cap] w fun e w' => ∃ v, e = .returned (.tuple #[v, .int .i64 (codeS ms)]) ∧ Below w.heap.size w w' ∧ In.LstV w' v (keysA ms) w.heap.size w'.heap.size := by
  have HR := hide hr
  clear hr
  by_cases hc : codeS ms = 0
  rotate_left
  · have h1 : keysA ms = [] := by unfold keysA; rw [if_neg hc]
    rw [h1]
    have hcb : (codeS ms == 0) = false := by simpa using hc
    clear h1
    go_enter Try.func25, Try.ntmps25
    go_wp2_with fail
    refine (setCode _ ms cap _ hm (unhide HR)).mono ?_
    rintro e w1 ⟨rfl, b1⟩
    have hb1 := hide b1
    clear b1
    go_wp2_with fail
    go_ret2
    exact ⟨_, rfl, unhide hb1, In.lstV_nil _ _ _ _ _⟩
  have h1 : keysA ms = ms.map (·.key) := by unfold keysA; rw [if_pos hc]
  rw [h1, hc]
  have HC := hide hc
  have h64 := setB_len (code_set hc)
  clear h1 hc
  obtain ⟨i0, hi, hz0, hz1, hz2⟩ := In.infoI
  generalize hN : ms.length = n at *
  have HN := hide hN
  clear hN
  go_enter Try.func25, Try.ntmps25
  go_wp2_with fail
  refine (by have := setCode (some ⟨g, off, none⟩) ms cap w (by rw [unhide HN]; exact hm) (unhide HR); rw [unhide HN, unhide HC] at this; exact this : Calls Try.prog 34 #[.slice (some ⟨g, off, none⟩) n cap] w _).mono ?_
  rintro e w1 ⟨rfl, b1⟩
  have hb1 := hide b1
  have hmk := run_make (P := Try.prog) w1 40 3 i0 (.int .i64 0) Try.underlying40 hi hz0 .i64 .i64 0 (n : Int) (by omega) (by omega) (by rw [hz2]; omega) (by omega)
  rw [hz1, Nat.mul_one, Int.toNat_natCast] at hmk
  have hcs : (madeCells (Value.int .i64 0).cells n).size = n * 1 := by rw [size_madeCells]; omega
  have O0 := hide (World.ownsRow_made (base := w.heap.size) (e := 3) (size := 1) w1 (madeCells (Value.int .i64 0).cells n) n b1.size (by unfold maxLen; omega) hcs)
  have HB0 := hide (b1.alloc b1.size (.cells (madeCells (Value.int .i64 0).cells n) 3))
  generalize madeCells (Value.int .i64 0).cells n = cs at *
  clear b1 hcs hi hz0 hz1 hz2
  go_wp2_with fail
  go_loopw [5, 18] (fun v i wr => ∃ j : Nat, j ≤ n ∧ i = .int .i64 j ∧ Hid (wr.ownsRow w.heap.size 3 1 v (keysN ms j).length (In.flat (keysN ms j))) ∧ Hid (Below w.heap.size w wr)) (fun _ i _ => n - (intOf i).toNat)
  case atStart => exact ⟨0, by omega, rfl, O0, HB0⟩
  case round =>
    obtain ⟨j, hj, rfl, how, hbl⟩ := hrel
    clear hmk
    by_cases hlt : (j : Int) < (n : Int)
    · have k0 : (0 : Int) ≤ (j : Int) := by omega
      have hlen : j < ms.length := by rw [unhide HN]; omega
      obtain ⟨c0, c1, c2⟩ := ((unhide HR).below (unhide hbl)).at hlen
      have HTF := hide (keysN_succ ms j hlen)
      have hfl := keysN_len ms j
      have hbs := (unhide hbl).size
      generalize ms.getD j R.zero = m at *
      have HBL := hide ((unhide hbl).alloc hbs (.cells #[.int .i64 m.key, .int .i64 m.til, .int .i64 m.val] 30))
      have HOW := hide ((unhide how).alloc (.cells #[.int .i64 m.key, .int .i64 m.til, .int .i64 m.val] 30))
      have RN : Hid (In.RM ((wr.alloc (.cells #[.int .i64 m.key, .int .i64 m.til, .int .i64 m.val] 30)).alloc (.cells #[.int .i64 m.key] 3)) (some ⟨wr.heap.size + 1, 0, none⟩) [m.key]) := hide (by have := In.rm_new (wr.alloc (.cells #[.int .i64 m.key, .int .i64 m.til, .int .i64 m.val] 30)) m.key; simp only [World.size_alloc] at this; exact this)
      go_wp2_with (at_builtin; refine In.wpList_apS ((unhide HOW).alloc _) (wr.heap.size + 1) 0 1 1 [m.key] rfl (unhide RN) (by simp only [List.length_cons, List.length_nil]; omega) (by simp; omega) rfl _ _ rfl rfl rfl ?_; intro v' w' ho hg; have HO : Hid (w'.ownsRow w.heap.size 3 1 v' (keysN ms (j + 1)).length (In.flat (keysN ms (j + 1)))) := hide (by rw [unhide HTF]; exact ho); have HB := hide (In.below_own ((unhide HBL).alloc (unhide HBL).size _) ((unhide HOW).alloc _) hg (Nat.le_refl _) (by simp; omega)); clear ho hg)
      go_roundw
      case rel => exact ⟨j + 1, by omega, by go_num, HO, HB⟩
      case measure => simp [intOf]; omega
    · obtain rfl : j = n := by omega
      have hl := In.lst_own rfl (unhide how)
      rw [keysN_all ms j (unhide HN)] at hl
      have HL := hide hl
      clear hl
      go_wp2_with fail
      go_ret2
      exact ⟨_, rfl, unhide hbl, unhide HL⟩
end St
end Go.Proofs.Ytmelbilepfnmjaj
