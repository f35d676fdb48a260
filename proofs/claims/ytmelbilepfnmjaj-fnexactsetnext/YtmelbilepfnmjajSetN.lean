/-
  Contracts: SetNext, both.
-/
import Derived.Test.YtmelbilepfnmjajSetD
namespace Go.Proofs.Ytmelbilepfnmjaj
open Go.ChangeShapes Go.WideShapes Go.ChangeAt Go.RowKit
set_option linter.unusedVariables false
set_option linter.unusedSimpArgs false
attribute [local go_sem ↓] Go.wp_at_zero Go.wp_at_succ
namespace St
open W1 Tu
/-- The least time among the first j, the first one's at the least. -/
def leastN (ms : List R) (j : Nat) : Int := ((ms.take j).drop 1).foldl (fun n x => min n x.til) (ms.getD 0 R.zero).til
theorem least_one (ms : List R) : leastN ms 1 = (ms.getD 0 R.zero).til := by
  unfold leastN
  rw [List.drop_eq_nil_of_le (by have := List.length_take_le 1 ms; omega)]; rfl
theorem least_succ (ms : List R) (j : Nat) (h1 : 1 ≤ j) (h : j < ms.length) : leastN ms (j + 1) = min (leastN ms j) (ms.getD j R.zero).til := by
  unfold leastN
  rw [List.take_add_one, List.getElem?_eq_getElem h, List.drop_append_of_le_length (by rw [List.length_take]; omega), List.foldl_append, List.getD_eq_getElem?_getD (i := j), List.getElem?_eq_getElem h]
  rfl
theorem least_all (ms : List R) (h : 0 < ms.length) : leastN ms ms.length = nextN ms := by
  unfold leastN
  cases ms with
  | nil => simp at h
  | cons m t => simp [nextN]
set_option maxHeartbeats 2000000 in
theorem specNext (g off : Nat) (ms : List R) (cap : Nat) (w : World) (hm : ms.length ≤ 1048576) (hr : RM w (some ⟨g, off, none⟩) ms) :
    Calls Try.prog 29 #[.slice (some ⟨g, off, none⟩) ms.length cap] w fun e w' => e = .returned (.tuple #[.int .i64 (nextA ms), .int .i64 (nextE ms)]) ∧ Below w.heap.size w w' := by
  have HR := hide hr
  clear hr
  by_cases hbig : (4096 : Int) < ms.length
  · have hc := code_long (ms := ms) (by omega)
    have h1 : nextA ms = 0 := by unfold nextA; rw [if_neg (by rw [hc]; omega)]
    have h2 : nextE ms = 2 := by unfold nextE; rw [if_neg (by rw [hc]; omega), hc]
    rw [h1, h2]
    clear h1 h2 hc
    go_enter Try.func29, Try.ntmps29
    go_wp2_with fail
    go_ret2
    exact ⟨rfl, Below.refl _ _⟩
  cases hs : setB ms
  · have hc := code_bad (by omega) hs
    have h1 : nextA ms = 0 := by unfold nextA; rw [if_neg (by rw [hc]; omega)]
    have h2 : nextE ms = 1 := by unfold nextE; rw [if_neg (by rw [hc]; omega), hc]
    rw [h1, h2]
    have HS := hide hs
    clear h1 h2 hc hs
    go_enter Try.func29, Try.ntmps29
    go_wp2_with fail
    refine (specOK _ ms cap _ hm (unhide HR)).mono ?_
    rintro e w1 ⟨rfl, b1⟩
    rw [unhide HS]
    go_wp2_with fail
    go_ret2
    exact ⟨rfl, b1⟩
  have hc := code_zero hs
  have HS := hide hs
  have h64 := setB_len hs
  by_cases h0 : ms.length = 0
  · obtain rfl := List.eq_nil_of_length_eq_zero h0
    have h1 : nextA [] = 0 := by unfold nextA nextN; simp
    have h2 : nextE [] = 5 := by unfold nextE; rw [if_pos hc, if_pos h0]
    rw [h1, h2]
    clear h1 h2 hc hs
    go_enter Try.func29, Try.ntmps29
    go_wp2_with fail
    refine (specOK (some ⟨g, off, none⟩) [] cap w (by simp) (.inl rfl)).mono ?_
    rintro e w1 ⟨rfl, b1⟩
    rw [unhide HS]
    go_wp2_with fail
    go_ret2
    exact ⟨rfl, b1⟩
  have h1 : nextA ms = leastN ms ms.length := by unfold nextA; rw [if_pos hc, least_all _ (by omega)]
  have h2 : nextE ms = 0 := by unfold nextE; rw [if_pos hc, if_neg h0]
  rw [h1, h2]
  clear h1 h2 hc hs
  generalize hN : ms.length = n at *
  have HN := hide hN
  clear hN
  have hn0 : (0 : Int) < (n : Int) := by omega
  have hn1 : 0 < n := by omega
  have hnb : ((n : Int) == 0) = false := by simp; omega
  have hA0 : Hid (∀ W, RM W (some ⟨g, off, none⟩) ms → W.cell? ⟨g, off + 1, none⟩ = some (.int .i64 (ms.getD 0 R.zero).til)) := hide (fun W h => by have := (h.at (i := 0) (by rw [unhide HN]; exact hn1)).2.1; rw [Nat.zero_mul, Nat.add_zero] at this; exact this)
  go_enter Try.func29, Try.ntmps29
  go_wp2_with fail
  refine (by have := specOK (some ⟨g, off, none⟩) ms cap w (by rw [unhide HN]; exact hm) (unhide HR); rw [unhide HN, unhide HS] at this; exact this : Calls Try.prog 31 #[.slice (some ⟨g, off, none⟩) n cap] w _).mono ?_
  rintro e w1 ⟨rfl, b1⟩
  have hb1 := hide b1
  have HR1 := hide ((unhide HR).below b1)
  have c1 := unhide hA0 w1 (unhide HR1)
  have HL0 := hide (least_one ms)
  generalize hz : (ms.getD 0 R.zero).til = z at *
  clear b1 hz
  go_wp2_with fail
  go_loopw [4, 5] (fun q i wr => wr = w1 ∧ ∃ j : Nat, 1 ≤ j ∧ j ≤ n ∧ i = .int .i64 j ∧ ∃ y : Int, q = .int .i64 y ∧ Hid (leastN ms j = y)) (fun _ i _ => n - (intOf i).toNat)
  case atStart => exact ⟨rfl, 1, by omega, by omega, rfl, z, rfl, HL0⟩
  case round =>
    obtain ⟨rfl, j, hj1, hj, rfl, y, rfl, hy⟩ := hrel
    clear c1
    by_cases hlt : (j : Int) < (n : Int)
    · have k0 : (0 : Int) ≤ (j : Int) := by omega
      have hlen : j < ms.length := by rw [unhide HN]; omega
      have c1 := ((unhide HR1).at hlen).2.1
      have HST := hide (least_succ ms j hj1 hlen)
      generalize (ms.getD j R.zero).til = x at *
      by_cases hyx : y ≤ x
      · have hz : Hid (leastN ms (j + 1) = y) := hide (by rw [unhide HST, unhide hy]; omega)
        have e1 : min y x = y := by omega
        have e2 : ¬ x < y := by omega
        go_wp2_with fail
        go_roundw
        case rel => exact ⟨by first | trivial | rfl, j + 1, by omega, by omega, by go_num, y, by first | rfl | simp [e1], hz⟩
        case measure => simp [intOf]; omega
      · have hz : Hid (leastN ms (j + 1) = x) := hide (by rw [unhide HST, unhide hy]; omega)
        have e1 : min y x = x := by omega
        have e2 : x < y := by omega
        go_wp2_with fail
        go_roundw
        case rel => exact ⟨by first | trivial | rfl, j + 1, by omega, by omega, by go_num, x, by first | rfl | simp [e1], hz⟩
        case measure => simp [intOf]; omega
    · obtain rfl : j = n := by omega
      go_wp2_with fail
      go_ret2
      rw [unhide hy]
      exact ⟨rfl, unhide hb1⟩
theorem least_max (ms : List R) (j : Nat) (h : j < ms.length) : leastN ms (max (j + 1) 1) = min (leastN ms (max j 1)) (ms.getD j R.zero).til := by
  cases j with
  | zero => rw [show max (0 + 1) 1 = 1 from rfl, show max 0 1 = 1 from rfl, least_one]; omega
  | succ j => rw [show max (j + 1 + 1) 1 = (j + 1) + 1 by omega, show max (j + 1) 1 = j + 1 by omega]; exact least_succ ms (j + 1) (by omega) h
set_option maxHeartbeats 2000000 in
theorem implNext (g off : Nat) (ms : List R) (cap : Nat) (w : World) (hm : ms.length ≤ 1048576) (hr : RM w (some ⟨g, off, none⟩) ms) :
    Calls Try.prog 30 #[.slice (some ⟨g, off, none⟩) ms.length cap] w fun e w' => e = .returned (.tuple #[.int .i64 (nextA ms), .int .i64 (nextE ms)]) ∧ Below w.heap.size w w' := by
  have HR := hide hr
  clear hr
  by_cases hc : codeS ms = 0
  rotate_left
  · have h1 : nextA ms = 0 := by unfold nextA; rw [if_neg hc]
    have h2 : nextE ms = codeS ms := by unfold nextE; rw [if_neg hc]
    rw [h1, h2]
    have hcb : (codeS ms == 0) = false := by simpa using hc
    clear h1 h2
    go_enter Try.func30, Try.ntmps30
    go_wp2_with fail
    refine (setCode _ ms _ _ hm (unhide HR)).mono ?_
    rintro e w1 ⟨rfl, b1⟩
    go_wp2_with fail
    go_ret2
    exact ⟨rfl, b1⟩
  have HC := hide hc
  have h64 := setB_len (code_set hc)
  by_cases h0 : ms.length = 0
  · obtain rfl := List.eq_nil_of_length_eq_zero h0
    have h1 : nextA [] = 0 := by unfold nextA nextN; simp
    have h2 : nextE [] = 5 := by unfold nextE; rw [if_pos hc, if_pos h0]
    rw [h1, h2]
    clear h1 h2 hc
    go_enter Try.func30, Try.ntmps30
    go_wp2_with fail
    refine (setCode (some ⟨g, off, none⟩) [] cap w (by simp) (.inl rfl)).mono ?_
    rintro e w1 ⟨rfl, b1⟩
    rw [unhide HC]
    go_wp2_with fail
    go_ret2
    exact ⟨rfl, b1⟩
  have h1 : nextA ms = leastN ms (max ms.length 1) := by unfold nextA; rw [if_pos hc, show max ms.length 1 = ms.length by omega, least_all _ (by omega)]
  have h2 : nextE ms = 0 := by unfold nextE; rw [if_pos hc, if_neg h0]
  rw [h1, h2]
  clear h1 h2 hc
  generalize hN : ms.length = n at *
  have HN := hide hN
  clear hN
  have hn0 : (0 : Int) < (n : Int) := by omega
  have hn1 : 0 < n := by omega
  have hnb : ((n : Int) == 0) = false := by simp; omega
  have hA0 : Hid (∀ W, RM W (some ⟨g, off, none⟩) ms → W.cell? ⟨g, off + 1, none⟩ = some (.int .i64 (ms.getD 0 R.zero).til)) := hide (fun W h => by have := (h.at (i := 0) (by rw [unhide HN]; exact hn1)).2.1; rw [Nat.zero_mul, Nat.add_zero] at this; exact this)
  go_enter Try.func30, Try.ntmps30
  go_wp2_with fail
  refine (by have := setCode (some ⟨g, off, none⟩) ms cap w (by rw [unhide HN]; exact hm) (unhide HR); rw [unhide HN, unhide HC] at this; exact this : Calls Try.prog 34 #[.slice (some ⟨g, off, none⟩) n cap] w _).mono ?_
  rintro e w1 ⟨rfl, b1⟩
  have hb1 := hide b1
  have c1 := unhide hA0 w1 ((unhide HR).below b1)
  have HL0 := hide (least_one ms)
  generalize hz : (ms.getD 0 R.zero).til = z at *
  clear b1 hz
  go_wp2_with fail
  go_loopw [5, 22] (fun q i wr => ∃ j : Nat, j ≤ n ∧ i = .int .i64 j ∧ Hid (Below w.heap.size w wr) ∧ ∃ y : Int, q = .int .i64 y ∧ Hid (leastN ms (max j 1) = y)) (fun _ i _ => n - (intOf i).toNat)
  case atStart => exact ⟨0, by omega, rfl, hb1, z, rfl, HL0⟩
  case round =>
    obtain ⟨j, hj, rfl, hbl, y, rfl, hy⟩ := hrel
    clear c1
    by_cases hlt : (j : Int) < (n : Int)
    · have k0 : (0 : Int) ≤ (j : Int) := by omega
      have hlen : j < ms.length := by rw [unhide HN]; omega
      obtain ⟨c0, c1, c2⟩ := ((unhide HR).below (unhide hbl)).at hlen
      have HST := hide (least_max ms j hlen)
      have hbs := (unhide hbl).size
      generalize ms.getD j R.zero = m at *
      have HB := hide ((unhide hbl).alloc hbs (.cells #[.int .i64 m.key, .int .i64 m.til, .int .i64 m.val] 30))
      by_cases hyx : y ≤ m.til
      · have hz : Hid (leastN ms (max (j + 1) 1) = y) := hide (by rw [unhide HST, unhide hy]; omega)
        have e1 : min y m.til = y := by omega
        have e2 : ¬ m.til < y := by omega
        go_wp2_with fail
        go_roundw
        case rel => exact ⟨j + 1, by omega, by go_num, HB, y, by first | rfl | simp [e1], hz⟩
        case measure => simp [intOf]; omega
      · have hz : Hid (leastN ms (max (j + 1) 1) = m.til) := hide (by rw [unhide HST, unhide hy]; omega)
        have e1 : min y m.til = m.til := by omega
        have e2 : m.til < y := by omega
        go_wp2_with fail
        go_roundw
        case rel => exact ⟨j + 1, by omega, by go_num, HB, m.til, by first | rfl | simp [e1], hz⟩
        case measure => simp [intOf]; omega
    · obtain rfl : j = n := by omega
      go_wp2_with fail
      go_ret2
      rw [unhide hy]
      exact ⟨rfl, unhide hbl⟩
end St
end Go.Proofs.Ytmelbilepfnmjaj
