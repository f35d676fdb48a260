/-
  Whether a graph is right: the program's and the model's GraphOK, and the code of a graph and an address.
-/
import Derived.Test.YtjhhhmdhdnmejaaTwoI
import Derived.Test.YtjhhhmdhdnmejaaTwoC
import Derived.Test.YtjhhhmdhdnmejaaWysM
namespace Go.Proofs.Ytjhhhmdhdnmejaa
open Go.ChangeShapes Go.WideShapes Go.ChangeAt Go.RowKit
set_option linter.unusedVariables false
set_option linter.unusedSimpArgs false
set_option maxRecDepth 100000
attribute [local go_sem ↓] Go.wp_at_zero Go.wp_at_succ
namespace Wd
open W1 Tu St Tw
/-- The first j values are from 1 on; whether a graph is right; the code of one and an address. -/
def posJ (g : List Tu.R) (j : Nat) : Bool := (g.take j).all (fun m => decide (1 ≤ m.val))
def graphB (g : List Tu.R) : Bool := twoB g && posJ g g.length
def codeG (g : List Tu.R) (f : Int) : Int := if 4096 < (g.length : Int) then 2 else if graphB g = true then (if inB f 1 8 = true then 0 else 4) else 1
theorem pos_zero (g : List Tu.R) : posJ g 0 = true := rfl
theorem pos_succ {g : List Tu.R} {j : Nat} (hj : j < g.length) (h : posJ g j = true) (hk : 1 ≤ (g.getD j Tu.R.zero).val) : posJ g (j + 1) = true := by
  unfold posJ at *; rw [take_one hj, List.all_append, h, Bool.true_and, List.all_cons, decide_eq_true hk]; rfl
theorem pos_no {g : List Tu.R} {j : Nat} (hj : j < g.length) (hk : (g.getD j Tu.R.zero).val < 1) : graphB g = false := by
  have : posJ g g.length = false := by
    unfold posJ; rw [List.take_length, List.all_eq_false]
    exact ⟨_, getD_mem hj, by show ¬ decide (1 ≤ (g.getD j Tu.R.zero).val) = true; rw [decide_eq_false (by omega)]; simp⟩
  unfold graphB; rw [this, Bool.and_false]
theorem graph_two {g : List Tu.R} (h : graphB g = true) : twoB g = true := by unfold graphB at h; rw [Bool.and_eq_true] at h; exact h.1
theorem graph_pos {g : List Tu.R} (h : graphB g = true) : Pos g := by
  unfold graphB at h; rw [Bool.and_eq_true] at h
  intro m hm
  have := h.2
  unfold posJ at this
  rw [List.take_length] at this
  simpa using List.all_eq_true.1 this m hm
theorem graph_of {g : List Tu.R} (h : twoB g = true) (hp : Pos g) : graphB g = true := by
  unfold graphB posJ; rw [h, List.take_length, Bool.true_and]
  exact List.all_eq_true.2 (fun m hm => decide_eq_true (hp m hm))
theorem codeG_long {g : List Tu.R} {f : Int} (h : 4096 < (g.length : Int)) : codeG g f = 2 := by unfold codeG; rw [if_pos h]
theorem codeG_bad {g : List Tu.R} {f : Int} (h : ¬ 4096 < (g.length : Int)) (hg : graphB g = false) : codeG g f = 1 := by unfold codeG; rw [if_neg h, if_neg (by rw [hg]; simp)]
theorem codeG_range {g : List Tu.R} {f : Int} (h : ¬ 4096 < (g.length : Int)) (hg : graphB g = true) (hf : inB f 1 8 = false) : codeG g f = 4 := by unfold codeG; rw [if_neg h, if_pos hg, if_neg (by rw [hf]; simp)]
theorem codeG_zero {g : List Tu.R} {f : Int} (hg : graphB g = true) (hf : inB f 1 8 = true) : codeG g f = 0 := by
  have := two_len (graph_two hg); unfold codeG; rw [if_neg (by omega), if_pos hg, if_pos hf]
theorem codeG_ok {g : List Tu.R} {f : Int} (h : codeG g f = 0) : graphB g = true ∧ 1 ≤ f ∧ f ≤ 8 := by
  unfold codeG at h
  split at h
  · omega
  · split at h
    · split at h
      · refine ⟨by assumption, ?_⟩; rename_i hf; simpa [inB] using hf
      · omega
    · omega
theorem ed_rng {g : List Tu.R} (h : twoB g = true) {u v c : Int} (he : Ed g u v c) : (1 ≤ u ∧ u ≤ 8) ∧ (1 ≤ v ∧ v ≤ 8) ∧ u ≠ v ∧ 0 ≤ c ∧ c ≤ 1073741824 := by
  obtain ⟨m, hm, rfl, rfl, rfl⟩ := he
  have hk := ok_k (two_ok h m hm)
  obtain ⟨i, hi, rfl⟩ := List.getElem_of_mem hm
  have hb := ok_bounds (setB_ok (two_set h) hi)
  rw [show g.getD i Tu.R.zero = g[i] by rw [List.getD_eq_getElem?_getD, List.getElem?_eq_getElem hi]; rfl] at hb
  exact ⟨hk.1, hk.2.1, hk.2.2, by omega⟩
set_option maxHeartbeats 4000000 in
theorem implGraphOK (a : Option Addr) (ms : List Tu.R) (cap : Nat) (w : World) (hm : ms.length ≤ 1048576) (hr : Tu.RM w a ms) :
    Calls Try.prog 21 #[.slice a ms.length cap] w fun e w' => e = .returned (.bool (graphB ms)) ∧ Below w.heap.size w w' := by
  have HR := hide hr
  clear hr
  cases hs : twoB ms
  · rw [show graphB ms = false by unfold graphB; rw [hs]; rfl]
    have HS := hide hs
    clear hs
    go_enter Try.func21, Try.ntmps21
    go_wp2_with fail
    refine (areHops _ ms cap _ hm (unhide HR)).mono ?_
    rintro e w1 ⟨rfl, b1⟩
    rw [unhide HS]
    have HB := hide b1
    clear b1
    go_wp2_with fail
    go_ret
    exact ⟨rfl, unhide HB⟩
  have HS := hide hs
  clear hs
  obtain ⟨G, hG⟩ : ∃ G, graphB ms = G := ⟨_, rfl⟩
  have HG := hide hG
  rw [hG]
  clear hG
  generalize hN : ms.length = n at *
  have HN := hide hN
  clear hN
  go_enter Try.func21, Try.ntmps21
  go_wp2_with fail
  rw [← unhide HN]
  refine (areHops _ ms cap _ (by have := unhide HN; omega) (unhide HR)).mono ?_
  rintro e w1 ⟨rfl, b1⟩
  rw [unhide HS]
  have HB1 := hide b1
  clear b1
  go_wp2_with fail
  rw [unhide HN]
  go_loopw [10] (fun i wr => ∃ j : Nat, j ≤ n ∧ i = .int .i64 j ∧ Hid (posJ ms j = true) ∧ Hid (Below w.heap.size w wr)) (fun i _ => n - (intOf i).toNat)
  case atStart => exact ⟨0, by omega, rfl, hide (pos_zero ms), HB1⟩
  case round =>
    obtain ⟨j, hj, rfl, hkb, hbl⟩ := hrel
    by_cases hlt : (j : Int) < (n : Int)
    · have k0 : (0 : Int) ≤ (j : Int) := by omega
      have hlen : j < ms.length := by rw [unhide HN]; omega
      obtain ⟨g, off, rfl⟩ := (unhide HR).form (by omega)
      obtain ⟨c0, c1, c2⟩ := ((unhide HR).below (unhide hbl)).at hlen
      have hbs := (unhide hbl).size
      have HY : Hid (1 ≤ (ms.getD j Tu.R.zero).val → posJ ms (j + 1) = true) := hide (fun h => pos_succ hlen (unhide hkb) h)
      have HZ : Hid ((ms.getD j Tu.R.zero).val < 1 → G = false) := hide (fun h => by rw [← unhide HG]; exact pos_no hlen h)
      generalize ms.getD j Tu.R.zero = m at *
      obtain ⟨key, til, val⟩ := m
      dsimp only at c0 c1 c2 HY HZ
      have HBA := hide ((unhide hbl).alloc hbs (.cells #[.int .i64 key, .int .i64 til, .int .i64 val] 56))
      by_cases hv : val < 1
      · have HT := hide (unhide HZ hv)
        go_wp2_with fail
        go_ret
        exact ⟨ret_bool (unhide HT).symm, unhide HBA⟩
      · have HT := hide (unhide HY (by omega))
        go_wp2_with fail
        go_roundw
        case rel => exact ⟨j + 1, by omega, by go_num, HT, HBA⟩
        case measure => simp [intOf]; omega
    · obtain rfl : j = n := by omega
      have HT : Hid (G = true) := hide (by rw [← unhide HG]; unfold graphB; rw [unhide HS, unhide HN, unhide hkb]; rfl)
      go_wp2_with fail
      go_ret
      exact ⟨ret_bool (unhide HT).symm, unhide hbl⟩
set_option maxHeartbeats 2000000 in
theorem graphCode (a : Option Addr) (ms : List Tu.R) (cap : Nat) (f : Int) (w : World) (hm : ms.length ≤ 1048576) (hr : Tu.RM w a ms) :
    Calls Try.prog 55 #[.slice a ms.length cap, .int .i64 f] w fun e w' => e = .returned (.int .i64 (codeG ms f)) ∧ Below w.heap.size w w' := by
  have HR := hide hr
  clear hr
  by_cases hbig : (4096 : Int) < ms.length
  · rw [codeG_long hbig]
    go_enter Try.func55, Try.ntmps55
    go_wp2_with fail
    go_ret
    exact ⟨rfl, Below.refl _ _⟩
  cases hs : graphB ms
  · rw [codeG_bad hbig hs]
    have HS := hide hs
    clear hs
    go_enter Try.func55, Try.ntmps55
    go_wp2_with fail
    refine (implGraphOK _ ms cap _ hm (unhide HR)).mono ?_
    rintro e w1 ⟨rfl, b1⟩
    rw [unhide HS]
    have HB := hide b1
    clear b1
    go_wp2_with fail
    go_ret
    exact ⟨rfl, unhide HB⟩
  cases hf : inB f 1 8
  · rw [codeG_range hbig hs hf]
    have HS := hide hs
    clear hs
    go_enter Try.func55, Try.ntmps55
    go_wp2_with fail
    refine (implGraphOK _ ms cap _ hm (unhide HR)).mono ?_
    rintro e w1 ⟨rfl, b1⟩
    rw [unhide HS]
    have HB := hide b1
    clear b1
    go_wp2_with (go_at_call 71; refine (isAddress _ _).mono ?_; rintro e w' ⟨rfl, rfl⟩)
    go_ret
    exact ⟨rfl, unhide HB⟩
  rw [codeG_zero hs hf]
  have HS := hide hs
  clear hs
  go_enter Try.func55, Try.ntmps55
  go_wp2_with fail
  refine (implGraphOK _ ms cap _ hm (unhide HR)).mono ?_
  rintro e w1 ⟨rfl, b1⟩
  rw [unhide HS]
  have HB := hide b1
  clear b1
  go_wp2_with (go_at_call 71; refine (isAddress _ _).mono ?_; rintro e w' ⟨rfl, rfl⟩)
  go_ret
  exact ⟨rfl, unhide HB⟩
set_option maxHeartbeats 4000000 in
theorem specGraphOK (a : Option Addr) (ms : List Tu.R) (cap : Nat) (w : World) (hm : ms.length ≤ 1048576) (hr : Tu.RM w a ms) :
    Calls Try.prog 97 #[.slice a ms.length cap] w fun e w' => e = .returned (.bool (graphB ms)) ∧ Below w.heap.size w w' := by
  by_cases hbig : (4096 : Int) < ms.length
  · have hf : Hid (graphB ms = false) := hide (by cases hh : graphB ms; rfl; have := two_len (graph_two hh); omega)
    go_enter Try.func97, Try.ntmps97
    go_wp2_with fail
    go_ret
    exact ⟨ret_bool (unhide hf).symm, Below.refl _ _⟩
  have HR := hide hr
  clear hr
  obtain ⟨G, hG⟩ : ∃ G, graphB ms = G := ⟨_, rfl⟩
  have HG := hide hG
  rw [hG]
  clear hG
  generalize hN : ms.length = n at *
  have HN := hide hN
  clear hN
  go_enter Try.func97, Try.ntmps97
  go_wp2_with fail
  go_loopw [3] (fun i wr => ∃ j : Nat, j ≤ n ∧ i = .int .i64 j ∧ Hid (posJ ms j = true) ∧ w = wr) (fun i _ => n - (intOf i).toNat)
  case atStart => exact ⟨0, by omega, rfl, hide (pos_zero ms), rfl⟩
  case round =>
    obtain ⟨j, hj, rfl, hkb, rfl⟩ := hrel
    by_cases hlt : (j : Int) < (n : Int)
    · have k0 : (0 : Int) ≤ (j : Int) := by omega
      have hlen : j < ms.length := by rw [unhide HN]; omega
      obtain ⟨g, off, rfl⟩ := (unhide HR).form (by omega)
      obtain ⟨c0, c1, c2⟩ := (unhide HR).at hlen
      have HY : Hid (1 ≤ (ms.getD j Tu.R.zero).val → posJ ms (j + 1) = true) := hide (fun h => pos_succ hlen (unhide hkb) h)
      have HZ : Hid ((ms.getD j Tu.R.zero).val < 1 → G = false) := hide (fun h => by rw [← unhide HG]; exact pos_no hlen h)
      generalize ms.getD j Tu.R.zero = m at *
      obtain ⟨key, til, val⟩ := m
      dsimp only at c0 c1 c2 HY HZ
      by_cases hv : val < 1
      · have HT := hide (unhide HZ hv)
        go_wp2_with fail
        go_ret
        exact ⟨ret_bool (unhide HT).symm, Below.refl _ _⟩
      · have HT := hide (unhide HY (by omega))
        go_wp2_with fail
        go_roundw
        case rel => exact ⟨j + 1, by omega, by go_num, HT, trivial⟩
        case measure => simp [intOf]; omega
    · obtain rfl : j = n := by omega
      have HT : Hid (twoB ms = G) := hide (by rw [← unhide HG]; unfold graphB; rw [unhide HN, unhide hkb, Bool.and_true])
      go_wp2_with fail
      rw [← unhide HN]
      refine (l07OK _ ms cap _ (by have := unhide HN; omega) (unhide HR)).mono ?_
      rintro e w1 ⟨rfl, b1⟩
      rw [unhide HT]
      have HB := hide b1
      clear b1
      go_wp2_with fail
      go_ret
      exact ⟨rfl, unhide HB⟩
set_option maxHeartbeats 2000000 in
theorem l11Ask (a : Option Addr) (ms : List Tu.R) (cap : Nat) (f : Int) (w : World) (hm : ms.length ≤ 1048576) (hr : Tu.RM w a ms) :
    Calls Try.prog 57 #[.slice a ms.length cap, .int .i64 f] w fun e w' => e = .returned (.int .i64 (codeG ms f)) ∧ Below w.heap.size w w' := by
  have HR := hide hr
  clear hr
  by_cases hbig : (4096 : Int) < ms.length
  · rw [codeG_long hbig]
    go_enter Try.func57, Try.ntmps57
    go_wp2_with fail
    go_ret
    exact ⟨rfl, Below.refl _ _⟩
  cases hs : graphB ms
  · rw [codeG_bad hbig hs]
    have HS := hide hs
    clear hs
    go_enter Try.func57, Try.ntmps57
    go_wp2_with fail
    refine (specGraphOK _ ms cap _ hm (unhide HR)).mono ?_
    rintro e w1 ⟨rfl, b1⟩
    rw [unhide HS]
    have HB := hide b1
    clear b1
    go_wp2_with fail
    go_ret
    exact ⟨rfl, unhide HB⟩
  cases hf : inB f 1 8
  · rw [codeG_range hbig hs hf]
    have HS := hide hs
    clear hs
    go_enter Try.func57, Try.ntmps57
    go_wp2_with fail
    refine (specGraphOK _ ms cap _ hm (unhide HR)).mono ?_
    rintro e w1 ⟨rfl, b1⟩
    rw [unhide HS]
    have HB := hide b1
    clear b1
    go_wp2_with (go_at_call 41; refine (l01Addr _ _).mono ?_; rintro e w' ⟨rfl, rfl⟩)
    go_ret
    exact ⟨rfl, unhide HB⟩
  rw [codeG_zero hs hf]
  have HS := hide hs
  clear hs
  go_enter Try.func57, Try.ntmps57
  go_wp2_with fail
  refine (specGraphOK _ ms cap _ hm (unhide HR)).mono ?_
  rintro e w1 ⟨rfl, b1⟩
  rw [unhide HS]
  have HB := hide b1
  clear b1
  go_wp2_with (go_at_call 41; refine (l01Addr _ _).mono ?_; rintro e w' ⟨rfl, rfl⟩)
  go_ret
  exact ⟨rfl, unhide HB⟩
end Wd
end Go.Proofs.Ytjhhhmdhdnmejaa
