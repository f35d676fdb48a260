/-
  The model's contracts over routes: whether a list is right, the route to an address, RouteTo. (written by mkrous.py)
-/
import Derived.Test.YtmlokaielemhaaaDoorRouA
import Derived.Deep.QuietTactic
import Derived.BigQuiet
namespace Go.Proofs.YtmlokaielemhaaaDoor
open Go.ChangeShapes Go.WideShapes Go.ChangeAt Go.RowKit
set_option linter.unusedVariables false
set_option linter.unusedSimpArgs false
set_option maxRecDepth 100000
attribute [local go_sem ↓] Go.wp_at_zero Go.wp_at_succ
namespace Rw
open W1 Ro
theorem below_drewN {B : Nat} {w w' : World} (h : Below B w w') (n : Nat) : Below B w (w'.drewN n) := ⟨h.os, h.tape, h.output, h.size, h.block⟩
set_option maxHeartbeats 4000000 in
theorem l11OK (a : Option Addr) (ms : List R) (cap : Nat) (w : World) (hm : ms.length ≤ 1048576) (hr : RM w a ms) :
    Calls Tryd.prog 16 #[.slice a ms.length cap] w fun e w' => e = .returned (.bool (rouB ms)) ∧ Below w.heap.size w w' := by
  have HR := hide hr
  clear hr
  obtain ⟨A, hA⟩ : ∃ A, rouB ms = A := ⟨_, rfl⟩
  have HA : Hid (allT ms ms.length = A) := hide hA
  rw [hA]
  clear hA
  generalize hN : ms.length = n at *
  have HN := hide hN
  clear hN
  go_enter Tryd.func16, Tryd.ntmps16
  go_wp2_with fail
  go_loopw [3] (fun i wr => ∃ j : Nat, j ≤ n ∧ i = .int .i64 j ∧ Hid (allT ms j = true) ∧ Hid (Below w.heap.size w wr)) (fun i _ => n - (intOf i).toNat)
  case atStart => exact ⟨0, by omega, rfl, hide Ri.all_zero, hide (Below.refl _ _)⟩
  case round =>
    obtain ⟨j, hj, rfl, hrl, hbl⟩ := hrel
    by_cases hlt : (j : Int) < (n : Int)
    · have k0 : (0 : Int) ≤ (j : Int) := by omega
      have hlen : j < ms.length := by rw [unhide HN]; omega
      rcases (unhide HR).below (by exact (unhide hbl)) with e0 | ⟨g, off, rfl, hc⟩
      · exfalso; rw [e0] at hlen; simp at hlen
      have HL := hide hlen
      have hA := hc j hlen
      have hsz := (unhide hbl).size
      cases hk : okT (ms.getD j R.zero)
      · clear hc
        have HST : Hid (A = false) := hide (by rw [← unhide HA, ← unhide HN]; exact Ri.all_no hlen (Ri.step_bad (key := R.ds) hk))
        generalize ms.getD j R.zero = m at *
        obtain ⟨ds, nx, co, hp⟩ := m
        obtain ⟨c0, c1, c2, c3⟩ := hA
        dsimp only at c0 c1 c2 c3
        have hk' : (inB ds 1 8 && (inB nx 1 8 && (inB co 1 1099511627776 && inB hp 1 8))) = false := hk
        clear hk
        have HBL := hide ((unhide hbl).alloc hsz (.cells #[.int .i64 ds, .int .i64 nx, .int .i64 co, .int .i64 hp] 39))
        have hX := (rv_new wr ⟨ds, nx, co, hp⟩).cells
        dsimp only at hX
        cases h1 : inB ds 1 8
        rotate_left
        cases h2 : inB nx 1 8
        rotate_left
        cases h3 : inB co 1 1099511627776
        rotate_left
        have h4 : inB hp 1 8 = false := by rw [h1, h2, h3] at hk'; simpa using hk'
        all_goals
          clear hk'
          go_wp2_with fail
          generalize hW : wr.alloc (.cells #[.int .i64 ds, .int .i64 nx, .int .i64 co, .int .i64 hp] 39) = W0 at *
          clear hW
          obtain ⟨x0, x1, x2, x3⟩ := hX
          dsimp only at x0 x1 x2 x3
          go_quiet ((first | (go_at_call 26; exact Calls.quiet_of_same (l01Addr _ _)) | (go_at_call 27; exact Calls.quiet_of_same (l01In _ _ _ _))))
          go_wp2_with fail
          go_ret
          exact ⟨ret_bool (unhide HST).symm, below_drewN (unhide HBL) _⟩
      have hk' : (inB (ms.getD j R.zero).ds 1 8 && (inB (ms.getD j R.zero).nx 1 8 && (inB (ms.getD j R.zero).co 1 1099511627776 && inB (ms.getD j R.zero).hp 1 8))) = true := hk
      simp only [Bool.and_eq_true] at hk'
      obtain ⟨h1, h2, h3, h4⟩ := hk'
      have HO := hide hk
      clear hk
      by_cases hj0 : j = 0
      · subst hj0
        clear hc
        rw [Nat.zero_mul, Nat.add_zero] at hA
        have HST := hide (Ri.all_succ (unhide hrl) (Ri.step_zero (key := R.ds) (unhide HO)))
        generalize ms.getD 0 R.zero = m at *
        obtain ⟨ds, nx, co, hp⟩ := m
        obtain ⟨c0, c1, c2, c3⟩ := hA
        dsimp only at c0 c1 c2 c3 h1 h2 h3 h4
        have HBL := hide ((unhide hbl).alloc hsz (.cells #[.int .i64 ds, .int .i64 nx, .int .i64 co, .int .i64 hp] 39))
        have hX := (rv_new wr ⟨ds, nx, co, hp⟩).cells
        go_wp2_with fail
        generalize hW : wr.alloc (.cells #[.int .i64 ds, .int .i64 nx, .int .i64 co, .int .i64 hp] 39) = W0 at *
        clear hW
        obtain ⟨x0, x1, x2, x3⟩ := hX
        dsimp only at x0 x1 x2 x3
        go_quiet ((first | (go_at_call 26; exact Calls.quiet_of_same (l01Addr _ _)) | (go_at_call 27; exact Calls.quiet_of_same (l01In _ _ _ _))))
        go_wp2_with fail
        go_roundw
        case rel => exact ⟨0 + 1, by omega, by go_num, HST, hide (below_drewN (unhide HBL) _)⟩
        case measure => simp [intOf]; omega
      · obtain ⟨i, hji⟩ : ∃ i, j = i + 1 := ⟨j - 1, by omega⟩
        have HJ := hide hji
        have e1 : (j : Int) - 1 = (i : Int) := by omega
        have i0 : (0 : Int) ≤ (i : Int) := by omega
        have wi : IntKind.i64.wrap (i : Int) = (i : Int) := by rw [IntKind.wrap_i64]; omega
        have i1 : (i : Int) < (n : Int) := by omega
        have j1 : (0 : Int) < (j : Int) := by omega
        have j2 : 0 < j := by omega
        have hP := hc i (by omega)
        have EJ : ms.getD j R.zero = ms.getD (i + 1) R.zero := by rw [hji]
        clear hc hji
        by_cases hk : (ms.getD i R.zero).ds < (ms.getD j R.zero).ds
        · have HST : Hid (allT ms (j + 1) = true) := hide (Ri.all_succ (unhide hrl) (by rw [unhide HJ]; exact Ri.step_lt (by rw [← EJ]; exact unhide HO) (by rw [← EJ]; exact hk)))
          clear EJ
          generalize ms.getD j R.zero = m at *
          generalize ms.getD i R.zero = m0 at *
          obtain ⟨ds, nx, co, hp⟩ := m
          obtain ⟨ds0, nx0, co0, hp0⟩ := m0
          have HBL := hide ((unhide hbl).alloc hsz (.cells #[.int .i64 ds, .int .i64 nx, .int .i64 co, .int .i64 hp] 39))
          have hX := (rv_new wr ⟨ds, nx, co, hp⟩).cells
          have hY := hP.below ((Below.refl _ _).alloc (Nat.le_refl _) (.cells #[.int .i64 ds, .int .i64 nx, .int .i64 co, .int .i64 hp] 39))
          obtain ⟨c0, c1, c2, c3⟩ := hA
          dsimp only at c0 c1 c2 c3 h1 h2 h3 h4 hk
          go_wp2_with fail
          generalize hW : wr.alloc (.cells #[.int .i64 ds, .int .i64 nx, .int .i64 co, .int .i64 hp] 39) = W0 at *
          clear hW hP
          obtain ⟨x0, x1, x2, x3⟩ := hX
          obtain ⟨z0, z1, z2, z3⟩ := hY
          dsimp only at x0 x1 x2 x3 z0 z1 z2 z3
          go_quiet ((first | (go_at_call 26; exact Calls.quiet_of_same (l01Addr _ _)) | (go_at_call 27; exact Calls.quiet_of_same (l01In _ _ _ _))))
          go_wp2_with fail
          go_roundw
          case rel => exact ⟨j + 1, by omega, by go_num, HST, hide (below_drewN (unhide HBL) _)⟩
          case measure => simp [intOf]; omega
        · have HST : Hid (A = false) := hide (by rw [← unhide HA, ← unhide HN]; exact Ri.all_no (unhide HL) (show Ri.step R.zero okT R.ds ms j = false by rw [unhide HJ]; exact Ri.step_ge (by rw [← EJ]; omega)))
          clear EJ
          generalize ms.getD j R.zero = m at *
          generalize ms.getD i R.zero = m0 at *
          obtain ⟨ds, nx, co, hp⟩ := m
          obtain ⟨ds0, nx0, co0, hp0⟩ := m0
          have HBL := hide ((unhide hbl).alloc hsz (.cells #[.int .i64 ds, .int .i64 nx, .int .i64 co, .int .i64 hp] 39))
          have hX := (rv_new wr ⟨ds, nx, co, hp⟩).cells
          have hY := hP.below ((Below.refl _ _).alloc (Nat.le_refl _) (.cells #[.int .i64 ds, .int .i64 nx, .int .i64 co, .int .i64 hp] 39))
          obtain ⟨c0, c1, c2, c3⟩ := hA
          dsimp only at c0 c1 c2 c3 h1 h2 h3 h4 hk
          go_wp2_with fail
          generalize hW : wr.alloc (.cells #[.int .i64 ds, .int .i64 nx, .int .i64 co, .int .i64 hp] 39) = W0 at *
          clear hW hP
          obtain ⟨x0, x1, x2, x3⟩ := hX
          obtain ⟨z0, z1, z2, z3⟩ := hY
          dsimp only at x0 x1 x2 x3 z0 z1 z2 z3
          go_quiet ((first | (go_at_call 26; exact Calls.quiet_of_same (l01Addr _ _)) | (go_at_call 27; exact Calls.quiet_of_same (l01In _ _ _ _))))
          go_wp2_with fail
          go_ret
          exact ⟨ret_bool (unhide HST).symm, below_drewN (unhide HBL) _⟩
    · obtain rfl : j = n := by omega
      have HO : Hid (A = true) := hide (by rw [← unhide HA]; exact unhide hrl)
      go_wp2_with fail
      go_ret
      exact ⟨ret_bool (unhide HO).symm, unhide hbl⟩
set_option maxHeartbeats 4000000 in
theorem l11Find (a : Option Addr) (ss : List R) (ca : Nat) (k : Int) (w : World) (hm : ss.length ≤ 1048576) (hr : RM w a ss) :
    Calls Tryd.prog 23 #[.slice a ss.length ca, .int .i64 k] w fun e w' => e = .returned (.tuple #[(fT ss k).value, .bool (hasT ss k)]) ∧ Below w.heap.size w w' := by
  have HT : Hid (∀ j, j < ss.length → (∀ i, i < j → isT k (ss.getD i R.zero) = false) → isT k (ss.getD j R.zero) = true → fT ss k = ss.getD j R.zero ∧ hasT ss k = true) := hide (fun j hj h1 h2 => by
    have hf := Ri.find_at (z := R.zero) (isT k) ss j hj h1 h2
    unfold fT hasT; rw [hf]; exact ⟨rfl, rfl⟩)
  have HN : Hid ((∀ i, i < ss.length → isT k (ss.getD i R.zero) = false) → fT ss k = R.zero ∧ hasT ss k = false) := hide (fun h1 => by
    have hf := Ri.find_no (z := R.zero) (isT k) ss h1
    unfold fT hasT; rw [hf]; exact ⟨rfl, rfl⟩)
  obtain ⟨A, hA⟩ : ∃ A, fT ss k = A := ⟨_, rfl⟩
  obtain ⟨E, hE⟩ : ∃ E, hasT ss k = E := ⟨_, rfl⟩
  rw [hA, hE] at HT HN ⊢
  clear hA hE
  have HR0 := hide hr
  clear hr
  obtain ⟨n, hN⟩ : ∃ n, ss.length = n := ⟨_, rfl⟩
  have HL := hide hN
  rw [hN] at hm HT HN ⊢
  clear hN
  have HA : Hid (Below w.heap.size w (w.alloc (.cells #[.int .i64 0, .int .i64 0, .int .i64 0, .int .i64 0] 39))) := hide ((Below.refl _ _).alloc (Nat.le_refl _) _)
  have HV : Hid (RV (w.alloc (.cells #[.int .i64 0, .int .i64 0, .int .i64 0, .int .i64 0] 39)) w.heap.size R.zero) := hide (rv_new w R.zero)
  have HR := hide ((unhide HR0).below (unhide HA))
  clear HR0
  go_enter Tryd.func23, Tryd.ntmps23
  go_wp2_with fail
  generalize hW : w.alloc (.cells #[.int .i64 0, .int .i64 0, .int .i64 0, .int .i64 0] 39) = W0 at *
  clear hW
  go_loopw [6] (fun i wr => ∃ j : Nat, j ≤ n ∧ i = .int .i64 j ∧ Hid (∀ i, i < j → isT k (ss.getD i R.zero) = false) ∧ W0 = wr) (fun i _ => n - (intOf i).toNat)
  case atStart => exact ⟨0, by omega, rfl, hide (fun i hi => by omega), rfl⟩
  case round =>
    obtain ⟨j, hj, rfl, hrl, rfl⟩ := hrel
    obtain ⟨x0, x1, x2, x3⟩ := (unhide HV).cells
    have y0 := (unhide HV).free 0
    have y1 := (unhide HV).free 1
    have y2 := (unhide HV).free 2
    have y3 := (unhide HV).free 3
    unfold R.zero at x0 x1 x2 x3
    dsimp only at x0 x1 x2 x3
    by_cases hlt : (j : Int) < (n : Int)
    · have k0 : (0 : Int) ≤ (j : Int) := by omega
      have hlen : j < ss.length := by rw [unhide HL]; omega
      obtain ⟨g, off, rfl⟩ := (unhide HR).form (by omega)
      have hA := (unhide HR).at hlen
      cases hk : isT k (ss.getD j R.zero)
      · have HST : Hid (∀ i, i < j + 1 → isT k (ss.getD i R.zero) = false) := hide (fun i hi => by
          by_cases e : i = j
          · subst e; exact hk
          · exact unhide hrl i (by omega))
        have hne : ((ss.getD j R.zero).ds == k) = false := hk
        clear hk
        generalize ss.getD j R.zero = m at *
        obtain ⟨ds, nx, co, hp⟩ := m
        obtain ⟨c0, c1, c2, c3⟩ := hA
        dsimp only at c0 c1 c2 c3 hne
        go_wp2_with fail
        go_roundw
        case rel => exact ⟨j + 1, by omega, by go_num, HST, trivial⟩
        case measure => simp [intOf]; omega
      · have HAE := hide (unhide HT j (by omega) (unhide hrl) hk)
        have hne : ((ss.getD j R.zero).ds == k) = true := hk
        clear hk
        generalize ss.getD j R.zero = m at *
        obtain ⟨ds, nx, co, hp⟩ := m
        obtain ⟨c0, c1, c2, c3⟩ := hA
        dsimp only at c0 c1 c2 c3 hne
        go_wp2_with fail
        refine bodyPost_ret (v := .tuple #[.agg #[.int .i64 ds, .int .i64 nx, .int .i64 co, .int .i64 hp], .bool true]) (by simp [results, Tryd.results23, go_sem, x0, x1, x2, x3]) rfl ⟨by rw [(unhide HAE).1, (unhide HAE).2]; rfl, ?_⟩
        have hB := unhide HA
        (repeat (first | (with_reducible exact hB) | (with_reducible refine Below.drew ?_) | (with_reducible refine Below.setCell ?_ ?_ _; rotate_left; (first | exact Nat.le_refl _ | (simp; done) | (dsimp only; omega))) | (with_reducible refine Below.alloc ?_ ?_ _; rotate_left; (first | exact Nat.le_refl _ | omega | (simp [World.setCell]; omega)))))
    · obtain rfl : j = n := by omega
      have HAE := hide (unhide HN (unhide hrl))
      go_wp2_with fail
      refine bodyPost_ret (v := .tuple #[.agg #[.int .i64 0, .int .i64 0, .int .i64 0, .int .i64 0], .bool false]) (by simp [results, Tryd.results23, go_sem, x0, x1, x2, x3]) rfl ⟨by rw [(unhide HAE).1, (unhide HAE).2]; rfl, ?_⟩
      have hB := unhide HA
      (repeat (first | (with_reducible exact hB) | (with_reducible refine Below.drew ?_) | (with_reducible refine Below.setCell ?_ ?_ _; rotate_left; (first | exact Nat.le_refl _ | (simp; done) | (dsimp only; omega))) | (with_reducible refine Below.alloc ?_ ?_ _; rotate_left; (first | exact Nat.le_refl _ | omega | (simp [World.setCell]; omega)))))
end Rw
end Go.Proofs.YtmlokaielemhaaaDoor
