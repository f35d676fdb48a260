/-
  The program's RoutesOf.
-/
import Derived.Test.YtjhhhmdhdnmejaaHepG
namespace Go.Proofs.Ytjhhhmdhdnmejaa
open Go.ChangeShapes Go.WideShapes Go.ChangeAt Go.RowKit
set_option linter.unusedVariables false
set_option linter.unusedSimpArgs false
set_option maxRecDepth 100000
attribute [local go_sem ↓] Go.wp_at_zero Go.wp_at_succ
namespace Wd
open W1 Ro Rw Tw
set_option maxHeartbeats 8000000 in
theorem implRoutes (a : Option Addr) (g : List Tu.R) (cap : Nat) (f : Int) (w : World) (hm : g.length ≤ 1048576) (hr : Tu.RM w a g) :
    Calls Try.prog 22 #[.slice a g.length cap, .int .i64 f] w fun e w' => ∃ v, e = .returned (.tuple #[v, .int .i64 (codeG g f)]) ∧ Below w.heap.size w w' ∧ LstV w' v (rouA g f) w.heap.size w'.heap.size := by
  have HR := hide hr
  clear hr
  by_cases hc : codeG g f = 0
  rotate_left
  · have h1 : rouA g f = [] := by unfold rouA; rw [if_neg hc]
    rw [h1]
    clear h1
    obtain ⟨cd, hcd⟩ : ∃ cd, codeG g f = cd := ⟨_, rfl⟩
    have HC := hide hcd
    rw [hcd] at hc ⊢
    have q1 : (cd != 0) = true := by simpa using hc
    clear hcd hc
    go_enter Try.func22, Try.ntmps22
    go_wp2_with fail
    refine (graphCode _ g cap f _ hm (unhide HR)).mono ?_
    rintro e w1 ⟨rfl, b1⟩
    rw [unhide HC]
    have HB1 := hide b1
    clear b1
    go_wp2_with fail
    go_ret2
    exact ⟨_, rfl, unhide HB1, lstV_nil _ _ _ _ _⟩
  have h1 : rouA g f = rouL g f := by unfold rouA; rw [if_pos hc]
  rw [h1, hc]
  have HC := hide hc
  have HOK := hide (codeG_ok hc)
  clear h1 hc
  have HL8 := hide (waysL_len g f)
  have HDL : Hid (rouL g f = (waysL g f).filter (keptB f)) := hide rfl
  have HWF : Hid (∀ W, Tu.RM W a g → Calls Try.prog 56 #[.slice a g.length cap, .int .i64 f] W fun e w' => e = .returned (.agg (flat (waysL g f)).toArray) ∧ Below W.heap.size W w' ∧ Good g f (best g f) ∧ ∀ v x, best g f v = some x → (1 ≤ v ∧ v ≤ 8) ∧ okN 8 x) := hide (fun W h => waysFrom a g cap f W (unhide HOK).1 (unhide HOK).2 h)
  obtain ⟨DL, hDL⟩ : ∃ DL, rouL g f = DL := ⟨_, rfl⟩
  rw [hDL] at HDL ⊢
  clear hDL
  generalize waysL g f = ws at *
  go_enter Try.func22, Try.ntmps22
  go_wp2_with fail
  refine (graphCode _ g cap f _ hm (unhide HR)).mono ?_
  rintro e w1 ⟨rfl, b1⟩
  rw [unhide HC]
  have HB1 := hide b1
  have HR1 := hide ((unhide HR).below b1)
  have hs1 := b1.size
  clear b1
  have OW : Hid (w1.ownsRow w1.heap.size 62 4 (.slice none 0 0) ((ws.take 0).filter (keptB f)).length (flat ((ws.take 0).filter (keptB f)))) := hide (own_nil w1 w1.heap.size)
  go_wp2_with fail
  refine (unhide HWF _ (unhide HR1)).mono ?_
  rintro e w2 ⟨rfl, b2, _, _⟩
  have HB2 := hide ((unhide HB1).trans (b2.mono hs1))
  have OW2 : Hid (w2.ownsRow w1.heap.size 62 4 (.slice none 0 0) ((ws.take 0).filter (keptB f)).length (flat ((ws.take 0).filter (keptB f)))) := hide (own_nil w2 w1.heap.size)
  have hs2 := b2.size
  clear b2 OW HR1 HB1 HWF
  have HIX : Hid (∀ (i : Nat) W, i < 8 → (Instr.index 97 (.agg (flat ws).toArray) (.int .i64 (i : Int))).run Try.prog W = .ok (at' ws i).value W) := hide (fun i W h => idxA ws (unhide HL8) i h W)
  have HTY : Hid (∀ j, j < 8 → keptB f (at' ws j) = true → (ws.take (j + 1)).filter (keptB f) = (ws.take j).filter (keptB f) ++ [at' ws j]) := hide (fun j hj hk => by
    rw [tk1 R.zero (by rw [unhide HL8]; exact hj), List.filter_append, show ws.getD j R.zero = at' ws j from rfl, List.filter_cons_of_pos hk]; rfl)
  have HTN : Hid (∀ j, j < 8 → keptB f (at' ws j) = false → (ws.take (j + 1)).filter (keptB f) = (ws.take j).filter (keptB f)) := hide (fun j hj hk => by
    rw [tk1 R.zero (by rw [unhide HL8]; exact hj), List.filter_append, List.filter_cons_of_neg (by rw [show ws.getD j R.zero = at' ws j from rfl, hk]; simp)]; simp)
  have HTL : Hid (∀ j, ((ws.take j).filter (keptB f)).length ≤ 8) := hide (fun j => by have := List.length_filter_le (keptB f) (ws.take j); rw [List.length_take, unhide HL8] at this; omega)
  have HFL : Hid ((ws.take 8).filter (keptB f) = DL) := hide (by rw [List.take_of_length_le (by rw [unhide HL8]; exact Nat.le_refl _)]; exact (unhide HDL).symm)
  generalize hAG : Value.agg (flat ws).toArray = AG at *
  clear hAG
  go_wp2_with fail
  go_loopw [7, 19] (fun v iv wr => ∃ j : Nat, j ≤ 8 ∧ iv = .int .i64 (j : Int) ∧ Hid (wr.ownsRow w1.heap.size 62 4 v ((ws.take j).filter (keptB f)).length (flat ((ws.take j).filter (keptB f)))) ∧ Hid (Below w.heap.size w wr) ∧ Hid (w1.heap.size ≤ wr.heap.size)) (fun _ iv _ => 8 - (intOf iv).toNat)
  case atStart => exact ⟨0, by omega, rfl, OW2, HB2, hide (by omega)⟩
  case round =>
    obtain ⟨j, hj, rfl, how, hbl, hsz⟩ := hrel
    have hsz' := unhide hsz
    by_cases hlt : (j : Int) < 8
    · have hx : ∀ W, (Instr.index 97 AG (.int .i64 (j : Int))).run Try.prog W = .ok (at' ws j).value W := fun W => unhide HIX j W (by omega)
      have HTy := hide (unhide HTY j (by omega))
      have HTn := hide (unhide HTN j (by omega))
      have HTJ := unhide HTL j
      generalize hx2 : at' ws j = x at *
      clear hx2
      obtain ⟨xa, xn, xc, xh⟩ := x
      rw [show R.value ⟨xa, xn, xc, xh⟩ = .agg #[.int .i64 xa, .int .i64 xn, .int .i64 xc, .int .i64 xh] from rfl] at hx
      unfold keptB at HTy HTn
      dsimp only at HTy HTn
      have hbs := (unhide hbl).size
      have HBA := hide ((unhide hbl).alloc hbs (.cells #[.int .i64 xa, .int .i64 xn, .int .i64 xc, .int .i64 xh] 62))
      have HOA := hide ((unhide how).alloc (.cells #[.int .i64 xa, .int .i64 xn, .int .i64 xc, .int .i64 xh] 62))
      have HZA : Hid (w1.heap.size ≤ (wr.alloc (.cells #[.int .i64 xa, .int .i64 xn, .int .i64 xc, .int .i64 xh] 62)).heap.size) := hide (by simp; omega)
      cases hd : (xa != 0)
      · have HTF := hide (unhide HTn (by rw [hd]; rfl))
        have HO : Hid ((wr.alloc (.cells #[.int .i64 xa, .int .i64 xn, .int .i64 xc, .int .i64 xh] 62)).ownsRow w1.heap.size 62 4 u7 ((ws.take (j + 1)).filter (keptB f)).length (flat ((ws.take (j + 1)).filter (keptB f)))) := hide (by unfold keptB; rw [unhide HTF]; exact unhide HOA)
        clear HTy HTn
        go_wp2_with fail
        go_roundw
        case rel => exact ⟨j + 1, by omega, by go_num, HO, HBA, HZA⟩
        case measure => simp [intOf]; omega
      · cases hd2 : (xa != f)
        · have HTF := hide (unhide HTn (by rw [hd, hd2]; rfl))
          have HO : Hid ((wr.alloc (.cells #[.int .i64 xa, .int .i64 xn, .int .i64 xc, .int .i64 xh] 62)).ownsRow w1.heap.size 62 4 u7 ((ws.take (j + 1)).filter (keptB f)).length (flat ((ws.take (j + 1)).filter (keptB f)))) := hide (by unfold keptB; rw [unhide HTF]; exact unhide HOA)
          clear HTy HTn
          go_wp2_with fail
          go_roundw
          case rel => exact ⟨j + 1, by omega, by go_num, HO, HBA, HZA⟩
          case measure => simp [intOf]; omega
        · have HTF := hide (unhide HTy (by rw [hd, hd2]; rfl))
          clear HTy HTn
          go_wp2_with (at_builtin; refine wpList_apS ((unhide HOA).alloc _) (wr.heap.size + 1) 0 1 1 [(⟨xa, xn, xc, xh⟩ : R)] rfl (by have := rm_new (wr.alloc (.cells #[.int .i64 xa, .int .i64 xn, .int .i64 xc, .int .i64 xh] 62)) ⟨xa, xn, xc, xh⟩; simpa using this) (by simp only [List.length_cons, List.length_nil]; omega) (by simp; omega) rfl _ _ rfl rfl rfl ?_; intro v' w' ho hg; have HO : Hid (w'.ownsRow w1.heap.size 62 4 v' ((ws.take (j + 1)).filter (keptB f)).length (flat ((ws.take (j + 1)).filter (keptB f)))) := hide (by unfold keptB; rw [unhide HTF]; exact ho); have HZ : Hid (w1.heap.size ≤ w'.heap.size) := hide (by have := hg.size; simp at this; omega); have HB := hide (below_own ((unhide HBA).alloc (by simp; omega) _) ((unhide HOA).alloc _) hg hs1 (by simp; omega)); clear ho hg)
          go_roundw
          case rel => exact ⟨j + 1, by omega, by go_num, HO, HB, HZ⟩
          case measure => simp [intOf]; omega
    · obtain rfl : j = 8 := by omega
      have HL : Hid (LstV wr u7 DL w.heap.size wr.heap.size) := hide (by
        have := lst_own rfl (unhide how)
        rw [unhide HFL] at this
        exact this.mono hs1 (Nat.le_refl _))
      go_wp2_with fail
      go_ret2
      exact ⟨_, rfl, unhide hbl, unhide HL⟩
end Wd
end Go.Proofs.Ytjhhhmdhdnmejaa
