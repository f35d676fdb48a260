/-
  The program's Distances and RoutesOf.
-/
import Derived.Test.YtjhhhmdhdnmejaaHepF
namespace Go.Proofs.Ytjhhhmdhdnmejaa
open Go.ChangeShapes Go.WideShapes Go.ChangeAt Go.RowKit
set_option linter.unusedVariables false
set_option linter.unusedSimpArgs false
set_option maxRecDepth 100000
attribute [local go_sem ↓] Go.wp_at_zero Go.wp_at_succ
namespace Wd
open W1 Ro Rw Tw
/-- What Distances, RoutesOf answer. -/
def dstV (x : R) : Int := if x.ds = 0 then -1 else x.co
noncomputable def dstL (g : List Tu.R) (f : Int) : List Int := (waysL g f).map dstV
def keptB (f : Int) (x : R) : Bool := x.ds != 0 && x.ds != f
noncomputable def rouL (g : List Tu.R) (f : Int) : List R := (waysL g f).filter (keptB f)
noncomputable def dstA (g : List Tu.R) (f : Int) : List Int := if codeG g f = 0 then dstL g f else []
noncomputable def rouA (g : List Tu.R) (f : Int) : List R := if codeG g f = 0 then rouL g f else []
theorem dstL_len (g : List Tu.R) (f : Int) : (dstL g f).length = 8 := by unfold dstL; rw [List.length_map, waysL_len]
theorem dstA_len (g : List Tu.R) (f : Int) : (dstA g f).length ≤ 8 := by unfold dstA; split; rw [dstL_len]; exact Nat.le_refl _; simp
theorem rouL_len (g : List Tu.R) (f : Int) : (rouL g f).length ≤ 8 := by have := List.length_filter_le (keptB f) (waysL g f); rw [waysL_len] at this; exact this
theorem rouA_len (g : List Tu.R) (f : Int) : (rouA g f).length ≤ 8 := by unfold rouA; split; exact rouL_len g f; simp
theorem tk1 {α : Type} (z : α) {xs : List α} {j : Nat} (h : j < xs.length) : xs.take (j + 1) = xs.take j ++ [xs.getD j z] := by
  rw [List.take_add_one, List.getElem?_eq_getElem h, List.getD_eq_getElem?_getD, List.getElem?_eq_getElem h]; rfl
theorem eight {ws : List R} (h : ws.length = 8) : ∃ a b c d e f g i, ws = [a, b, c, d, e, f, g, i] := by
  match ws, h with
  | [a, b, c, d, e, f, g, i], _ => exact ⟨a, b, c, d, e, f, g, i, rfl⟩
theorem idx0 (a b c d e f g i : R) (W : World) : (Instr.index 97 (.agg (flat [a, b, c, d, e, f, g, i]).toArray) (.int .i64 0)).run Try.prog W = .ok a.value W := by kernel_rfl
theorem idx1 (a b c d e f g i : R) (W : World) : (Instr.index 97 (.agg (flat [a, b, c, d, e, f, g, i]).toArray) (.int .i64 1)).run Try.prog W = .ok b.value W := by kernel_rfl
theorem idx2 (a b c d e f g i : R) (W : World) : (Instr.index 97 (.agg (flat [a, b, c, d, e, f, g, i]).toArray) (.int .i64 2)).run Try.prog W = .ok c.value W := by kernel_rfl
theorem idx3 (a b c d e f g i : R) (W : World) : (Instr.index 97 (.agg (flat [a, b, c, d, e, f, g, i]).toArray) (.int .i64 3)).run Try.prog W = .ok d.value W := by kernel_rfl
theorem idx4 (a b c d e f g i : R) (W : World) : (Instr.index 97 (.agg (flat [a, b, c, d, e, f, g, i]).toArray) (.int .i64 4)).run Try.prog W = .ok e.value W := by kernel_rfl
theorem idx5 (a b c d e f g i : R) (W : World) : (Instr.index 97 (.agg (flat [a, b, c, d, e, f, g, i]).toArray) (.int .i64 5)).run Try.prog W = .ok f.value W := by kernel_rfl
theorem idx6 (a b c d e f g i : R) (W : World) : (Instr.index 97 (.agg (flat [a, b, c, d, e, f, g, i]).toArray) (.int .i64 6)).run Try.prog W = .ok g.value W := by kernel_rfl
theorem idx7 (a b c d e f g i : R) (W : World) : (Instr.index 97 (.agg (flat [a, b, c, d, e, f, g, i]).toArray) (.int .i64 7)).run Try.prog W = .ok i.value W := by kernel_rfl
theorem idxA (ws : List R) (hl : ws.length = 8) (i : Nat) (hi : i < 8) (W : World) : (Instr.index 97 (.agg (flat ws).toArray) (.int .i64 (i : Int))).run Try.prog W = .ok (at' ws i).value W := by
  obtain ⟨a, b, c, d, e, f, g, h, rfl⟩ := eight hl
  have h8 : i = 0 ∨ i = 1 ∨ i = 2 ∨ i = 3 ∨ i = 4 ∨ i = 5 ∨ i = 6 ∨ i = 7 := by omega
  rcases h8 with rfl | rfl | rfl | rfl | rfl | rfl | rfl | rfl
  · exact idx0 a b c d e f g h W
  · exact idx1 a b c d e f g h W
  · exact idx2 a b c d e f g h W
  · exact idx3 a b c d e f g h W
  · exact idx4 a b c d e f g h W
  · exact idx5 a b c d e f g h W
  · exact idx6 a b c d e f g h W
  · exact idx7 a b c d e f g h W
set_option maxHeartbeats 8000000 in
theorem implDist (a : Option Addr) (g : List Tu.R) (cap : Nat) (f : Int) (w : World) (hm : g.length ≤ 1048576) (hr : Tu.RM w a g) :
    Calls Try.prog 18 #[.slice a g.length cap, .int .i64 f] w fun e w' => ∃ v, e = .returned (.tuple #[v, .int .i64 (codeG g f)]) ∧ Below w.heap.size w w' ∧ In.LstV w' v (dstA g f) w.heap.size w'.heap.size := by
  have HR := hide hr
  clear hr
  by_cases hc : codeG g f = 0
  rotate_left
  · have h1 : dstA g f = [] := by unfold dstA; rw [if_neg hc]
    rw [h1]
    clear h1
    obtain ⟨cd, hcd⟩ : ∃ cd, codeG g f = cd := ⟨_, rfl⟩
    have HC := hide hcd
    rw [hcd] at hc ⊢
    have q1 : (cd != 0) = true := by simpa using hc
    clear hcd hc
    go_enter Try.func18, Try.ntmps18
    go_wp2_with fail
    refine (graphCode _ g cap f _ hm (unhide HR)).mono ?_
    rintro e w1 ⟨rfl, b1⟩
    rw [unhide HC]
    have HB1 := hide b1
    clear b1
    go_wp2_with fail
    go_ret2
    exact ⟨_, rfl, unhide HB1, In.lstV_nil _ _ _ _ _⟩
  have h1 : dstA g f = dstL g f := by unfold dstA; rw [if_pos hc]
  rw [h1, hc]
  have HC := hide hc
  have HOK := hide (codeG_ok hc)
  clear h1 hc
  have HL8 := hide (waysL_len g f)
  have HDL : Hid (dstL g f = (waysL g f).map dstV) := hide rfl
  have HWF : Hid (∀ W, Tu.RM W a g → Calls Try.prog 56 #[.slice a g.length cap, .int .i64 f] W fun e w' => e = .returned (.agg (flat (waysL g f)).toArray) ∧ Below W.heap.size W w' ∧ Good g f (best g f) ∧ ∀ v x, best g f v = some x → (1 ≤ v ∧ v ≤ 8) ∧ okN 8 x) := hide (fun W h => waysFrom a g cap f W (unhide HOK).1 (unhide HOK).2 h)
  obtain ⟨DL, hDL⟩ : ∃ DL, dstL g f = DL := ⟨_, rfl⟩
  rw [hDL] at HDL ⊢
  clear hDL
  generalize waysL g f = ws at *
  go_enter Try.func18, Try.ntmps18
  go_wp2_with fail
  refine (graphCode _ g cap f _ hm (unhide HR)).mono ?_
  rintro e w1 ⟨rfl, b1⟩
  rw [unhide HC]
  have HB1 := hide b1
  have HR1 := hide ((unhide HR).below b1)
  have hs1 := b1.size
  clear b1
  obtain ⟨i0, hi, hz0, hz1, hz2⟩ := In.infoI
  obtain ⟨wm, hmk, hmown, hmgrow⟩ := run_make_own (P := Try.prog) w1 w1.heap.size 50 3 i0 _ 1 Try.underlying50 hi hz0 hz1 .i64 .i64 8 (by rw [hz2]; omega) (by unfold maxLen; omega) (Nat.le_refl _)
  have OW : Hid (wm.ownsRow w1.heap.size 3 1 (.slice (some ⟨w1.heap.size, 0, none⟩) 0 8) ((ws.map dstV).take 0).length (In.flat ((ws.map dstV).take 0))) := hide hmown
  have DM : Hid (Below w1.heap.size w1 wm) := hide ((Below.refl _ _).grown hmgrow (Nat.le_refl _) (fun k hk => by cases hk))
  have hmk2 : (Instr.makeSlice 50 (.int .i64 0) (.int .i64 8)).run Try.prog w1 = .ok (.slice (some ⟨w1.heap.size, 0, none⟩) 0 8) wm := hmk
  clear hi hz0 hz1 hz2 hmown hmgrow hmk
  go_wp2_with fail
  clear hmk2
  refine (unhide HWF _ ((unhide HR1).below (unhide DM))).mono ?_
  rintro e w2 ⟨rfl, b2, _, _⟩
  have HB2 := hide ((unhide HB1).trans (((unhide DM).trans (b2.mono (unhide DM).size)).mono hs1))
  have hsm := (unhide DM).size
  have OW2 : Hid (w2.ownsRow w1.heap.size 3 1 (.slice (some ⟨w1.heap.size, 0, none⟩) 0 8) ((ws.map dstV).take 0).length (In.flat ((ws.map dstV).take 0))) := hide ((unhide OW).kept (row := none) ⟨b2.os, b2.tape, b2.output, b2.size, fun k hk _ => b2.block k hk⟩ (by simp [Value.ownBlock]))
  have hs2 := b2.size
  clear b2 OW DM HR1 HB1 HWF
  have HIX : Hid (∀ (i : Nat) W, i < 8 → (Instr.index 97 (.agg (flat ws).toArray) (.int .i64 (i : Int))).run Try.prog W = .ok (at' ws i).value W) := hide (fun i W h => idxA ws (unhide HL8) i h W)
  have HTK : Hid (∀ j, j < 8 → (ws.map dstV).take (j + 1) = (ws.map dstV).take j ++ [dstV (at' ws j)]) := hide (fun j hj => by
    rw [tk1 0 (by rw [List.length_map, unhide HL8]; exact hj)]
    congr 2
    unfold at'
    rw [List.getD_eq_getElem?_getD, List.getElem?_map, List.getD_eq_getElem?_getD, List.getElem?_eq_getElem (by rw [unhide HL8]; exact hj)]; rfl)
  have HTL : Hid (∀ j, ((ws.map dstV).take j).length ≤ 8) := hide (fun j => by rw [List.length_take, List.length_map, unhide HL8]; omega)
  have HFL : Hid ((ws.map dstV).take 8 = DL) := hide (by rw [List.take_of_length_le (by rw [List.length_map, unhide HL8]; exact Nat.le_refl _)]; exact (unhide HDL).symm)
  generalize hAG : Value.agg (flat ws).toArray = AG at *
  clear hAG
  go_wp2_with fail
  go_loopw [7, 20] (fun v iv wr => ∃ j : Nat, j ≤ 8 ∧ iv = .int .i64 (j : Int) ∧ Hid (wr.ownsRow w1.heap.size 3 1 v ((ws.map dstV).take j).length (In.flat ((ws.map dstV).take j))) ∧ Hid (Below w.heap.size w wr) ∧ Hid (w1.heap.size ≤ wr.heap.size)) (fun _ iv _ => 8 - (intOf iv).toNat)
  case atStart => exact ⟨0, by omega, rfl, OW2, HB2, hide (by omega)⟩
  case round =>
    obtain ⟨j, hj, rfl, how, hbl, hsz⟩ := hrel
    have hsz' := unhide hsz
    by_cases hlt : (j : Int) < 8
    · have hx : ∀ W, (Instr.index 97 AG (.int .i64 (j : Int))).run Try.prog W = .ok (at' ws j).value W := fun W => unhide HIX j W (by omega)
      have HT := hide (unhide HTK j (by omega))
      have HTJ := unhide HTL j
      generalize hx2 : at' ws j = x at *
      clear hx2
      obtain ⟨xa, xn, xc, xh⟩ := x
      rw [show R.value ⟨xa, xn, xc, xh⟩ = .agg #[.int .i64 xa, .int .i64 xn, .int .i64 xc, .int .i64 xh] from rfl] at hx
      have hbs := (unhide hbl).size
      by_cases hd : xa = 0
      · subst hd
        have HTF : Hid ((ws.map dstV).take (j + 1) = (ws.map dstV).take j ++ [(-1 : Int)]) := hide (by rw [unhide HT]; rfl)
        have HBA := hide ((unhide hbl).alloc hbs (.cells #[.int .i64 0, .int .i64 xn, .int .i64 (-1), .int .i64 xh] 62))
        have HOA := hide ((unhide how).alloc (.cells #[.int .i64 0, .int .i64 xn, .int .i64 (-1), .int .i64 xh] 62))
        have hsa : w1.heap.size ≤ (wr.alloc (.cells #[.int .i64 0, .int .i64 xn, .int .i64 (-1), .int .i64 xh] 62)).heap.size := by simp; omega
        go_wp2_with (at_builtin; refine In.wpList_apS ((unhide HOA).alloc _) (wr.heap.size + 1) 0 1 1 [(-1 : Int)] rfl (by have := In.rm_new (wr.alloc (.cells #[.int .i64 0, .int .i64 xn, .int .i64 (-1), .int .i64 xh] 62)) (-1); simpa using this) (by simp only [List.length_cons, List.length_nil]; omega) (by simp; omega) rfl _ _ rfl rfl rfl ?_; intro v' w' ho hg; have HO : Hid (w'.ownsRow w1.heap.size 3 1 v' ((ws.map dstV).take (j + 1)).length (In.flat ((ws.map dstV).take (j + 1)))) := hide (by rw [unhide HTF]; exact ho); have HZ : Hid (w1.heap.size ≤ w'.heap.size) := hide (by have := hg.size; simp at this; omega); have HB := hide (In.below_own ((unhide HBA).alloc (by simp; omega) _) ((unhide HOA).alloc _) hg hs1 (by simp; omega)); clear ho hg)
        go_roundw
        case rel => exact ⟨j + 1, by omega, by go_num, HO, HB, HZ⟩
        case measure => simp [intOf]; omega
      · have hd' : (xa == 0) = false := by simpa using hd
        have HTF : Hid ((ws.map dstV).take (j + 1) = (ws.map dstV).take j ++ [xc]) := hide (by rw [unhide HT]; unfold dstV; dsimp only; rw [if_neg hd])
        have HBA := hide ((unhide hbl).alloc hbs (.cells #[.int .i64 xa, .int .i64 xn, .int .i64 xc, .int .i64 xh] 62))
        have HOA := hide ((unhide how).alloc (.cells #[.int .i64 xa, .int .i64 xn, .int .i64 xc, .int .i64 xh] 62))
        go_wp2_with (at_builtin; refine In.wpList_apS ((unhide HOA).alloc _) (wr.heap.size + 1) 0 1 1 [xc] rfl (by have := In.rm_new (wr.alloc (.cells #[.int .i64 xa, .int .i64 xn, .int .i64 xc, .int .i64 xh] 62)) xc; simpa using this) (by simp only [List.length_cons, List.length_nil]; omega) (by simp; omega) rfl _ _ rfl rfl rfl ?_; intro v' w' ho hg; have HO : Hid (w'.ownsRow w1.heap.size 3 1 v' ((ws.map dstV).take (j + 1)).length (In.flat ((ws.map dstV).take (j + 1)))) := hide (by rw [unhide HTF]; exact ho); have HZ : Hid (w1.heap.size ≤ w'.heap.size) := hide (by have := hg.size; simp at this; omega); have HB := hide (In.below_own ((unhide HBA).alloc (by simp; omega) _) ((unhide HOA).alloc _) hg hs1 (by simp; omega)); clear ho hg)
        go_roundw
        case rel => exact ⟨j + 1, by omega, by go_num, HO, HB, HZ⟩
        case measure => simp [intOf]; omega
    · obtain rfl : j = 8 := by omega
      have HL : Hid (In.LstV wr u7 DL w.heap.size wr.heap.size) := hide (by
        have := In.lst_own rfl (unhide how)
        rw [unhide HFL] at this
        exact this.mono hs1 (Nat.le_refl _))
      go_wp2_with fail
      go_ret2
      exact ⟨_, rfl, unhide hbl, unhide HL⟩
end Wd
end Go.Proofs.Ytjhhhmdhdnmejaa
