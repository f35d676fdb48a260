/-
  Contract of the model's l04Decode and DecodeHello.
-/
import Derived.Test.YtmelbilepfnmjakHelV
import Derived.Deep.DeepCutAuto
import Derived.Laws.NewBlocks
namespace Go.Proofs.Ytmelbilepfnmjak
open Go.ChangeShapes Go.WideShapes Go.ChangeAt Go.RowKit
set_option linter.unusedVariables false
set_option linter.unusedSimpArgs false
attribute [local go_sem ↓] Go.wp_at_zero Go.wp_at_succ
namespace Hl
open W1 Nb De
theorem dec_no {bs : List UInt8} (h : decG bs = false) : decX bs = 0 ∧ decY bs = 0 ∧ decL bs = [] := by
  unfold decX decY decL; rw [if_neg (by simp [h]), if_neg (by simp [h]), if_neg (by simp [h])]; exact ⟨rfl, rfl, rfl⟩
theorem dec_yes {bs : List UInt8} (h : decG bs = true) : decX bs = fld bs 0 ∧ decY bs = timOf bs ∧ decL bs = grps bs (nOf bs) := by
  unfold decX decY decL; rw [if_pos h, if_pos h, if_pos h]; exact ⟨rfl, rfl, rfl⟩
theorem sH {w : World} {b : Nat} {x y : Int} {v : Value} (h : HV w b x y v) : HV w b x y v ∧ w.cell? ⟨b, 0, none⟩ = some (.int .i64 x) ∧ w.cell? ⟨b, 1, none⟩ = some (.int .i64 y) ∧ w.cell? ⟨b, 2, none⟩ = some v := ⟨h, h.bx⟩
theorem formA (V : World) (base : Nat) (x y : Int) (hb : base ≤ V.heap.size) :
    HV ((V.alloc (.cells #[] 49)).alloc (.cells #[.int .i64 x, .int .i64 y, .slice (some ⟨V.heap.size, 0, none⟩) 0 0] 38)) (V.heap.size + 1) x y (.slice (some ⟨V.heap.size, 0, none⟩) 0 0) ∧
    ((V.alloc (.cells #[] 49)).alloc (.cells #[.int .i64 x, .int .i64 y, .slice (some ⟨V.heap.size, 0, none⟩) 0 0] 38)).ownsRow base 49 4 (.slice (some ⟨V.heap.size, 0, none⟩) 0 0) ([] : List R).length (Nb.flat []) := by
  have h := hv_new (V.alloc (.cells #[] 49)) x y (.slice (some ⟨V.heap.size, 0, none⟩) 0 0)
  rw [World.size_alloc] at h
  exact ⟨h, (Nb.own_empty V base hb).alloc _⟩
theorem formB (V : World) (base : Nat) (x y : Int) (hb : base ≤ V.heap.size) :
    HV ((V.alloc (.cells #[.int .i64 x, .int .i64 y, .slice (some ⟨V.heap.size + 1, 0, none⟩) 0 0] 38)).alloc (.cells #[] 49)) V.heap.size x y (.slice (some ⟨V.heap.size + 1, 0, none⟩) 0 0) ∧
    ((V.alloc (.cells #[.int .i64 x, .int .i64 y, .slice (some ⟨V.heap.size + 1, 0, none⟩) 0 0] 38)).alloc (.cells #[] 49)).ownsRow base 49 4 (.slice (some ⟨V.heap.size + 1, 0, none⟩) 0 0) ([] : List R).length (Nb.flat []) := by
  have h := Nb.own_empty (V.alloc (.cells #[.int .i64 x, .int .i64 y, .slice (some ⟨V.heap.size + 1, 0, none⟩) 0 0] 38)) base (by simp; omega)
  rw [World.size_alloc] at h
  exact ⟨(hv_new V x y _).below ((Below.refl _ _).alloc (Nat.le_refl _) _), h⟩
set_option maxRecDepth 100000 in
set_option maxHeartbeats 1200000 in
theorem l04Decode (s : ByteArray) (w : World) (hm : s.size ≤ 1048576) :
    Calls Try.prog 59 #[.string s] w fun e w' => ∃ v, e = .returned (.tuple #[.agg #[.int .i64 (decX s.data.toList), .int .i64 (decY s.data.toList), v], .bool (decG s.data.toList)]) ∧ Below w.heap.size w w' ∧ Nb.LstV w' v (decL s.data.toList) w.heap.size w'.heap.size := by
  have HDL : Hid (s.data.toList.length = s.size) := hide (by simp)
  have HN : Hid (decG s.data.toList = false → ∀ w', Below w.heap.size w w' → ∃ v, Ending.returned (.tuple #[.agg #[.int .i64 0, .int .i64 0, .slice none 0 0], .bool false]) = .returned (.tuple #[.agg #[.int .i64 (decX s.data.toList), .int .i64 (decY s.data.toList), v], .bool (decG s.data.toList)]) ∧ Below w.heap.size w w' ∧ Nb.LstV w' v (decL s.data.toList) w.heap.size w'.heap.size) := hide (fun h w' hb => by
    obtain ⟨e1, e2, e3⟩ := dec_no h
    rw [e1, e2, e3, h]
    exact ⟨_, rfl, hb, Nb.lstV_nil _ _ _ _ _⟩)
  by_cases h3 : (s.size : Int) < 3
  · have hf := hide (unhide HN (by unfold decG lenB; rw [unhide HDL, decide_eq_false (by omega)]; rfl))
    clear HN
    go_enter Try.func59, Try.ntmps59
    go_wp2_with fail
    refine bodyPost_ret (v := .tuple #[.agg #[.int .i64 0, .int .i64 0, .slice none 0 0], .bool false]) (by simp [results, Try.results59, go_sem]) rfl (unhide hf _ ?_)
    repeat (first | exact Below.refl _ _ | refine Below.setCell ?_ (by simp <;> omega) _ | refine Below.alloc ?_ (by simp <;> omega) _)
  have z0 : (0 : Int) < s.size := by omega
  have z1 : (1 : Int) < s.size := by omega
  have z2 : (2 : Int) < s.size := by omega
  have e0 := fld_at s 0 (by omega)
  have e1 := fld_at s 1 (by omega)
  have e2 := fld_at s 2 (by omega)
  have a0 := fld_lo s.data.toList 0
  have b0 := fld_hi s.data.toList 0
  have a1 := fld_lo s.data.toList 1
  have b1 := fld_hi s.data.toList 1
  have a2 := fld_lo s.data.toList 2
  have b2 := fld_hi s.data.toList 2
  have wf0 := wrapF s.data.toList 0
  have wf1 := wrapF s.data.toList 1
  have wf2 := wrapF s.data.toList 2
  have hne : ¬ s = ByteArray.empty := by intro e; rw [e] at z0; simp at z0
  cases hl : ((s.size : Int) == 3 + 4 * fld s.data.toList 2)
  · have hl' : ((s.size : Int) != 3 + 4 * fld s.data.toList 2) = true := by rw [bne, hl]; rfl
    have hf := hide (unhide HN (by unfold decG lenB; rw [unhide HDL, decide_eq_false (p := (s.size : Int) = _) (by simpa using hl)]; simp))
    clear HN hl
    go_enter Try.func59, Try.ntmps59
    go_wp2_with fail
    refine bodyPost_ret (v := .tuple #[.agg #[.int .i64 0, .int .i64 0, .slice none 0 0], .bool false]) (by simp [results, Try.results59, go_sem]) rfl (unhide hf _ ?_)
    repeat (first | exact Below.refl _ _ | refine Below.setCell ?_ (by simp <;> omega) _ | refine Below.alloc ?_ (by simp <;> omega) _)
  have hl' : ((s.size : Int) != 3 + 4 * fld s.data.toList 2) = false := by rw [bne, hl]; rfl
  have hlb : lenB s.data.toList = true := by unfold lenB; rw [unhide HDL, decide_eq_true (by omega), decide_eq_true (by simpa using hl)]; rfl
  by_cases h223 : 223 < fld s.data.toList 1
  · have hf := hide (unhide HN (by unfold decG; rw [decide_eq_false (by omega : ¬ fld s.data.toList 1 ≤ 223)]; simp))
    clear HN hl hlb
    go_enter Try.func59, Try.ntmps59
    go_wp2_with fail
    refine bodyPost_ret (v := .tuple #[.agg #[.int .i64 0, .int .i64 0, .slice none 0 0], .bool false]) (by simp [results, Try.results59, go_sem]) rfl (unhide hf _ ?_)
    repeat (first | exact Below.refl _ _ | refine Below.setCell ?_ (by simp <;> omega) _ | refine Below.alloc ?_ (by simp <;> omega) _)
  have hsz := len_eq hlb
  rw [unhide HDL] at hsz
  have HLB := hide hlb
  have hn := n_le s.data.toList
  have HZ := hide hsz
  have hsl : s.size ≤ 1023 := by omega
  have ht223 : (fld s.data.toList 1).toNat ≤ 223 := by omega
  have HT : Hid (∀ W : World, Calls Try.prog 45 #[.int .i64 (fld s.data.toList 1)] W fun e w' => e = .returned (.int .i64 (timOf s.data.toList)) ∧ w' = W) := hide (fun W => by
    have := Tim.l02Time (fld s.data.toList 1).toNat ht223 W
    rw [show (((fld s.data.toList 1).toNat : Nat) : Int) = fld s.data.toList 1 by omega] at this; exact this)
  have A0 : Hid (Below w.heap.size w (w.alloc (.cells #[.int .i64 0, .int .i64 0, .slice none 0 0] 38))) := hide ((Below.refl _ _).alloc (Nat.le_refl _) _)
  have V0 : Hid (HV (w.alloc (.cells #[.int .i64 0, .int .i64 0, .slice none 0 0] 38)) w.heap.size 0 0 (.slice none 0 0)) := hide (hv_new _ _ _ _)
  have hz0 : (w.alloc (.cells #[.int .i64 0, .int .i64 0, .slice none 0 0] 38)).heap.size = w.heap.size + 1 := by simp
  clear hl hlb hsz
  go_enter Try.func59, Try.ntmps59
  go_wp2_with fail
  generalize hW : w.alloc (.cells #[.int .i64 0, .int .i64 0, .slice none 0 0] 38) = W0 at *
  clear hW
  go_cut [4] (fun h wx => ∃ B v, h = .pointer (some ⟨B, 0, none⟩) ∧ HV wx B (fld s.data.toList 0) (timOf s.data.toList) v ∧ wx.ownsRow (w.heap.size + 1) 49 4 v ([] : List R).length (Nb.flat []) ∧ Below (w.heap.size + 1) W0 wx ∧ w.heap.size + 1 ≤ B)
  case first =>
    refine wp_region_noPanic ?_
    refine wp_region_held_drew (S := fun _ => True) (by kernel_rfl) trivial (fun hHeld => ?_)
    (refine Rg.tk (i := 0) (d := 26) (v := ?_) rfl rfl (by kernel_rfl) (by kernel_rfl) (by kernel_rfl) (fun _ _ _ h => h) (by rfl) ?_ (by assumption) ?_; rotate_left; (focus (intro w0 hSw; (try dsimp only at hSw); go_simp; (try with_reducible rfl))); (try simp only [Act.put, List.setIfInBounds_toArray, List.set_cons_zero, List.set_cons_succ]))
    (refine Rg.tk (i := 1) (d := 27) (v := .int .u8 (fld s.data.toList 0)) rfl rfl (by kernel_rfl) (by kernel_rfl) (by kernel_rfl) (fun _ _ _ h => h) (by rfl) ?_ (by assumption) ?_; (focus (intro w0 hSw; (try dsimp only at hSw); go_simp)); (try simp only [Act.put, List.setIfInBounds_toArray, List.set_cons_zero, List.set_cons_succ]))
    (refine Rg.tk (i := 2) (d := 28) (v := ?_) rfl rfl (by kernel_rfl) (by kernel_rfl) (by kernel_rfl) (fun _ _ _ h => h) (by rfl) ?_ (by assumption) ?_; rotate_left; (focus (intro w0 hSw; (try dsimp only at hSw); go_simp; (try with_reducible rfl))); (try simp only [Act.put, List.setIfInBounds_toArray, List.set_cons_zero, List.set_cons_succ]))
    (refine Rg.tk (i := 3) (d := 29) (v := ?_) rfl rfl (by kernel_rfl) (by kernel_rfl) (by kernel_rfl) (fun _ _ _ h => h) (by rfl) ?_ (by assumption) ?_; rotate_left; (focus (intro w0 hSw; (try dsimp only at hSw); go_simp; (try with_reducible rfl))); (try simp only [Act.put, List.setIfInBounds_toArray, List.set_cons_zero, List.set_cons_succ]))
    (refine Rg.tk (i := 4) (d := 30) (v := .int .u8 (fld s.data.toList 1)) rfl rfl (by kernel_rfl) (by kernel_rfl) (by kernel_rfl) (fun _ _ _ h => h) (by rfl) ?_ (by assumption) ?_; (focus (intro w0 hSw; (try dsimp only at hSw); go_simp)); (try simp only [Act.put, List.setIfInBounds_toArray, List.set_cons_zero, List.set_cons_succ]))
    (refine Rg.tk (i := 5) (d := 31) (v := ?_) rfl rfl (by kernel_rfl) (by kernel_rfl) (by kernel_rfl) (fun _ _ _ h => h) (by rfl) ?_ (by assumption) ?_; rotate_left; (focus (intro w0 hSw; (try dsimp only at hSw); go_simp; (try with_reducible rfl))); (try simp only [Act.put, List.setIfInBounds_toArray, List.set_cons_zero, List.set_cons_succ]))
    have QBV : Hid (Below (w.heap.size + 1) W0 W0.drew) := hide ((Below.refl _ _).drew)
    have hvs : w.heap.size + 1 ≤ W0.drew.heap.size := by show w.heap.size + 1 ≤ W0.heap.size; omega
    have hws : W0.heap.size = w.heap.size + 1 := hz0
    generalize hV : W0.drew = V at *
    clear hV
    (refine wpAnyH_ready (rs := [6, 7, 9]) (by kernel_rfl) (by simp) ?_; refine AllReadyH.cons (o := _) rfl (fun K hK => ?_) (AllReadyH.cons (o := _) rfl (fun K hK => ?_) (AllReadyH.cons (o := _) rfl (fun K hK => ?_) (AllReadyH.nil))))
    · go_simp
      refine (unhide HT _).mono ?_
      rintro e w9 ⟨rfl, hw9⟩
      rw [hw9]
      clear hw9 w9
      refine hK.out _ _ trivial (fun hHeld => ?_)
      clear hK K
      (try simp only [Act.put, List.setIfInBounds_toArray, List.set_cons_zero, List.set_cons_succ])
      (refine wpAnyH_ready (rs := [7, 9]) (by kernel_rfl) (by simp) ?_; refine AllReadyH.cons (o := _) rfl (fun K hK => ?_) (AllReadyH.cons (o := _) rfl (fun K hK => ?_) (AllReadyH.nil)))
      · go_simp
        refine hK.out _ _ trivial (fun hHeld => ?_)
        clear hK K
        (try simp only [Act.put, List.setIfInBounds_toArray, List.set_cons_zero, List.set_cons_succ])
        (refine Rg.tk (i := 8) (d := 34) (v := ?_) rfl rfl (by kernel_rfl) (by kernel_rfl) (by kernel_rfl) (fun _ _ _ h => h) (by rfl) ?_ (by assumption) ?_; rotate_left; (focus (intro w0 hSw; (try dsimp only at hSw); go_simp; (try with_reducible rfl))); (try simp only [Act.put, List.setIfInBounds_toArray, List.set_cons_zero, List.set_cons_succ]))
        (refine wpAnyH_ready (rs := [9]) (by kernel_rfl) (by simp) ?_; refine AllReadyH.cons (o := _) rfl (fun K hK => ?_) AllReadyH.nil; go_simp)
        refine hK.out _ _ trivial (fun hHeld => ?_)
        clear hK K
        (try simp only [Act.put, List.setIfInBounds_toArray, List.set_cons_zero, List.set_cons_succ])
        (refine wpAnyH_ready (rs := [10]) (by kernel_rfl) (by simp) ?_; refine AllReadyH.cons (o := _) rfl (fun K hK => ?_) AllReadyH.nil; go_simp)
        refine hK.out _ _ trivial (fun hHeld => ?_)
        clear hK K
        (try simp only [Act.put, List.setIfInBounds_toArray, List.set_cons_zero, List.set_cons_succ])
        refine wpAnyH_done (by kernel_rfl) (NoPanic.normal ?_) _
        clear hHeld
        go_wp2_with fail
        go_meet
        case rel => exact ⟨_, _, rfl, (formA V (w.heap.size + 1) (fld s.data.toList 0) (timOf s.data.toList) hvs).1, (formA V (w.heap.size + 1) (fld s.data.toList 0) (timOf s.data.toList) hvs).2, ((unhide QBV).alloc hvs _).alloc (by simp; omega) _, by omega⟩
      · go_simp
        refine hK.out _ _ trivial (fun hHeld => ?_)
        clear hK K
        (try simp only [Act.put, List.setIfInBounds_toArray, List.set_cons_zero, List.set_cons_succ])
        (refine wpAnyH_ready (rs := [7]) (by kernel_rfl) (by simp) ?_; refine AllReadyH.cons (o := _) rfl (fun K hK => ?_) AllReadyH.nil; go_simp)
        refine hK.out _ _ trivial (fun hHeld => ?_)
        clear hK K
        (try simp only [Act.put, List.setIfInBounds_toArray, List.set_cons_zero, List.set_cons_succ])
        (refine Rg.tk (i := 8) (d := 34) (v := ?_) rfl rfl (by kernel_rfl) (by kernel_rfl) (by kernel_rfl) (fun _ _ _ h => h) (by rfl) ?_ (by assumption) ?_; rotate_left; (focus (intro w0 hSw; (try dsimp only at hSw); go_simp; (try with_reducible rfl))); (try simp only [Act.put, List.setIfInBounds_toArray, List.set_cons_zero, List.set_cons_succ]))
        (refine wpAnyH_ready (rs := [10]) (by kernel_rfl) (by simp) ?_; refine AllReadyH.cons (o := _) rfl (fun K hK => ?_) AllReadyH.nil; go_simp)
        refine hK.out _ _ trivial (fun hHeld => ?_)
        clear hK K
        (try simp only [Act.put, List.setIfInBounds_toArray, List.set_cons_zero, List.set_cons_succ])
        refine wpAnyH_done (by kernel_rfl) (NoPanic.normal ?_) _
        clear hHeld
        go_wp2_with fail
        go_meet
        case rel => exact ⟨_, _, rfl, (formB V (w.heap.size + 1) (fld s.data.toList 0) (timOf s.data.toList) hvs).1, (formB V (w.heap.size + 1) (fld s.data.toList 0) (timOf s.data.toList) hvs).2, ((unhide QBV).alloc hvs _).alloc (by simp; omega) _, by omega⟩
    · go_simp
      refine hK.out _ _ trivial (fun hHeld => ?_)
      clear hK K
      (try simp only [Act.put, List.setIfInBounds_toArray, List.set_cons_zero, List.set_cons_succ])
      (refine wpAnyH_ready (rs := [6, 9]) (by kernel_rfl) (by simp) ?_; refine AllReadyH.cons (o := _) rfl (fun K hK => ?_) (AllReadyH.cons (o := _) rfl (fun K hK => ?_) (AllReadyH.nil)))
      · go_simp
        refine (unhide HT _).mono ?_
        rintro e w9 ⟨rfl, hw9⟩
        rw [hw9]
        clear hw9 w9
        refine hK.out _ _ trivial (fun hHeld => ?_)
        clear hK K
        (try simp only [Act.put, List.setIfInBounds_toArray, List.set_cons_zero, List.set_cons_succ])
        (refine Rg.tk (i := 8) (d := 34) (v := ?_) rfl rfl (by kernel_rfl) (by kernel_rfl) (by kernel_rfl) (fun _ _ _ h => h) (by rfl) ?_ (by assumption) ?_; rotate_left; (focus (intro w0 hSw; (try dsimp only at hSw); go_simp; (try with_reducible rfl))); (try simp only [Act.put, List.setIfInBounds_toArray, List.set_cons_zero, List.set_cons_succ]))
        (refine wpAnyH_ready (rs := [9]) (by kernel_rfl) (by simp) ?_; refine AllReadyH.cons (o := _) rfl (fun K hK => ?_) AllReadyH.nil; go_simp)
        refine hK.out _ _ trivial (fun hHeld => ?_)
        clear hK K
        (try simp only [Act.put, List.setIfInBounds_toArray, List.set_cons_zero, List.set_cons_succ])
        (refine wpAnyH_ready (rs := [10]) (by kernel_rfl) (by simp) ?_; refine AllReadyH.cons (o := _) rfl (fun K hK => ?_) AllReadyH.nil; go_simp)
        refine hK.out _ _ trivial (fun hHeld => ?_)
        clear hK K
        (try simp only [Act.put, List.setIfInBounds_toArray, List.set_cons_zero, List.set_cons_succ])
        refine wpAnyH_done (by kernel_rfl) (NoPanic.normal ?_) _
        clear hHeld
        go_wp2_with fail
        go_meet
        case rel => exact ⟨_, _, rfl, (formA V (w.heap.size + 1) (fld s.data.toList 0) (timOf s.data.toList) hvs).1, (formA V (w.heap.size + 1) (fld s.data.toList 0) (timOf s.data.toList) hvs).2, ((unhide QBV).alloc hvs _).alloc (by simp; omega) _, by omega⟩
      · go_simp
        refine hK.out _ _ trivial (fun hHeld => ?_)
        clear hK K
        (try simp only [Act.put, List.setIfInBounds_toArray, List.set_cons_zero, List.set_cons_succ])
        (refine wpAnyH_ready (rs := [6]) (by kernel_rfl) (by simp) ?_; refine AllReadyH.cons (o := _) rfl (fun K hK => ?_) AllReadyH.nil; go_simp)
        refine (unhide HT _).mono ?_
        rintro e w9 ⟨rfl, hw9⟩
        rw [hw9]
        clear hw9 w9
        refine hK.out _ _ trivial (fun hHeld => ?_)
        clear hK K
        (try simp only [Act.put, List.setIfInBounds_toArray, List.set_cons_zero, List.set_cons_succ])
        (refine Rg.tk (i := 8) (d := 34) (v := ?_) rfl rfl (by kernel_rfl) (by kernel_rfl) (by kernel_rfl) (fun _ _ _ h => h) (by rfl) ?_ (by assumption) ?_; rotate_left; (focus (intro w0 hSw; (try dsimp only at hSw); go_simp; (try with_reducible rfl))); (try simp only [Act.put, List.setIfInBounds_toArray, List.set_cons_zero, List.set_cons_succ]))
        (refine wpAnyH_ready (rs := [10]) (by kernel_rfl) (by simp) ?_; refine AllReadyH.cons (o := _) rfl (fun K hK => ?_) AllReadyH.nil; go_simp)
        refine hK.out _ _ trivial (fun hHeld => ?_)
        clear hK K
        (try simp only [Act.put, List.setIfInBounds_toArray, List.set_cons_zero, List.set_cons_succ])
        refine wpAnyH_done (by kernel_rfl) (NoPanic.normal ?_) _
        clear hHeld
        go_wp2_with fail
        go_meet
        case rel => exact ⟨_, _, rfl, (formA V (w.heap.size + 1) (fld s.data.toList 0) (timOf s.data.toList) hvs).1, (formA V (w.heap.size + 1) (fld s.data.toList 0) (timOf s.data.toList) hvs).2, ((unhide QBV).alloc hvs _).alloc (by simp; omega) _, by omega⟩
    · go_simp
      refine hK.out _ _ trivial (fun hHeld => ?_)
      clear hK K
      (try simp only [Act.put, List.setIfInBounds_toArray, List.set_cons_zero, List.set_cons_succ])
      (refine wpAnyH_ready (rs := [6, 7]) (by kernel_rfl) (by simp) ?_; refine AllReadyH.cons (o := _) rfl (fun K hK => ?_) (AllReadyH.cons (o := _) rfl (fun K hK => ?_) (AllReadyH.nil)))
      · go_simp
        refine (unhide HT _).mono ?_
        rintro e w9 ⟨rfl, hw9⟩
        rw [hw9]
        clear hw9 w9
        refine hK.out _ _ trivial (fun hHeld => ?_)
        clear hK K
        (try simp only [Act.put, List.setIfInBounds_toArray, List.set_cons_zero, List.set_cons_succ])
        (refine wpAnyH_ready (rs := [7]) (by kernel_rfl) (by simp) ?_; refine AllReadyH.cons (o := _) rfl (fun K hK => ?_) AllReadyH.nil; go_simp)
        refine hK.out _ _ trivial (fun hHeld => ?_)
        clear hK K
        (try simp only [Act.put, List.setIfInBounds_toArray, List.set_cons_zero, List.set_cons_succ])
        (refine Rg.tk (i := 8) (d := 34) (v := ?_) rfl rfl (by kernel_rfl) (by kernel_rfl) (by kernel_rfl) (fun _ _ _ h => h) (by rfl) ?_ (by assumption) ?_; rotate_left; (focus (intro w0 hSw; (try dsimp only at hSw); go_simp; (try with_reducible rfl))); (try simp only [Act.put, List.setIfInBounds_toArray, List.set_cons_zero, List.set_cons_succ]))
        (refine wpAnyH_ready (rs := [10]) (by kernel_rfl) (by simp) ?_; refine AllReadyH.cons (o := _) rfl (fun K hK => ?_) AllReadyH.nil; go_simp)
        refine hK.out _ _ trivial (fun hHeld => ?_)
        clear hK K
        (try simp only [Act.put, List.setIfInBounds_toArray, List.set_cons_zero, List.set_cons_succ])
        refine wpAnyH_done (by kernel_rfl) (NoPanic.normal ?_) _
        clear hHeld
        go_wp2_with fail
        go_meet
        case rel => exact ⟨_, _, rfl, (formB V (w.heap.size + 1) (fld s.data.toList 0) (timOf s.data.toList) hvs).1, (formB V (w.heap.size + 1) (fld s.data.toList 0) (timOf s.data.toList) hvs).2, ((unhide QBV).alloc hvs _).alloc (by simp; omega) _, by omega⟩
      · go_simp
        refine hK.out _ _ trivial (fun hHeld => ?_)
        clear hK K
        (try simp only [Act.put, List.setIfInBounds_toArray, List.set_cons_zero, List.set_cons_succ])
        (refine wpAnyH_ready (rs := [6]) (by kernel_rfl) (by simp) ?_; refine AllReadyH.cons (o := _) rfl (fun K hK => ?_) AllReadyH.nil; go_simp)
        refine (unhide HT _).mono ?_
        rintro e w9 ⟨rfl, hw9⟩
        rw [hw9]
        clear hw9 w9
        refine hK.out _ _ trivial (fun hHeld => ?_)
        clear hK K
        (try simp only [Act.put, List.setIfInBounds_toArray, List.set_cons_zero, List.set_cons_succ])
        (refine Rg.tk (i := 8) (d := 34) (v := ?_) rfl rfl (by kernel_rfl) (by kernel_rfl) (by kernel_rfl) (fun _ _ _ h => h) (by rfl) ?_ (by assumption) ?_; rotate_left; (focus (intro w0 hSw; (try dsimp only at hSw); go_simp; (try with_reducible rfl))); (try simp only [Act.put, List.setIfInBounds_toArray, List.set_cons_zero, List.set_cons_succ]))
        (refine wpAnyH_ready (rs := [10]) (by kernel_rfl) (by simp) ?_; refine AllReadyH.cons (o := _) rfl (fun K hK => ?_) AllReadyH.nil; go_simp)
        refine hK.out _ _ trivial (fun hHeld => ?_)
        clear hK K
        (try simp only [Act.put, List.setIfInBounds_toArray, List.set_cons_zero, List.set_cons_succ])
        refine wpAnyH_done (by kernel_rfl) (NoPanic.normal ?_) _
        clear hHeld
        go_wp2_with fail
        go_meet
        case rel => exact ⟨_, _, rfl, (formB V (w.heap.size + 1) (fld s.data.toList 0) (timOf s.data.toList) hvs).1, (formB V (w.heap.size + 1) (fld s.data.toList 0) (timOf s.data.toList) hvs).2, ((unhide QBV).alloc hvs _).alloc (by simp; omega) _, by omega⟩
  case rest =>
    obtain ⟨B, v0, rfl, hv0, ho0, hb0, hB⟩ := hcut
    have HV0 := hide hv0
    have HO0 : Hid (wc.ownsRow (w.heap.size + 1) 49 4 v0 (grps s.data.toList 0).length (Nb.flat (grps s.data.toList 0))) := hide ho0
    have HB0 := hide hb0
    clear hv0 ho0 hb0 e0 e1 e2 wf0 wf1 wf2 h223 hl'
    generalize hbs : s.data.toList = bs at *
    have HBS := hide hbs
    clear hbs
    generalize hnn : nOf bs = n at *
    have HNN := hide hnn
    clear hnn
    go_wp2_with fail
    go_loopw [5] (fun i wr => ∃ (j : Nat) (v : Value), j ≤ n ∧ i = .int .i64 ((3 + 4 * j : Nat) : Int) ∧ Hid (∀ k, k < j → two bs (5 + 4 * k) ≤ 4095) ∧ Hid (HV wr B (fld bs 0) (timOf bs) v) ∧ Hid (wr.ownsRow (w.heap.size + 1) 49 4 v (grps bs j).length (Nb.flat (grps bs j))) ∧ Hid (Below (w.heap.size + 1) W0 wr)) (fun i _ => s.size - (intOf i).toNat)
    case atStart => exact ⟨0, v0, by omega, rfl, hide (fun k hk => by omega), HV0, HO0, HB0⟩
    case round =>
      obtain ⟨j, v, hj, rfl, hcd, hhv, how, hbl⟩ := hrel
      by_cases hjn : j < n
      · have hss : s.size = 3 + 4 * n := unhide HZ
        obtain ⟨i, hi⟩ : ∃ i, 3 + 4 * j = i := ⟨_, rfl⟩
        have hi4 : i + 4 ≤ s.size := by omega
        have HI := hide hi
        rw [hi]
        clear hi hss
        have zi : (i : Int) < s.size := by omega
        have zi1 : (i : Int) + 1 < s.size := by omega
        have zi2 : (i : Int) + 2 ≤ s.size := by omega
        have zi4 : (i : Int) + 4 ≤ s.size := by omega
        have k0 : (0 : Int) ≤ (i : Int) := by omega
        have N2 : Hid ((256 : Int) * (((s[i + 2]'(by omega)).toNat : Nat) : Int) + (((s[i + 2 + 1]'(by omega)).toNat : Nat) : Int) = two bs (i + 2)) := hide (by rw [← unhide HBS]; exact two_at s (i + 2) (by omega))
        have hsc : ∀ W : World, (Instr.slice 9 (.string s) (some (.int .i64 ((i : Int) + 2))) (some (.int .i64 ((i : Int) + 4))) none).run Try.prog W = .ok (.string ⟨#[s[i + 2]'(by omega), s[i + 2 + 1]'(by omega)]⟩) W := fun W => by
          rw [run_slice_string W 9 s .i64 .i64 _ _ Try.underlying9 (by omega) (by omega) (by omega), ← extract_two s (i + 2) (by omega)]
          rw [show ((i : Int) + 2).toNat = i + 2 by omega, show ((i : Int) + 4).toNat = i + 2 + 2 by omega]
        go_wp2_with fail
        refine (l01Of _ (s[i + 2]'(by omega)) (s[i + 2 + 1]'(by omega)) rfl _).mono ?_
        rintro e w1 ⟨rfl, hw1⟩
        rw [hw1, unhide N2]
        clear hw1 w1 hsc
        have c0 := two_lo bs (i + 2)
        by_cases hcode : 4095 < two bs (i + 2)
        · obtain ⟨⟨x0, x1, x2⟩, xf⟩ : Bx3 wr w.heap.size 0 0 (.slice none 0 0) ∧ ∀ q, wr.frozen? ⟨w.heap.size, q, none⟩ = false := by
            have := (unhide V0).under (unhide hbl) (by omega); exact ⟨this.bx, this.free⟩
          have y0 := xf 0
          have y1 := xf 1
          have y2 := xf 2
          clear xf
          have HBF : Hid (Below w.heap.size w wr) := hide ((unhide A0).trans ((unhide hbl).mono (by omega)))
          have hf := hide (unhide HN (by unfold decG; rw [unhide HNN, codes_no (i := j) hjn (by rw [show 5 + 4 * j = i + 2 by have := unhide HI; omega]; exact hcode)]; simp))
          go_wp2_with fail
          refine bodyPost_ret (v := .tuple #[.agg #[.int .i64 0, .int .i64 0, .slice none 0 0], .bool false]) (by simp [results, Try.results59, go_sem, x0, x1, x2]) rfl ?_
          rw [unhide HBS]
          refine unhide hf _ ?_
          have hBB := unhide HBF
          repeat (first | exact hBB | refine Below.setCell ?_ (by simp <;> omega) _)
        · have HCD : Hid (∀ k, k < j + 1 → two bs (5 + 4 * k) ≤ 4095) := hide (fun k hk => by
            by_cases e : k = j
            · subst e; rw [show 5 + 4 * k = i + 2 by have := unhide HI; omega]; omega
            · exact unhide hcd k (by omega))
          have hc1 : (two bs (i + 2)).toNat ≤ 4095 := by omega
          have HM : Hid (∀ W : World, Calls Try.prog 67 #[.int .i64 (two bs (i + 2))] W fun e w' => e = .returned (.int .i64 (Mtr.met (two bs (i + 2)).toNat)) ∧ w' = W) := hide (fun W => by
            have := Mtr.l02Metric (two bs (i + 2)).toNat hc1 W
            rw [show (((two bs (i + 2)).toNat : Nat) : Int) = two bs (i + 2) by omega] at this; exact this)
          have ei : (((s[i]'(by omega)).toNat : Nat) : Int) = fld bs i := by rw [← unhide HBS]; exact fld_at s i (by omega)
          have ei1 : (((s[i + 1]'(by omega)).toNat : Nat) : Int) = fld bs (i + 1) := by rw [← unhide HBS]; exact fld_at s (i + 1) (by omega)
          have wi := wrapF bs i
          have lo0 := fld_lo bs i
          have hi0 := fld_hi bs i
          have lo1 := fld_lo bs (i + 1)
          have hi1 := fld_hi bs (i + 1)
          have an := and_127 (fld bs (i + 1)) lo1 hi1
          have wa : IntKind.i64.wrap (fld bs (i + 1) % 128) = fld bs (i + 1) % 128 := by rw [IntKind.wrap_i64]; omega
          have HGS : Hid (grps bs (j + 1) = grps bs j ++ [⟨fld bs i, fld bs (i + 1) % 128, Mtr.met (two bs (i + 2)).toNat, decide (127 < fld bs (i + 1))⟩]) := hide (by
            rw [grps_succ]; unfold grp
            rw [show 3 + 4 * j = i by have := unhide HI; omega, show 4 + 4 * j = i + 1 by have := unhide HI; omega, show 5 + 4 * j = i + 2 by have := unhide HI; omega])
          have hgl : (grps bs j).length ≤ 255 := by rw [grps_len]; omega
          have hx0 : ∀ W : World, (Instr.index 9 (.string s) (.int .i64 (i : Int))).run Try.prog W = .ok (.int .u8 (fld bs i)) W := fun W => by rw [← unhide HBS]; exact idx_at W s _ i rfl (by omega)
          have hx1 : ∀ W : World, (Instr.index 9 (.string s) (.int .i64 ((i : Int) + 1))).run Try.prog W = .ok (.int .u8 (fld bs (i + 1))) W := fun W => by rw [← unhide HBS]; exact idx_at W s _ (i + 1) (by omega) (by omega)
          have wi1 : IntKind.i64.wrap ((i : Int) + 1) = (i : Int) + 1 := by rw [IntKind.wrap_i64]; omega
          clear ei ei1
          go_wp2_with fail
          refine wp_region_noPanic ?_
          refine wp_region_held_drew (S := fun _ => True) (by kernel_rfl) trivial (fun hHeld => ?_)
          (refine Rg.tk (i := 0) (d := 51) (v := ?_) rfl rfl (by kernel_rfl) (by kernel_rfl) (by kernel_rfl) (fun _ _ _ h => h) (by rfl) ?_ (by assumption) ?_; rotate_left; (focus (intro w0 hSw; (try dsimp only at hSw); go_simp; (try with_reducible rfl))); (try simp only [Act.put, List.setIfInBounds_toArray, List.set_cons_zero, List.set_cons_succ]))
          (refine Rg.tk (i := 2) (d := 53) (v := ?_) rfl rfl (by kernel_rfl) (by kernel_rfl) (by kernel_rfl) (fun _ _ _ h => h) (by rfl) ?_ (by assumption) ?_; rotate_left; (focus (intro w0 hSw; (try dsimp only at hSw); go_simp; (try with_reducible rfl))); (try simp only [Act.put, List.setIfInBounds_toArray, List.set_cons_zero, List.set_cons_succ]))
          (refine Rg.tk (i := 3) (d := 54) (v := ?_) rfl rfl (by kernel_rfl) (by kernel_rfl) (by kernel_rfl) (fun _ _ _ h => h) (by rfl) ?_ (by assumption) ?_; rotate_left; (focus (intro w0 hSw; (try dsimp only at hSw); go_simp; (try with_reducible rfl))); (try simp only [Act.put, List.setIfInBounds_toArray, List.set_cons_zero, List.set_cons_succ]))
          (refine Rg.tk (i := 4) (d := 55) (v := .int .u8 (fld bs i)) rfl rfl (by kernel_rfl) (by kernel_rfl) (by kernel_rfl) (fun _ _ _ h => h) (by rfl) ?_ (by assumption) ?_; (focus (intro w0 hSw; (try dsimp only at hSw); go_simp)); (try simp only [Act.put, List.setIfInBounds_toArray, List.set_cons_zero, List.set_cons_succ]))
          (refine Rg.tk (i := 5) (d := 56) (v := .int .i64 (fld bs i)) rfl rfl (by kernel_rfl) (by kernel_rfl) (by kernel_rfl) (fun _ _ _ h => h) (by rfl) ?_ (by assumption) ?_; (focus (intro w0 hSw; (try dsimp only at hSw); go_simp)); (try simp only [Act.put, List.setIfInBounds_toArray, List.set_cons_zero, List.set_cons_succ]))
          (refine Rg.tk (i := 6) (d := 57) (v := ?_) rfl rfl (by kernel_rfl) (by kernel_rfl) (by kernel_rfl) (fun _ _ _ h => h) (by rfl) ?_ (by assumption) ?_; rotate_left; (focus (intro w0 hSw; (try dsimp only at hSw); go_simp; (try with_reducible rfl))); (try simp only [Act.put, List.setIfInBounds_toArray, List.set_cons_zero, List.set_cons_succ]))
          (refine Rg.tk (i := 7) (d := 58) (v := ?_) rfl rfl (by kernel_rfl) (by kernel_rfl) (by kernel_rfl) (fun _ _ _ h => h) (by rfl) ?_ (by assumption) ?_; rotate_left; (focus (intro w0 hSw; (try dsimp only at hSw); go_simp; (try with_reducible rfl))); (try simp only [Act.put, List.setIfInBounds_toArray, List.set_cons_zero, List.set_cons_succ]))
          (refine Rg.tk (i := 8) (d := 59) (v := .int .i64 ((i : Int) + 1)) rfl rfl (by kernel_rfl) (by kernel_rfl) (by kernel_rfl) (fun _ _ _ h => h) (by rfl) ?_ (by assumption) ?_; (focus (intro w0 hSw; (try dsimp only at hSw); go_simp)); (try simp only [Act.put, List.setIfInBounds_toArray, List.set_cons_zero, List.set_cons_succ]))
          (refine Rg.tk (i := 9) (d := 60) (v := .int .u8 (fld bs (i + 1))) rfl rfl (by kernel_rfl) (by kernel_rfl) (by kernel_rfl) (fun _ _ _ h => h) (by rfl) ?_ (by assumption) ?_; (focus (intro w0 hSw; (try dsimp only at hSw); go_simp)); (try simp only [Act.put, List.setIfInBounds_toArray, List.set_cons_zero, List.set_cons_succ]))
          (refine Rg.tk (i := 10) (d := 61) (v := .int .u8 (fld bs (i + 1) % 128)) rfl rfl (by kernel_rfl) (by kernel_rfl) (by kernel_rfl) (fun _ _ _ h => h) (by rfl) ?_ (by assumption) ?_; (focus (intro w0 hSw; (try dsimp only at hSw); go_simp)); (try simp only [Act.put, List.setIfInBounds_toArray, List.set_cons_zero, List.set_cons_succ]))
          (refine Rg.tk (i := 11) (d := 62) (v := .int .i64 (fld bs (i + 1) % 128)) rfl rfl (by kernel_rfl) (by kernel_rfl) (by kernel_rfl) (fun _ _ _ h => h) (by rfl) ?_ (by assumption) ?_; (focus (intro w0 hSw; (try dsimp only at hSw); go_simp)); (try simp only [Act.put, List.setIfInBounds_toArray, List.set_cons_zero, List.set_cons_succ]))
          (refine Rg.tk (i := 12) (d := 63) (v := ?_) rfl rfl (by kernel_rfl) (by kernel_rfl) (by kernel_rfl) (fun _ _ _ h => h) (by rfl) ?_ (by assumption) ?_; rotate_left; (focus (intro w0 hSw; (try dsimp only at hSw); go_simp; (try with_reducible rfl))); (try simp only [Act.put, List.setIfInBounds_toArray, List.set_cons_zero, List.set_cons_succ]))
          (refine Rg.tk (i := 14) (d := 65) (v := ?_) rfl rfl (by kernel_rfl) (by kernel_rfl) (by kernel_rfl) (fun _ _ _ h => h) (by rfl) ?_ (by assumption) ?_; rotate_left; (focus (intro w0 hSw; (try dsimp only at hSw); go_simp; (try with_reducible rfl))); (try simp only [Act.put, List.setIfInBounds_toArray, List.set_cons_zero, List.set_cons_succ]))
          (refine Rg.tk (i := 15) (d := 66) (v := ?_) rfl rfl (by kernel_rfl) (by kernel_rfl) (by kernel_rfl) (fun _ _ _ h => h) (by rfl) ?_ (by assumption) ?_; rotate_left; (focus (intro w0 hSw; (try dsimp only at hSw); go_simp; (try with_reducible rfl))); (try simp only [Act.put, List.setIfInBounds_toArray, List.set_cons_zero, List.set_cons_succ]))
          (refine Rg.tk (i := 16) (d := 67) (v := .int .i64 ((i : Int) + 1)) rfl rfl (by kernel_rfl) (by kernel_rfl) (by kernel_rfl) (fun _ _ _ h => h) (by rfl) ?_ (by assumption) ?_; (focus (intro w0 hSw; (try dsimp only at hSw); go_simp)); (try simp only [Act.put, List.setIfInBounds_toArray, List.set_cons_zero, List.set_cons_succ]))
          (refine Rg.tk (i := 17) (d := 68) (v := .int .u8 (fld bs (i + 1))) rfl rfl (by kernel_rfl) (by kernel_rfl) (by kernel_rfl) (fun _ _ _ h => h) (by rfl) ?_ (by assumption) ?_; (focus (intro w0 hSw; (try dsimp only at hSw); go_simp)); (try simp only [Act.put, List.setIfInBounds_toArray, List.set_cons_zero, List.set_cons_succ]))
          (refine Rg.tk (i := 18) (d := 69) (v := .bool (decide (127 < fld bs (i + 1)))) rfl rfl (by kernel_rfl) (by kernel_rfl) (by kernel_rfl) (fun _ _ _ h => h) (by rfl) ?_ (by assumption) ?_; (focus (intro w0 hSw; (try dsimp only at hSw); go_simp)); (try simp only [Act.put, List.setIfInBounds_toArray, List.set_cons_zero, List.set_cons_succ]))
          have hhd := hide ((unhide hhv).drew)
          have hod := hide ((unhide how).drew)
          have hbd := hide ((unhide hbl).drew)
          generalize hV : wr.drew = V at *
          clear hV
          have hVs : w.heap.size + 1 ≤ V.heap.size := by have := (unhide hbd).size; omega
          have hBV := (unhide hhd).lt
          have hcell := (unhide hhd).bx.2.2
          have h2 := hide ((unhide hhd).below ((Below.refl _ _).alloc (Nat.le_refl _) (.cells #[.int .i64 (fld bs i), .int .i64 (fld bs (i + 1) % 128), .int .i64 (Mtr.met (two bs (i + 2)).toNat), .bool (decide (127 < fld bs (i + 1)))] 49)))
          have o2 := hide ((unhide hod).alloc (.cells #[.int .i64 (fld bs i), .int .i64 (fld bs (i + 1) % 128), .int .i64 (Mtr.met (two bs (i + 2)).toNat), .bool (decide (127 < fld bs (i + 1)))] 49))
          have b2h := hide ((unhide hbd).alloc hVs (.cells #[.int .i64 (fld bs i), .int .i64 (fld bs (i + 1) % 128), .int .i64 (Mtr.met (two bs (i + 2)).toNat), .bool (decide (127 < fld bs (i + 1)))] 49))
          have r2 := hide (Nb.rm_new V ⟨fld bs i, fld bs (i + 1) % 128, Mtr.met (two bs (i + 2)).toNat, decide (127 < fld bs (i + 1))⟩)
          clear hx0 hx1 wi wi1 wa an
          (refine wpAnyH_ready (rs := [1, 13]) (by kernel_rfl) (by simp) ?_; refine AllReadyH.cons (o := _) rfl (fun K hK => ?_) (AllReadyH.cons (o := _) rfl (fun K hK => ?_) (AllReadyH.nil)))
          · go_simp
            clear hHeld
            refine hK.out _ _ trivial (fun hHeld => ?_)
            clear hK K
            (try simp only [Act.put, List.setIfInBounds_toArray, List.set_cons_zero, List.set_cons_succ])
            (refine wpAnyH_ready (rs := [13]) (by kernel_rfl) (by simp) ?_; refine AllReadyH.cons (o := _) rfl (fun K hK => ?_) AllReadyH.nil; go_simp)
            refine (unhide HM _).mono ?_
            rintro e w9 ⟨rfl, hw9⟩
            rw [hw9]
            clear hw9 w9
            clear hHeld
            refine hK.out _ _ trivial (fun hHeld => ?_)
            clear hK K
            (try simp only [Act.put, List.setIfInBounds_toArray, List.set_cons_zero, List.set_cons_succ])
            (refine Rg.tk (i := 19) (d := 70) (v := ?_) rfl rfl (by kernel_rfl) (by kernel_rfl) (by kernel_rfl) (fun _ _ _ h => h) (by rfl) ?_ (by assumption) ?_; rotate_left; (focus (intro w0 hSw; (try dsimp only at hSw); go_simp; (try with_reducible rfl))); (try simp only [Act.put, List.setIfInBounds_toArray, List.set_cons_zero, List.set_cons_succ]))
            (refine wpAnyH_ready (rs := [20]) (by kernel_rfl) (by simp) ?_; refine AllReadyH.cons (o := _) rfl (fun K hK => ?_) AllReadyH.nil; go_simp)
            clear hHeld
            refine hK.out _ _ trivial (fun hHeld => ?_)
            clear hK K
            (try simp only [Act.put, List.setIfInBounds_toArray, List.set_cons_zero, List.set_cons_succ])
            (refine wpAnyH_ready (rs := [21]) (by kernel_rfl) (by simp) ?_; refine AllReadyH.cons (o := _) rfl (fun K hK => ?_) AllReadyH.nil; rw [if_pos (by rfl)])
            refine Nb.wp_apS (unhide o2) V.heap.size 0 1 1 [⟨fld bs i, fld bs (i + 1) % 128, Mtr.met (two bs (i + 2)).toNat, decide (127 < fld bs (i + 1))⟩] rfl (unhide r2) (by simp only [List.length_cons, List.length_nil]; omega) (by simp; omega) _ _ rfl rfl rfl rfl ?_
            intro v4 w4 o4 g4
            obtain ⟨gq, cq, rfl, _, _⟩ := o4.form (by simp)
            rw [List.length_append, List.length_cons, List.length_nil] at o4 ⊢
            have O4 : Hid (w4.ownsRow (w.heap.size + 1) 49 4 (.slice (some ⟨gq, 0, none⟩) ((grps bs j).length + 1) cq) (grps bs (j + 1)).length (Nb.flat (grps bs (j + 1)))) := hide (by rw [unhide HGS, List.length_append, List.length_cons, List.length_nil]; exact o4)
            have B4 := hide (Nb.below_own (unhide b2h) (unhide o2) g4 (Nat.le_refl _) (by simp; omega))
            have H4 := hide ((unhide h2).grown g4 ((unhide h2).row (unhide o2)))
            clear o4 g4
            clear hHeld
            refine hK.out _ _ trivial (fun hHeld => ?_)
            clear hK K
            (try simp only [Act.put, List.setIfInBounds_toArray, List.set_cons_zero, List.set_cons_succ])
            (refine Rg.tk (i := 22) (d := 73) (v := ?_) rfl rfl (by kernel_rfl) (by kernel_rfl) (by kernel_rfl) (fun _ _ _ h => h) (by rfl) ?_ (by assumption) ?_; rotate_left; (focus (intro w0 hSw; (try dsimp only at hSw); go_simp; (try with_reducible rfl))); (try simp only [Act.put, List.setIfInBounds_toArray, List.set_cons_zero, List.set_cons_succ]))
            have fr2 := (unhide H4).free 2
            obtain ⟨q0, q1, q2⟩ := (unhide H4).bx
            (refine wpAnyH_ready (rs := [23]) (by kernel_rfl) (by simp) ?_; refine AllReadyH.cons (o := _) rfl (fun K hK => ?_) AllReadyH.nil; go_simp)
            have H5 := hide ((unhide H4).set (.slice (some ⟨gq, 0, none⟩) ((grps bs j).length + 1) cq))
            have O5 := hide (ownsRow_setCell_other (unhide O4) (a := ⟨B, 2, none⟩) (fun e => (unhide H4).row (unhide O4) e.symm) (.slice (some ⟨gq, 0, none⟩) ((grps bs j).length + 1) cq))
            have B5 := hide ((unhide B4).setCell (p := ⟨B, 2, none⟩) hB (.slice (some ⟨gq, 0, none⟩) ((grps bs j).length + 1) cq))
            clear hHeld
            refine hK.out _ _ trivial (fun hHeld => ?_)
            clear hK K
            (try simp only [Act.put, List.setIfInBounds_toArray, List.set_cons_zero, List.set_cons_succ])
            refine wpAnyH_done (by kernel_rfl) (NoPanic.normal ?_) _
            clear hHeld fr2 q0 q1 q2
            go_wp2_with fail
            go_roundw
            case rel => exact ⟨j + 1, _, by omega, by have := unhide HI; go_num, HCD, H5, O5, B5⟩
            case measure => simp [intOf]; omega
          · go_simp
            refine (unhide HM _).mono ?_
            rintro e w9 ⟨rfl, hw9⟩
            rw [hw9]
            clear hw9 w9
            clear hHeld
            refine hK.out _ _ trivial (fun hHeld => ?_)
            clear hK K
            (try simp only [Act.put, List.setIfInBounds_toArray, List.set_cons_zero, List.set_cons_succ])
            (refine Rg.tk (i := 19) (d := 70) (v := ?_) rfl rfl (by kernel_rfl) (by kernel_rfl) (by kernel_rfl) (fun _ _ _ h => h) (by rfl) ?_ (by assumption) ?_; rotate_left; (focus (intro w0 hSw; (try dsimp only at hSw); go_simp; (try with_reducible rfl))); (try simp only [Act.put, List.setIfInBounds_toArray, List.set_cons_zero, List.set_cons_succ]))
            (refine wpAnyH_ready (rs := [1, 20]) (by kernel_rfl) (by simp) ?_; refine AllReadyH.cons (o := _) rfl (fun K hK => ?_) (AllReadyH.cons (o := _) rfl (fun K hK => ?_) (AllReadyH.nil)))
            · go_simp
              clear hHeld
              refine hK.out _ _ trivial (fun hHeld => ?_)
              clear hK K
              (try simp only [Act.put, List.setIfInBounds_toArray, List.set_cons_zero, List.set_cons_succ])
              (refine wpAnyH_ready (rs := [20]) (by kernel_rfl) (by simp) ?_; refine AllReadyH.cons (o := _) rfl (fun K hK => ?_) AllReadyH.nil; go_simp)
              clear hHeld
              refine hK.out _ _ trivial (fun hHeld => ?_)
              clear hK K
              (try simp only [Act.put, List.setIfInBounds_toArray, List.set_cons_zero, List.set_cons_succ])
              (refine wpAnyH_ready (rs := [21]) (by kernel_rfl) (by simp) ?_; refine AllReadyH.cons (o := _) rfl (fun K hK => ?_) AllReadyH.nil; rw [if_pos (by rfl)])
              refine Nb.wp_apS (unhide o2) V.heap.size 0 1 1 [⟨fld bs i, fld bs (i + 1) % 128, Mtr.met (two bs (i + 2)).toNat, decide (127 < fld bs (i + 1))⟩] rfl (unhide r2) (by simp only [List.length_cons, List.length_nil]; omega) (by simp; omega) _ _ rfl rfl rfl rfl ?_
              intro v4 w4 o4 g4
              obtain ⟨gq, cq, rfl, _, _⟩ := o4.form (by simp)
              rw [List.length_append, List.length_cons, List.length_nil] at o4 ⊢
              have O4 : Hid (w4.ownsRow (w.heap.size + 1) 49 4 (.slice (some ⟨gq, 0, none⟩) ((grps bs j).length + 1) cq) (grps bs (j + 1)).length (Nb.flat (grps bs (j + 1)))) := hide (by rw [unhide HGS, List.length_append, List.length_cons, List.length_nil]; exact o4)
              have B4 := hide (Nb.below_own (unhide b2h) (unhide o2) g4 (Nat.le_refl _) (by simp; omega))
              have H4 := hide ((unhide h2).grown g4 ((unhide h2).row (unhide o2)))
              clear o4 g4
              clear hHeld
              refine hK.out _ _ trivial (fun hHeld => ?_)
              clear hK K
              (try simp only [Act.put, List.setIfInBounds_toArray, List.set_cons_zero, List.set_cons_succ])
              (refine Rg.tk (i := 22) (d := 73) (v := ?_) rfl rfl (by kernel_rfl) (by kernel_rfl) (by kernel_rfl) (fun _ _ _ h => h) (by rfl) ?_ (by assumption) ?_; rotate_left; (focus (intro w0 hSw; (try dsimp only at hSw); go_simp; (try with_reducible rfl))); (try simp only [Act.put, List.setIfInBounds_toArray, List.set_cons_zero, List.set_cons_succ]))
              have fr2 := (unhide H4).free 2
              obtain ⟨q0, q1, q2⟩ := (unhide H4).bx
              (refine wpAnyH_ready (rs := [23]) (by kernel_rfl) (by simp) ?_; refine AllReadyH.cons (o := _) rfl (fun K hK => ?_) AllReadyH.nil; go_simp)
              have H5 := hide ((unhide H4).set (.slice (some ⟨gq, 0, none⟩) ((grps bs j).length + 1) cq))
              have O5 := hide (ownsRow_setCell_other (unhide O4) (a := ⟨B, 2, none⟩) (fun e => (unhide H4).row (unhide O4) e.symm) (.slice (some ⟨gq, 0, none⟩) ((grps bs j).length + 1) cq))
              have B5 := hide ((unhide B4).setCell (p := ⟨B, 2, none⟩) hB (.slice (some ⟨gq, 0, none⟩) ((grps bs j).length + 1) cq))
              clear hHeld
              refine hK.out _ _ trivial (fun hHeld => ?_)
              clear hK K
              (try simp only [Act.put, List.setIfInBounds_toArray, List.set_cons_zero, List.set_cons_succ])
              refine wpAnyH_done (by kernel_rfl) (NoPanic.normal ?_) _
              clear hHeld fr2 q0 q1 q2
              go_wp2_with fail
              go_roundw
              case rel => exact ⟨j + 1, _, by omega, by have := unhide HI; go_num, HCD, H5, O5, B5⟩
              case measure => simp [intOf]; omega
            · go_simp
              clear hHeld
              refine hK.out _ _ trivial (fun hHeld => ?_)
              clear hK K
              (try simp only [Act.put, List.setIfInBounds_toArray, List.set_cons_zero, List.set_cons_succ])
              (refine wpAnyH_ready (rs := [1]) (by kernel_rfl) (by simp) ?_; refine AllReadyH.cons (o := _) rfl (fun K hK => ?_) AllReadyH.nil; go_simp)
              clear hHeld
              refine hK.out _ _ trivial (fun hHeld => ?_)
              clear hK K
              (try simp only [Act.put, List.setIfInBounds_toArray, List.set_cons_zero, List.set_cons_succ])
              (refine wpAnyH_ready (rs := [21]) (by kernel_rfl) (by simp) ?_; refine AllReadyH.cons (o := _) rfl (fun K hK => ?_) AllReadyH.nil; rw [if_pos (by rfl)])
              refine Nb.wp_apS (unhide o2) V.heap.size 0 1 1 [⟨fld bs i, fld bs (i + 1) % 128, Mtr.met (two bs (i + 2)).toNat, decide (127 < fld bs (i + 1))⟩] rfl (unhide r2) (by simp only [List.length_cons, List.length_nil]; omega) (by simp; omega) _ _ rfl rfl rfl rfl ?_
              intro v4 w4 o4 g4
              obtain ⟨gq, cq, rfl, _, _⟩ := o4.form (by simp)
              rw [List.length_append, List.length_cons, List.length_nil] at o4 ⊢
              have O4 : Hid (w4.ownsRow (w.heap.size + 1) 49 4 (.slice (some ⟨gq, 0, none⟩) ((grps bs j).length + 1) cq) (grps bs (j + 1)).length (Nb.flat (grps bs (j + 1)))) := hide (by rw [unhide HGS, List.length_append, List.length_cons, List.length_nil]; exact o4)
              have B4 := hide (Nb.below_own (unhide b2h) (unhide o2) g4 (Nat.le_refl _) (by simp; omega))
              have H4 := hide ((unhide h2).grown g4 ((unhide h2).row (unhide o2)))
              clear o4 g4
              clear hHeld
              refine hK.out _ _ trivial (fun hHeld => ?_)
              clear hK K
              (try simp only [Act.put, List.setIfInBounds_toArray, List.set_cons_zero, List.set_cons_succ])
              (refine Rg.tk (i := 22) (d := 73) (v := ?_) rfl rfl (by kernel_rfl) (by kernel_rfl) (by kernel_rfl) (fun _ _ _ h => h) (by rfl) ?_ (by assumption) ?_; rotate_left; (focus (intro w0 hSw; (try dsimp only at hSw); go_simp; (try with_reducible rfl))); (try simp only [Act.put, List.setIfInBounds_toArray, List.set_cons_zero, List.set_cons_succ]))
              have fr2 := (unhide H4).free 2
              obtain ⟨q0, q1, q2⟩ := (unhide H4).bx
              (refine wpAnyH_ready (rs := [23]) (by kernel_rfl) (by simp) ?_; refine AllReadyH.cons (o := _) rfl (fun K hK => ?_) AllReadyH.nil; go_simp)
              have H5 := hide ((unhide H4).set (.slice (some ⟨gq, 0, none⟩) ((grps bs j).length + 1) cq))
              have O5 := hide (ownsRow_setCell_other (unhide O4) (a := ⟨B, 2, none⟩) (fun e => (unhide H4).row (unhide O4) e.symm) (.slice (some ⟨gq, 0, none⟩) ((grps bs j).length + 1) cq))
              have B5 := hide ((unhide B4).setCell (p := ⟨B, 2, none⟩) hB (.slice (some ⟨gq, 0, none⟩) ((grps bs j).length + 1) cq))
              clear hHeld
              refine hK.out _ _ trivial (fun hHeld => ?_)
              clear hK K
              (try simp only [Act.put, List.setIfInBounds_toArray, List.set_cons_zero, List.set_cons_succ])
              refine wpAnyH_done (by kernel_rfl) (NoPanic.normal ?_) _
              clear hHeld fr2 q0 q1 q2
              go_wp2_with fail
              go_roundw
              case rel => exact ⟨j + 1, _, by omega, by have := unhide HI; go_num, HCD, H5, O5, B5⟩
              case measure => simp [intOf]; omega
      · obtain rfl : j = n := by omega
        have hss : s.size = 3 + 4 * j := unhide HZ
        have hnl : ¬ (((3 + 4 * j : Nat) : Int) < s.size) := by omega
        obtain ⟨av, cv, rfl, hlst⟩ := Nb.lst_own rfl (unhide how)
        have HLST := hide hlst
        clear hlst how
        have hgl2 : (grps bs j).length ≤ 1048576 := by rw [grps_len]; omega
        have HC : Hid (codesB bs (nOf bs) = true) := hide (by rw [unhide HNN]; exact codes_of (unhide hcd))
        have T1 := hide ((unhide V0).under (unhide hbl) (by omega))
        have D1 : Hid (Below w.heap.size w wr) := hide ((unhide A0).trans ((unhide hbl).mono (by omega)))
        have HG : Hid (∀ b1 b2, helB (fld bs 0) (timOf bs) (grps bs j) = b1 → exB bs = b2 → decG bs = (b1 && b2)) := hide (fun b1 b2 e1 e2 => by
          unfold decG; rw [unhide HLB, unhide HC, unhide HNN, e1, e2, decide_eq_true (by omega : fld bs 1 ≤ 223)]; simp)
        clear hss
        obtain ⟨z0', z1', z2'⟩ := (unhide hhv).bx
        go_wp2_with fail
        refine (specOK (fld bs 0) (timOf bs) av (grps bs j) cv _ hgl2 (unhide HLST).rm).mono ?_
        rintro e w1 ⟨rfl, b1⟩
        clear z0' z1' z2'
        have T2 := hide ((unhide T1).below b1)
        have D2 := hide ((unhide D1).trans (b1.mono (unhide D1).size))
        have H2 := hide ((unhide hhv).below b1)
        have L2 := hide ((unhide HLST).below b1)
        have hs2 : wr.heap.size ≤ w1.heap.size := b1.size
        clear b1 T1
        cases hh : helB (fld bs 0) (timOf bs) (grps bs j)
        · have hf := hide (unhide HN (by rw [unhide HG _ _ hh rfl]; rfl))
          obtain ⟨x0, x1, x2⟩ := (unhide T2).bx
          have y0 := (unhide T2).free 0
          have y1 := (unhide T2).free 1
          have y2 := (unhide T2).free 2
          clear hh
          go_wp2_with fail
          refine bodyPost_ret (v := .tuple #[.agg #[.int .i64 0, .int .i64 0, .slice none 0 0], .bool false]) (by simp [results, Try.results59, go_sem, x0, x1, x2]) rfl ?_
          rw [unhide HBS]
          refine unhide hf _ ?_
          have hBB := unhide D2
          repeat (first | exact hBB | refine Below.setCell ?_ (by simp <;> omega) _)
        have HH := hide hh
        clear hh
        obtain ⟨z0', z1', z2'⟩ := (unhide H2).bx
        go_wp2_with fail
        refine (l04Encode (fld bs 0) (timOf bs) av (grps bs j) cv _ (unhide HH) (unhide L2).rm).mono ?_
        rintro e w2 ⟨rfl, b2⟩
        clear z0' z1' z2'
        have T3 := hide ((unhide T2).below b2)
        have D3 := hide ((unhide D2).trans (b2.mono (unhide D2).size))
        have H3 := hide ((unhide H2).below b2)
        have L3 := hide ((unhide L2).below b2)
        have hs3 : w1.heap.size ≤ w2.heap.size := b2.size
        clear b2 T2
        obtain ⟨x0, x1, x2⟩ := (unhide T3).bx
        have y0 := (unhide T3).free 0
        have y1 := (unhide T3).free 1
        have y2 := (unhide T3).free 2
        cases hx : exB bs
        · have hes : strOfNums (helNums (fld bs 0) (timOf bs) (grps bs j) (grps bs j).length) ≠ s := enc_ne (by rw [unhide HBS]; have := len_eq (unhide HLB); omega) (by rw [unhide HBS]; exact hx) _ _ _ _ (by rw [unhide HBS]) (Tim.tcode_lt (by have := Tim.tim_hi ht223; unfold timOf; omega))
          have hf := hide (unhide HN (by rw [unhide HG _ _ (unhide HH) hx]; rfl))
          clear hx
          generalize strOfNums (helNums (fld bs 0) (timOf bs) (grps bs j) (grps bs j).length) = ES at *
          have hes1 : (ES.toList == s.toList) = false := beq_eq_false_iff_ne.2 (fun h => hes (by
            rw [Go.ByteArray.toList_eq, Go.ByteArray.toList_eq] at h
            exact ByteArray.ext (Array.ext' h)))
          clear hes
          go_wp2_with fail
          refine bodyPost_ret (v := .tuple #[.agg #[.int .i64 0, .int .i64 0, .slice none 0 0], .bool false]) (by simp [results, Try.results59, go_sem, x0, x1, x2]) rfl ?_
          rw [unhide HBS]
          refine unhide hf _ ?_
          have hBB := unhide D3
          repeat (first | exact hBB | refine Below.setCell ?_ (by simp <;> omega) _)
        · have hes : strOfNums (helNums (fld bs 0) (timOf bs) (grps bs j) (grps bs j).length) = s := by
            have := enc_eq (s := s) (by rw [unhide HBS]; exact unhide HLB) (by rw [unhide HBS]; exact unhide HC) (by rw [unhide HBS]; exact hx)
            rw [unhide HBS, unhide HNN] at this; exact this
          have hg := unhide HG _ _ (unhide HH) hx
          rw [hes]
          have HGG := hide hg
          clear hx hes hg
          obtain ⟨z0', z1', z2'⟩ := (unhide H3).bx
          go_wp2_with fail
          refine bodyPost_ret (v := .tuple #[.agg #[.int .i64 (fld bs 0), .int .i64 (timOf bs), .slice av (grps bs j).length cv], .bool true]) (by simp [results, Try.results59, go_sem, x0, x1, x2]) rfl ?_
          rw [unhide HBS]
          obtain ⟨d1, d2, d3⟩ := dec_yes (bs := bs) (unhide HGG)
          rw [d1, d2, d3, unhide HGG, unhide HNN]
          refine ⟨_, rfl, ?_, av, cv, rfl, ?_⟩
          · have hBB := unhide D3
            repeat (first | exact hBB | refine Below.setCell ?_ (by simp <;> omega) _)
          · refine (((unhide L3).but (p := fun k => k ≠ w.heap.size) (by simp [World.setCell]) (fun k hk hp => ?_) (fun k h1 h2 => by omega)).mono (by omega) (by simp [World.setCell]; omega))
            rw [Below.heap_setCell _ _ _ _ hp, Below.heap_setCell _ _ _ _ hp, Below.heap_setCell _ _ _ _ hp]
end Hl
end Go.Proofs.Ytmelbilepfnmjak
