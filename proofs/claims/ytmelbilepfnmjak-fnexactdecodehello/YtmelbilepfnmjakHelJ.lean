/-
  Contract of the program's readHello.
-/
import Derived.Test.YtmelbilepfnmjakHelI
namespace Go.Proofs.Ytmelbilepfnmjak
open Go.ChangeShapes Go.WideShapes Go.ChangeAt Go.RowKit
set_option linter.unusedVariables false
set_option linter.unusedSimpArgs false
attribute [local go_sem ↓] Go.wp_at_zero Go.wp_at_succ
namespace Hl
open W1 Nb De
/-- What readHello answers: the hello where the bytes are one's, and whether they are. -/
def ReadA (bs : List UInt8) (lo : Nat) (e : Ending) (w' : World) : Prop :=
  ∃ X Y a m c, e = .returned (.tuple #[.agg #[.int .i64 X, .int .i64 Y, .slice a m c], .bool (decG bs)]) ∧ (decG bs = true → X = fld bs 0 ∧ Y = timOf bs ∧ Nb.LstV w' (.slice a m c) (grps bs (nOf bs)) lo w'.heap.size)
theorem read_no {bs : List UInt8} (h : decG bs = false) (lo : Nat) (w' : World) : ReadA bs lo (.returned (.tuple #[.agg #[.int .i64 0, .int .i64 0, .slice none 0 0], .bool false])) w' :=
  ⟨0, 0, none, 0, 0, by rw [h], fun e => by rw [h] at e; cases e⟩
theorem Rb {w : World} {g off : Nat} {bs : List UInt8} (h : ∀ i, i < bs.length → w.cell? ⟨g, off + i, none⟩ = some (.int .u8 (fld bs i))) (i : Nat) (hi : i < bs.length) : w.cell? ⟨g, off + i, none⟩ = some (.int .u8 (fld bs i)) := h i hi
theorem sC {w : World} {g o : Nat} {u : Value} (hc : w.cell? ⟨g, o, none⟩ = some u) : (w.cell? ⟨g, o, none⟩ = some u) ∧ w.cell? ⟨g, o, none⟩ = some u := ⟨hc, hc⟩
theorem sHv {w : World} {b : Nat} {x y : Int} {v : Value} (h : HV w b x y v) : HV w b x y v ∧ w.cell? ⟨b, 0, none⟩ = some (.int .i64 x) ∧ w.cell? ⟨b, 1, none⟩ = some (.int .i64 y) ∧ w.cell? ⟨b, 2, none⟩ = some v := ⟨h, h.bx⟩
theorem HV.other {w : World} {b c : Nat} {x y : Int} {v a0 a1 a2 : Value} (h : HV w b x y v) (hne : b ≠ c) : HV (((w.setCell ⟨c, 0, none⟩ a0).setCell ⟨c, 1, none⟩ a1).setCell ⟨c, 2, none⟩ a2) b x y v := by
  unfold HV; rw [Below.heap_setCell _ _ _ _ hne, Below.heap_setCell _ _ _ _ hne, Below.heap_setCell _ _ _ _ hne]; exact h
set_option maxRecDepth 100000 in
set_option maxHeartbeats 1000000 in
theorem readHello (g cap : Nat) (bs : List UInt8) (w : World) (hm : bs.length ≤ 65536) (hcap : bs.length ≤ cap) (hcm : cap ≤ maxLen) (hr : ∀ i, i < bs.length → w.cell? ⟨g, 0 + i, none⟩ = some (.int .u8 (fld bs i))) :
    Calls Try.prog 60 #[.slice (some ⟨g, 0, none⟩) bs.length cap] w fun e w' => ReadA bs w.heap.size e w' ∧ Below w.heap.size w w' := by
  have HR := hide hr
  clear hr
  have hcm' := hcm
  unfold maxLen at hcm'
  have A0 : Hid (Below w.heap.size w (w.alloc (.cells #[.int .i64 0, .int .i64 0, .slice none 0 0] 38))) := hide ((Below.refl _ _).alloc (Nat.le_refl _) _)
  have V0 : Hid (HV (w.alloc (.cells #[.int .i64 0, .int .i64 0, .slice none 0 0] 38)) w.heap.size 0 0 (.slice none 0 0)) := hide (hv_new _ _ _ _)
  have Z0 : Hid ((w.alloc (.cells #[.int .i64 0, .int .i64 0, .slice none 0 0] 38)).heap.size = w.heap.size + 1) := hide (by simp)
  by_cases h3 : (bs.length : Int) < 3
  · have hf := hide (read_no (bs := bs) (by unfold decG lenB; rw [decide_eq_false (by omega)]; rfl) w.heap.size)
    go_enter Try.func60, Try.ntmps60
    go_wp2_with fail
    refine bodyPost_ret (v := .tuple #[.agg #[.int .i64 0, .int .i64 0, .slice none 0 0], .bool false]) (by simp [results, Try.results60, go_sem]) rfl ⟨unhide hf _, ?_⟩
    repeat (first | exact Below.refl _ _ | refine Below.setCell ?_ (by simp <;> omega) _ | refine Below.alloc ?_ (by simp <;> omega) _)
  have c0 := unhide HR 0 (by omega)
  have c1 := unhide HR 1 (by omega)
  have c2 := unhide HR 2 (by omega)
  have hgw : g < w.heap.size := World.block_lt_of_cell? _ _ c0
  rw [Nat.zero_add] at c0 c1 c2
  have z0 : (0 : Int) < (bs.length : Int) := by omega
  have z1 : (1 : Int) < (bs.length : Int) := by omega
  have z2 : (2 : Int) < (bs.length : Int) := by omega
  have z3 : (3 : Int) ≤ (bs.length : Int) := by omega
  have a0 := fld_lo bs 0
  have b0 := fld_hi bs 0
  have a1 := fld_lo bs 1
  have b1 := fld_hi bs 1
  have a2 := fld_lo bs 2
  have b2 := fld_hi bs 2
  have wf0 := wrapF bs 0
  have wf1 := wrapF bs 1
  have wf2 := wrapF bs 2
  have hgn : ¬ g = w.heap.size := by omega
  cases hl : ((bs.length : Int) == 3 + fld bs 2 * 4)
  · have hl' : ((bs.length : Int) != 3 + fld bs 2 * 4) = true := by rw [bne, hl]; rfl
    have hf := hide (read_no (bs := bs) (by unfold decG lenB; rw [decide_eq_false (p := (bs.length : Int) = _) (by have := beq_eq_false_iff_ne.1 hl; omega)]; simp) w.heap.size)
    clear hl
    go_enter Try.func60, Try.ntmps60
    go_wp2_with fail
    refine bodyPost_ret (v := .tuple #[.agg #[.int .i64 0, .int .i64 0, .slice none 0 0], .bool false]) (by simp [results, Try.results60, go_sem]) rfl ⟨unhide hf _, ?_⟩
    repeat (first | exact Below.refl _ _ | refine Below.setCell ?_ (by simp <;> omega) _ | refine Below.alloc ?_ (by simp <;> omega) _)
  have hl' : ((bs.length : Int) != 3 + fld bs 2 * 4) = false := by rw [bne, hl]; rfl
  have hlb : lenB bs = true := by unfold lenB; rw [decide_eq_true (by omega), decide_eq_true (by have := beq_iff_eq.1 hl; omega)]; rfl
  have HLB := hide hlb
  have HLE := hide (len_eq hlb)
  have hnl := n_le bs
  clear hl hlb
  go_enter Try.func60, Try.ntmps60
  go_wp2_with fail
  refine (Tim.implOf (fld bs 1) _).mono ?_
  rintro e W ⟨rfl, hW⟩
  rw [hW]
  clear hW W
  cases hin : inB (fld bs 1) 0 223
  · have hf := hide (read_no (bs := bs) (by unfold decG; rw [decide_eq_false (show ¬ fld bs 1 ≤ 223 by simp [inB] at hin; omega)]; simp) w.heap.size)
    rw [if_neg (by simp), if_neg (by simp)]
    go_wp2_with fail
    refine wp_region_noPanic ?_
    refine wp_region_held_drew (S := fun _ => True) (by kernel_rfl) trivial (fun hHeld => ?_)
    (refine Rg.tk (i := 0) (d := 32) (v := ?_) rfl rfl (by kernel_rfl) (by kernel_rfl) (by kernel_rfl) (fun _ _ _ h => h) (by rfl) ?_ (by assumption) ?_; rotate_left; (focus (intro w0 hSw; (try dsimp only at hSw); go_simp; (try with_reducible rfl))); (try simp only [Act.put, List.setIfInBounds_toArray, List.set_cons_zero, List.set_cons_succ]))
    (refine Rg.tk (i := 1) (d := 33) (v := ?_) rfl rfl (by kernel_rfl) (by kernel_rfl) (by kernel_rfl) (fun _ _ _ h => h) (by rfl) ?_ (by assumption) ?_; rotate_left; (focus (intro w0 hSw; (try dsimp only at hSw); go_simp; (try with_reducible rfl))); (try simp only [Act.put, List.setIfInBounds_toArray, List.set_cons_zero, List.set_cons_succ]))
    (refine Rg.tk (i := 2) (d := 34) (v := ?_) rfl rfl (by kernel_rfl) (by kernel_rfl) (by kernel_rfl) (fun _ _ _ h => h) (by rfl) ?_ (by assumption) ?_; rotate_left; (focus (intro w0 hSw; (try dsimp only at hSw); go_simp; (try with_reducible rfl))); (try simp only [Act.put, List.setIfInBounds_toArray, List.set_cons_zero, List.set_cons_succ]))
    (refine Rg.sk (i := 3) (d := 35) rfl rfl (by kernel_rfl) (by kernel_rfl) (by kernel_rfl) (fun _ _ _ h => h) (by first | kernel_rfl | rfl) (by assumption) ?_; (try simp only [Act.put, List.setIfInBounds_toArray, List.set_cons_zero, List.set_cons_succ]))
    (refine Rg.sk (i := 4) (d := 36) rfl rfl (by kernel_rfl) (by kernel_rfl) (by kernel_rfl) (fun _ _ _ h => h) (by first | kernel_rfl | rfl) (by assumption) ?_; (try simp only [Act.put, List.setIfInBounds_toArray, List.set_cons_zero, List.set_cons_succ]))
    (refine Rg.sk (i := 5) (d := 37) rfl rfl (by kernel_rfl) (by kernel_rfl) (by kernel_rfl) (fun _ _ _ h => h) (by first | kernel_rfl | rfl) (by assumption) ?_; (try simp only [Act.put, List.setIfInBounds_toArray, List.set_cons_zero, List.set_cons_succ]))
    (refine Rg.sk (i := 6) (d := 38) rfl rfl (by kernel_rfl) (by kernel_rfl) (by kernel_rfl) (fun _ _ _ h => h) (by first | kernel_rfl | rfl) (by assumption) ?_; (try simp only [Act.put, List.setIfInBounds_toArray, List.set_cons_zero, List.set_cons_succ]))
    (refine Rg.sk (i := 7) (d := 39) rfl rfl (by kernel_rfl) (by kernel_rfl) (by kernel_rfl) (fun _ _ _ h => h) (by first | kernel_rfl | rfl) (by assumption) ?_; (try simp only [Act.put, List.setIfInBounds_toArray, List.set_cons_zero, List.set_cons_succ]))
    (refine Rg.sk (i := 8) (d := 40) rfl rfl (by kernel_rfl) (by kernel_rfl) (by kernel_rfl) (fun _ _ _ h => h) (by first | kernel_rfl | rfl) (by assumption) ?_; (try simp only [Act.put, List.setIfInBounds_toArray, List.set_cons_zero, List.set_cons_succ]))
    (refine Rg.sk (i := 9) (d := 41) rfl rfl (by kernel_rfl) (by kernel_rfl) (by kernel_rfl) (fun _ _ _ h => h) (by first | kernel_rfl | rfl) (by assumption) ?_; (try simp only [Act.put, List.setIfInBounds_toArray, List.set_cons_zero, List.set_cons_succ]))
    (refine Rg.tk (i := 10) (d := 42) (v := ?_) rfl rfl (by kernel_rfl) (by kernel_rfl) (by kernel_rfl) (fun _ _ _ h => h) (by rfl) ?_ (by assumption) ?_; rotate_left; (focus (intro w0 hSw; (try dsimp only at hSw); go_simp; (try with_reducible rfl))); (try simp only [Act.put, List.setIfInBounds_toArray, List.set_cons_zero, List.set_cons_succ]))
    refine wpAnyH_done (by kernel_rfl) (NoPanic.normal ?_) _
    clear hHeld
    go_wp2_with fail
    refine bodyPost_ret (v := .tuple #[.agg #[.int .i64 0, .int .i64 0, .slice none 0 0], .bool false]) (by simp [results, Try.results60, go_sem]) rfl ⟨unhide hf _, ?_⟩
    have hBB := Below.refl w.heap.size w
    repeat (first | exact hBB | refine Below.setCell ?_ (by simp <;> omega) _ | refine Below.alloc ?_ (by simp [World.setCell] <;> omega) _ | refine Below.drew ?_)
  have h223 : fld bs 1 ≤ 223 := by simp [inB] at hin; exact hin.2
  rw [if_pos rfl, if_pos rfl]
  have hty : timOf bs ≤ 251658240 := Tim.tim_hi (by omega)
  have HTY : Hid (Tim.tim (fld bs 1).toNat = timOf bs) := hide rfl
  rw [unhide HTY]
  clear hin
  have hty2 := Tim.tcode_lt hty
  go_wp2_with fail
  have C1 := hide (((unhide A0).cell (p := ⟨g, 1, none⟩) hgw).trans c1)
  generalize hW : w.alloc (.cells #[.int .i64 0, .int .i64 0, .slice none 0 0] 38) = W0 at *
  clear hW c0 c1 c2
  refine wp_region_noPanic ?_
  refine wp_region_held_drew (S := fun w' => w'.cell? ⟨g, 1, none⟩ = some (.int .u8 (fld bs 1)) ∧ w'.cell? ⟨g, 1, none⟩ = some (.int .u8 (fld bs 1))) (by kernel_rfl) (sC (unhide C1)) (fun hHeld => ?_)
  (refine Rg.tk (i := 0) (d := 32) (v := ?_) rfl rfl (by kernel_rfl) (by kernel_rfl) (by kernel_rfl) (fun _ _ _ h => h) (by rfl) ?_ (by assumption) ?_; rotate_left; (focus (intro w0 hSw; (try dsimp only at hSw); go_simp; (try with_reducible rfl))); (try simp only [Act.put, List.setIfInBounds_toArray, List.set_cons_zero, List.set_cons_succ]))
  (refine Rg.tk (i := 1) (d := 33) (v := ?_) rfl rfl (by kernel_rfl) (by kernel_rfl) (by kernel_rfl) (fun _ _ _ h => h) (by rfl) ?_ (by assumption) ?_; rotate_left; (focus (intro w0 hSw; (try dsimp only at hSw); go_simp; (try with_reducible rfl))); (try simp only [Act.put, List.setIfInBounds_toArray, List.set_cons_zero, List.set_cons_succ]))
  (refine Rg.tk (i := 2) (d := 34) (v := ?_) rfl rfl (by kernel_rfl) (by kernel_rfl) (by kernel_rfl) (fun _ _ _ h => h) (by rfl) ?_ (by assumption) ?_; rotate_left; (focus (intro w0 hSw; (try dsimp only at hSw); go_simp; (try with_reducible rfl))); (try simp only [Act.put, List.setIfInBounds_toArray, List.set_cons_zero, List.set_cons_succ]))
  (refine Rg.tk (i := 3) (d := 35) (v := ?_) rfl rfl (by kernel_rfl) (by kernel_rfl) (by kernel_rfl) (fun _ _ _ h => h) (by rfl) ?_ (by assumption) ?_; rotate_left; (focus (intro w0 hSw; (try dsimp only at hSw); go_simp; (try with_reducible rfl))); (try simp only [Act.put, List.setIfInBounds_toArray, List.set_cons_zero, List.set_cons_succ]))
  (refine Rg.tk (i := 5) (d := 37) (v := ?_) rfl rfl (by kernel_rfl) (by kernel_rfl) (by kernel_rfl) (fun _ _ _ h => h) (by rfl) ?_ (by assumption) ?_; rotate_left; (focus (intro w0 hSw; (try dsimp only at hSw); go_simp; (try with_reducible rfl))); (try simp only [Act.put, List.setIfInBounds_toArray, List.set_cons_zero, List.set_cons_succ]))
  (refine Rg.tk (i := 6) (d := 38) (v := ?_) rfl rfl (by kernel_rfl) (by kernel_rfl) (by kernel_rfl) (fun _ _ _ h => h) (by rfl) ?_ (by assumption) ?_; rotate_left; (focus (intro w0 hSw; (try dsimp only at hSw); go_simp; (try with_reducible rfl))); (try simp only [Act.put, List.setIfInBounds_toArray, List.set_cons_zero, List.set_cons_succ]))
  (refine Rg.tk (i := 7) (d := 39) (v := ?_) rfl rfl (by kernel_rfl) (by kernel_rfl) (by kernel_rfl) (fun _ _ _ h => h) (by rfl) ?_ (by assumption) ?_; rotate_left; (focus (intro w0 hSw; (try dsimp only at hSw); go_simp; (try with_reducible rfl))); (try simp only [Act.put, List.setIfInBounds_toArray, List.set_cons_zero, List.set_cons_succ]))
  (refine Rg.tk (i := 8) (d := 40) (v := ?_) rfl rfl (by kernel_rfl) (by kernel_rfl) (by kernel_rfl) (fun _ _ _ h => h) (by rfl) ?_ (by assumption) ?_; rotate_left; (focus (intro w0 hSw; (try dsimp only at hSw); go_simp; (try with_reducible rfl))); (try simp only [Act.put, List.setIfInBounds_toArray, List.set_cons_zero, List.set_cons_succ]))
  (refine wpAnyH_ready (rs := [4]) (by kernel_rfl) (by simp) ?_; refine AllReadyH.cons (o := _) rfl (fun K hK => ?_) AllReadyH.nil; go_simp)
  refine (Tim.leastTime (timOf bs) hty _).mono ?_
  rintro e w2 ⟨rfl, b2x⟩
  have T2 := hide ((unhide V0).drew.below b2x)
  have D2 := hide ((unhide A0).drew.trans (b2x.mono (by show w.heap.size ≤ W0.heap.size; exact (unhide A0).size)))
  have C2 : Hid (w2.cell? ⟨g, 1, none⟩ = some (.int .u8 (fld bs 1))) := hide (((unhide D2).cell (p := ⟨g, 1, none⟩) hgw).trans (by have h := unhide HR 1 (by omega); rw [Nat.zero_add] at h; exact h))
  have hs2 : w.heap.size + 1 ≤ w2.heap.size := (unhide T2).lt
  clear b2x hHeld C1
  refine hK.out _ _ (sC (unhide C2)) (fun hHeld => ?_)
  clear hK K
  (try simp only [Act.put, List.setIfInBounds_toArray, List.set_cons_zero, List.set_cons_succ])
  cases hx : exB bs
  · have hf := hide (read_no (bs := bs) (by unfold decG; rw [hx]; simp) w.heap.size)
    have hq : (((Tim.tcode (timOf bs) : Nat) : Int) == fld bs 1) = false := beq_eq_false_iff_ne.2 (fun e => by unfold exB at hx; have := beq_eq_false_iff_ne.1 hx; omega)
    have hq2 : (((Tim.tcode (timOf bs) : Nat) : Int) != fld bs 1) = true := by rw [bne, hq]; rfl
    clear hx
    (refine Rg.tk (i := 9) (d := 41) (v := .bool true) rfl rfl (by kernel_rfl) (by kernel_rfl) (by kernel_rfl) (fun _ _ _ h => h) (by rfl) ?_ (by assumption) ?_; (focus (intro w0 hSw; (try dsimp only at hSw); go_simp)); (try simp only [Act.put, List.setIfInBounds_toArray, List.set_cons_zero, List.set_cons_succ]))
    (refine Rg.tk (i := 10) (d := 42) (v := ?_) rfl rfl (by kernel_rfl) (by kernel_rfl) (by kernel_rfl) (fun _ _ _ h => h) (by rfl) ?_ (by assumption) ?_; rotate_left; (focus (intro w0 hSw; (try dsimp only at hSw); go_simp; (try with_reducible rfl))); (try simp only [Act.put, List.setIfInBounds_toArray, List.set_cons_zero, List.set_cons_succ]))
    refine wpAnyH_done (by kernel_rfl) (NoPanic.normal ?_) _
    clear hHeld
    obtain ⟨x0, x1, x2⟩ := (unhide T2).bx
    have y0 := (unhide T2).free 0
    have y1 := (unhide T2).free 1
    have y2 := (unhide T2).free 2
    go_wp2_with fail
    refine bodyPost_ret (v := .tuple #[.agg #[.int .i64 0, .int .i64 0, .slice none 0 0], .bool false]) (by simp [results, Try.results60, go_sem, x0, x1, x2]) rfl ⟨unhide hf _, ?_⟩
    have hBB := unhide D2
    repeat (first | exact hBB | refine Below.setCell ?_ (by simp <;> omega) _ | refine Below.alloc ?_ (by simp [World.setCell] <;> omega) _ | refine Below.drew ?_)
  have hq : (((Tim.tcode (timOf bs) : Nat) : Int) == fld bs 1) = true := beq_iff_eq.2 (by unfold exB at hx; have := beq_iff_eq.1 hx; omega)
  have hq2 : (((Tim.tcode (timOf bs) : Nat) : Int) != fld bs 1) = false := by rw [bne, hq]; rfl
  have HX := hide hx
  clear hx
  (refine Rg.tk (i := 9) (d := 41) (v := .bool false) rfl rfl (by kernel_rfl) (by kernel_rfl) (by kernel_rfl) (fun _ _ _ h => h) (by rfl) ?_ (by assumption) ?_; (focus (intro w0 hSw; (try dsimp only at hSw); go_simp)); (try simp only [Act.put, List.setIfInBounds_toArray, List.set_cons_zero, List.set_cons_succ]))
  (refine Rg.tk (i := 10) (d := 42) (v := ?_) rfl rfl (by kernel_rfl) (by kernel_rfl) (by kernel_rfl) (fun _ _ _ h => h) (by rfl) ?_ (by assumption) ?_; rotate_left; (focus (intro w0 hSw; (try dsimp only at hSw); go_simp; (try with_reducible rfl))); (try simp only [Act.put, List.setIfInBounds_toArray, List.set_cons_zero, List.set_cons_succ]))
  refine wpAnyH_done (by kernel_rfl) (NoPanic.normal ?_) _
  clear hHeld hq hq2
  have HGD : Hid (∀ b1 b2, goodB bs (nOf bs) = b1 → helB (fld bs 0) (timOf bs) (grps bs (nOf bs)) = b2 → decG bs = (b1 && b2)) := hide (fun b1 b2 e1 e2 => by
    unfold decG; rw [unhide HLB, unhide HX, decide_eq_true h223, e2]
    cases b2
    · simp
    · cases b1
      · cases hc : codesB bs (nOf bs)
        · simp
        · rw [hel_good hc e2] at e1; cases e1
      · rw [good_codes e1]; rfl)
  have hlen := unhide HLE
  have HRD : Hid (bs.length ≠ 3 → Rd w2 g 3 bs (4 * nOf bs)) := hide (fun _ i hi => by
    have := unhide HR (3 + i) (by omega)
    rw [Nat.zero_add] at this
    exact ((unhide D2).cell (p := ⟨g, 3 + i, none⟩) hgw).trans this)
  have hg2 : g < w2.heap.size := by omega
  have K0 : Hid (w2.cell? ⟨g, 0, none⟩ = some (.int .u8 (fld bs 0))) := hide (((unhide D2).cell (p := ⟨g, 0, none⟩) hgw).trans (by have h := unhide HR 0 (by omega); exact h))
  obtain ⟨n, hn⟩ : ∃ n, nOf bs = n := ⟨_, rfl⟩
  rw [hn] at hlen hnl HRD HGD
  have HNN := hide hn
  clear hn
  generalize hL : bs.length = L at *
  clear hL
  obtain rfl : L = 3 + 4 * n := hlen
  clear HR HLB HLE V0 A0 Z0
  by_cases hc3 : cap = 3
  ·
    subst hc3
    have hn0 : n = 0 := by omega
    subst hn0
    go_wp2_with fail
    refine (readNbs g 0 0 _ bs _ (by omega) (by omega) (by unfold maxLen; omega) (fun i hi => by omega) hg2).mono ?_
    rintro e w3 ⟨v, rfl, b3, l3⟩
    obtain ⟨av, cv, rfl, hlst⟩ := l3
    have HL := hide hlst
    have T3 := hide ((unhide T2).below b3)
    have D3 := hide ((unhide D2).trans (b3.mono (unhide D2).size))
    have k3 := ((b3.cell (p := ⟨g, 0, none⟩) hg2).trans (unhide K0))
    have hs3 : w2.heap.size ≤ w3.heap.size := b3.size
    clear b3 hlst
    obtain ⟨gl, hgl⟩ : ∃ gl, (if goodB bs 0 = true then grps bs 0 else []) = gl := ⟨_, rfl⟩
    rw [hgl] at HL ⊢
    have HGL := hide hgl
    clear hgl
    have H8 := hide (hv_new w3 (fld bs 0) (timOf bs) (.slice av gl.length cv))
    have E8 : Hid (Below w3.heap.size w3 (w3.alloc (.cells #[.int .i64 (fld bs 0), .int .i64 (timOf bs), .slice av gl.length cv] 38))) := hide ((Below.refl _ _).alloc (Nat.le_refl _) _)
    have hz8 : (w3.alloc (.cells #[.int .i64 (fld bs 0), .int .i64 (timOf bs), .slice av gl.length cv] 38)).heap.size = w3.heap.size + 1 := by simp
    cases hgd : goodB bs 0
    · have hg : decG bs = false := by rw [unhide HGD _ _ hgd rfl]; rfl
      have HGG := hide hg
      clear hg hgd
      go_wp2_with fail
      generalize hW : w3.alloc (.cells #[.int .i64 (fld bs 0), .int .i64 (timOf bs), .slice av gl.length cv] 38) = W8 at *
      clear hW k3
      have T8 := hide ((unhide T3).below (unhide E8))
      have D8 := hide ((unhide D3).trans ((unhide E8).mono (unhide D3).size))
      have L8 := hide ((unhide HL).below (unhide E8))
      refine wp_region_noPanic ?_
      refine wp_region_held_drew (S := fun w' => HV w' w3.heap.size (fld bs 0) (timOf bs) (.slice av gl.length cv) ∧ w'.cell? ⟨w3.heap.size, 0, none⟩ = some (.int .i64 (fld bs 0)) ∧ w'.cell? ⟨w3.heap.size, 1, none⟩ = some (.int .i64 (timOf bs)) ∧ w'.cell? ⟨w3.heap.size, 2, none⟩ = some (.slice av gl.length cv)) (by kernel_rfl) (sHv (unhide H8).drew) (fun hHeld => ?_)
      (refine Rg.tk (i := 0) (d := 57) (v := ?_) rfl rfl (by kernel_rfl) (by kernel_rfl) (by kernel_rfl) (fun _ _ _ h => h) (by rfl) ?_ (by assumption) ?_; rotate_left; (focus (intro w0 hSw; (try dsimp only at hSw); go_simp; (try with_reducible rfl))); (try simp only [Act.put, List.setIfInBounds_toArray, List.set_cons_zero, List.set_cons_succ]))
      (refine Rg.tk (i := 1) (d := 58) (v := ?_) rfl rfl (by kernel_rfl) (by kernel_rfl) (by kernel_rfl) (fun _ _ _ h => h) (by rfl) ?_ (by assumption) ?_; rotate_left; (focus (intro w0 hSw; (try dsimp only at hSw); go_simp; (try with_reducible rfl))); (try simp only [Act.put, List.setIfInBounds_toArray, List.set_cons_zero, List.set_cons_succ]))
      (refine Rg.tk (i := 2) (d := 59) (v := ?_) rfl rfl (by kernel_rfl) (by kernel_rfl) (by kernel_rfl) (fun _ _ _ h => h) (by rfl) ?_ (by assumption) ?_; rotate_left; (focus (intro w0 hSw; (try dsimp only at hSw); go_simp; (try with_reducible rfl))); (try simp only [Act.put, List.setIfInBounds_toArray, List.set_cons_zero, List.set_cons_succ]))
      (refine Rg.sk (i := 3) (d := 60) rfl rfl (by kernel_rfl) (by kernel_rfl) (by kernel_rfl) (fun _ _ _ h => h) (by first | kernel_rfl | rfl) (by assumption) ?_; (try simp only [Act.put, List.setIfInBounds_toArray, List.set_cons_zero, List.set_cons_succ]))
      (refine Rg.sk (i := 4) (d := 61) rfl rfl (by kernel_rfl) (by kernel_rfl) (by kernel_rfl) (fun _ _ _ h => h) (by first | kernel_rfl | rfl) (by assumption) ?_; (try simp only [Act.put, List.setIfInBounds_toArray, List.set_cons_zero, List.set_cons_succ]))
      (refine Rg.tk (i := 5) (d := 62) (v := ?_) rfl rfl (by kernel_rfl) (by kernel_rfl) (by kernel_rfl) (fun _ _ _ h => h) (by rfl) ?_ (by assumption) ?_; rotate_left; (focus (intro w0 hSw; (try dsimp only at hSw); go_simp; (try with_reducible rfl))); (try simp only [Act.put, List.setIfInBounds_toArray, List.set_cons_zero, List.set_cons_succ]))
      have TF := hide ((unhide T8).drew)
      have DF := hide ((unhide D8).drew)
      have LF : Hid (Nb.Lst W8.drew av gl w2.heap.size w3.heap.size) := L8
      have HF8 := hide ((unhide H8).drew)
      have hsF : w3.heap.size + 1 = W8.drew.heap.size := hz8.symm
      generalize hW : W8.drew = WF at *
      clear hW hHeld
      obtain ⟨x0, x1, x2⟩ := (unhide TF).bx
      have y0 := (unhide TF).free 0
      have y1 := (unhide TF).free 1
      have y2 := (unhide TF).free 2
      have hHeld := sHv (unhide HF8)
      (refine wpAnyH_ready (rs := [6]) (by kernel_rfl) (by simp) ?_; refine AllReadyH.cons (o := _) rfl (fun K hK => ?_) AllReadyH.nil; go_simp)
      clear hHeld
      refine hK.out _ _ (sHv (HV.other (unhide HF8) (by omega))) (fun hHeld => ?_)
      clear hK K
      (try simp only [Act.put, List.setIfInBounds_toArray, List.set_cons_zero, List.set_cons_succ])
      (refine Rg.tk (i := 7) (d := 3) (v := ?_) rfl rfl (by kernel_rfl) (by kernel_rfl) (by kernel_rfl) (fun _ _ _ h => h) (by rfl) ?_ (by assumption) ?_; rotate_left; (focus (intro w0 hSw; (try dsimp only at hSw); go_simp; (try with_reducible rfl))); (try simp only [Act.put, List.setIfInBounds_toArray, List.set_cons_zero, List.set_cons_succ]))
      refine wpAnyH_done (by kernel_rfl) (NoPanic.normal ?_) _
      clear hHeld
      go_wp2_with fail
      refine bodyPost_ret (v := (.tuple #[.agg #[.int .i64 (fld bs 0), .int .i64 (timOf bs), .slice av gl.length cv], .bool false])) (by simp [results, Try.results60, go_sem, x0, x1, x2]) rfl ?_
      refine ⟨⟨_, _, _, _, _, by rw [unhide HGG], fun e => by rw [unhide HGG] at e; cases e⟩, ?_⟩
      have hBB := unhide DF
      repeat (first | exact hBB | refine Below.setCell ?_ (by simp <;> omega) _ | refine Below.alloc ?_ (by simp [World.setCell] <;> omega) _ | refine Below.drew ?_)
    · have hgle : gl = grps bs 0 := by rw [← unhide HGL, hgd, if_pos rfl]
      have hgl2 : gl.length ≤ 1048576 := by rw [hgle, grps_len]; omega
      have HDG : Hid (decG bs = helB (fld bs 0) (timOf bs) gl) := hide (by rw [hgle, unhide HGD _ _ hgd rfl]; simp)
      have HGE := hide hgle
      clear hgd hgle
      go_wp2_with fail
      generalize hW : w3.alloc (.cells #[.int .i64 (fld bs 0), .int .i64 (timOf bs), .slice av gl.length cv] 38) = W8 at *
      clear hW k3
      have T8 := hide ((unhide T3).below (unhide E8))
      have D8 := hide ((unhide D3).trans ((unhide E8).mono (unhide D3).size))
      have L8 := hide ((unhide HL).below (unhide E8))
      refine wp_region_noPanic ?_
      refine wp_region_held_drew (S := fun w' => HV w' w3.heap.size (fld bs 0) (timOf bs) (.slice av gl.length cv) ∧ w'.cell? ⟨w3.heap.size, 0, none⟩ = some (.int .i64 (fld bs 0)) ∧ w'.cell? ⟨w3.heap.size, 1, none⟩ = some (.int .i64 (timOf bs)) ∧ w'.cell? ⟨w3.heap.size, 2, none⟩ = some (.slice av gl.length cv)) (by kernel_rfl) (sHv (unhide H8).drew) (fun hHeld => ?_)
      (refine Rg.tk (i := 0) (d := 57) (v := ?_) rfl rfl (by kernel_rfl) (by kernel_rfl) (by kernel_rfl) (fun _ _ _ h => h) (by rfl) ?_ (by assumption) ?_; rotate_left; (focus (intro w0 hSw; (try dsimp only at hSw); go_simp; (try with_reducible rfl))); (try simp only [Act.put, List.setIfInBounds_toArray, List.set_cons_zero, List.set_cons_succ]))
      (refine Rg.tk (i := 1) (d := 58) (v := ?_) rfl rfl (by kernel_rfl) (by kernel_rfl) (by kernel_rfl) (fun _ _ _ h => h) (by rfl) ?_ (by assumption) ?_; rotate_left; (focus (intro w0 hSw; (try dsimp only at hSw); go_simp; (try with_reducible rfl))); (try simp only [Act.put, List.setIfInBounds_toArray, List.set_cons_zero, List.set_cons_succ]))
      (refine Rg.tk (i := 2) (d := 59) (v := ?_) rfl rfl (by kernel_rfl) (by kernel_rfl) (by kernel_rfl) (fun _ _ _ h => h) (by rfl) ?_ (by assumption) ?_; rotate_left; (focus (intro w0 hSw; (try dsimp only at hSw); go_simp; (try with_reducible rfl))); (try simp only [Act.put, List.setIfInBounds_toArray, List.set_cons_zero, List.set_cons_succ]))
      (refine Rg.tk (i := 3) (d := 60) (v := ?_) rfl rfl (by kernel_rfl) (by kernel_rfl) (by kernel_rfl) (fun _ _ _ h => h) (by rfl) ?_ (by assumption) ?_; rotate_left; (focus (intro w0 hSw; (try dsimp only at hSw); go_simp; (try with_reducible rfl))); (try simp only [Act.put, List.setIfInBounds_toArray, List.set_cons_zero, List.set_cons_succ]))
      (refine wpAnyH_ready (rs := [4]) (by kernel_rfl) (by simp) ?_; refine AllReadyH.cons (o := _) rfl (fun K hK => ?_) AllReadyH.nil; go_simp)
      refine (implOK (fld bs 0) (timOf bs) av gl cv _ hgl2 (by exact Nb.RM.drew (unhide L8).rm)).mono ?_
      rintro e WF ⟨rfl, bF⟩
      have TF := hide ((unhide T8).drew.below bF)
      have DF := hide ((unhide D8).drew.trans (bF.mono (by show w.heap.size ≤ W8.heap.size; exact (unhide D8).size)))
      have LF := hide (Nb.Lst.below (W := W8.drew) (unhide L8) bF)
      have HF8 := hide ((unhide H8).drew.below bF)
      have hsF : w3.heap.size + 1 ≤ WF.heap.size := by have := bF.size; have h8 : W8.drew.heap.size = W8.heap.size := rfl; omega
      clear bF hHeld
      refine hK.out _ _ (sHv (unhide HF8)) (fun hHeld => ?_)
      clear hK K
      (try simp only [Act.put, List.setIfInBounds_toArray, List.set_cons_zero, List.set_cons_succ])
      (refine Rg.tk (i := 5) (d := 62) (v := ?_) rfl rfl (by kernel_rfl) (by kernel_rfl) (by kernel_rfl) (fun _ _ _ h => h) (by rfl) ?_ (by assumption) ?_; rotate_left; (focus (intro w0 hSw; (try dsimp only at hSw); go_simp; (try with_reducible rfl))); (try simp only [Act.put, List.setIfInBounds_toArray, List.set_cons_zero, List.set_cons_succ]))
      clear hHeld
      obtain ⟨x0, x1, x2⟩ := (unhide TF).bx
      have y0 := (unhide TF).free 0
      have y1 := (unhide TF).free 1
      have y2 := (unhide TF).free 2
      have hHeld := sHv (unhide HF8)
      (refine wpAnyH_ready (rs := [6]) (by kernel_rfl) (by simp) ?_; refine AllReadyH.cons (o := _) rfl (fun K hK => ?_) AllReadyH.nil; go_simp)
      clear hHeld
      refine hK.out _ _ (sHv (HV.other (unhide HF8) (by omega))) (fun hHeld => ?_)
      clear hK K
      (try simp only [Act.put, List.setIfInBounds_toArray, List.set_cons_zero, List.set_cons_succ])
      (refine Rg.tk (i := 7) (d := 3) (v := ?_) rfl rfl (by kernel_rfl) (by kernel_rfl) (by kernel_rfl) (fun _ _ _ h => h) (by rfl) ?_ (by assumption) ?_; rotate_left; (focus (intro w0 hSw; (try dsimp only at hSw); go_simp; (try with_reducible rfl))); (try simp only [Act.put, List.setIfInBounds_toArray, List.set_cons_zero, List.set_cons_succ]))
      refine wpAnyH_done (by kernel_rfl) (NoPanic.normal ?_) _
      clear hHeld
      go_wp2_with fail
      refine bodyPost_ret (v := (.tuple #[.agg #[.int .i64 (fld bs 0), .int .i64 (timOf bs), .slice av gl.length cv], .bool (helB (fld bs 0) (timOf bs) gl)])) (by simp [results, Try.results60, go_sem, x0, x1, x2]) rfl ?_
      refine ⟨⟨_, _, _, _, _, by rw [unhide HDG], fun e => ⟨rfl, rfl, av, cv, by rw [unhide HNN, ← unhide HGE], ?_⟩⟩, ?_⟩
      · rw [unhide HNN, ← unhide HGE]
        refine ((unhide LF).but (p := fun k => k ≠ w.heap.size) (by simp [World.setCell]) (fun k hk hp => ?_) (fun k h1 h2 => by omega)).mono (by omega) (by simp [World.setCell]; omega)
        rw [Below.heap_setCell _ _ _ _ hp, Below.heap_setCell _ _ _ _ hp, Below.heap_setCell _ _ _ _ hp]
      · have hBB := unhide DF
        repeat (first | exact hBB | refine Below.setCell ?_ (by simp <;> omega) _ | refine Below.alloc ?_ (by simp [World.setCell] <;> omega) _ | refine Below.drew ?_)
  ·
    have hc3b : ¬ (3 = cap) := fun e => hc3 e.symm
    have hsub : 3 + 4 * n - 3 = 4 * n := by omega
    go_wp2_with fail
    refine (readNbs g 3 n _ bs _ (by omega) (by omega) (by unfold maxLen; omega) ((fun i hi => unhide HRD (by omega) i hi)) hg2).mono ?_
    rintro e w3 ⟨v, rfl, b3, l3⟩
    obtain ⟨av, cv, rfl, hlst⟩ := l3
    have HL := hide hlst
    have T3 := hide ((unhide T2).below b3)
    have D3 := hide ((unhide D2).trans (b3.mono (unhide D2).size))
    have k3 := ((b3.cell (p := ⟨g, 0, none⟩) hg2).trans (unhide K0))
    have hs3 : w2.heap.size ≤ w3.heap.size := b3.size
    clear b3 hlst
    obtain ⟨gl, hgl⟩ : ∃ gl, (if goodB bs n = true then grps bs n else []) = gl := ⟨_, rfl⟩
    rw [hgl] at HL ⊢
    have HGL := hide hgl
    clear hgl
    have H8 := hide (hv_new w3 (fld bs 0) (timOf bs) (.slice av gl.length cv))
    have E8 : Hid (Below w3.heap.size w3 (w3.alloc (.cells #[.int .i64 (fld bs 0), .int .i64 (timOf bs), .slice av gl.length cv] 38))) := hide ((Below.refl _ _).alloc (Nat.le_refl _) _)
    have hz8 : (w3.alloc (.cells #[.int .i64 (fld bs 0), .int .i64 (timOf bs), .slice av gl.length cv] 38)).heap.size = w3.heap.size + 1 := by simp
    cases hgd : goodB bs n
    · have hg : decG bs = false := by rw [unhide HGD _ _ hgd rfl]; rfl
      have HGG := hide hg
      clear hg hgd
      go_wp2_with fail
      generalize hW : w3.alloc (.cells #[.int .i64 (fld bs 0), .int .i64 (timOf bs), .slice av gl.length cv] 38) = W8 at *
      clear hW k3
      have T8 := hide ((unhide T3).below (unhide E8))
      have D8 := hide ((unhide D3).trans ((unhide E8).mono (unhide D3).size))
      have L8 := hide ((unhide HL).below (unhide E8))
      refine wp_region_noPanic ?_
      refine wp_region_held_drew (S := fun w' => HV w' w3.heap.size (fld bs 0) (timOf bs) (.slice av gl.length cv) ∧ w'.cell? ⟨w3.heap.size, 0, none⟩ = some (.int .i64 (fld bs 0)) ∧ w'.cell? ⟨w3.heap.size, 1, none⟩ = some (.int .i64 (timOf bs)) ∧ w'.cell? ⟨w3.heap.size, 2, none⟩ = some (.slice av gl.length cv)) (by kernel_rfl) (sHv (unhide H8).drew) (fun hHeld => ?_)
      (refine Rg.tk (i := 0) (d := 57) (v := ?_) rfl rfl (by kernel_rfl) (by kernel_rfl) (by kernel_rfl) (fun _ _ _ h => h) (by rfl) ?_ (by assumption) ?_; rotate_left; (focus (intro w0 hSw; (try dsimp only at hSw); go_simp; (try with_reducible rfl))); (try simp only [Act.put, List.setIfInBounds_toArray, List.set_cons_zero, List.set_cons_succ]))
      (refine Rg.tk (i := 1) (d := 58) (v := ?_) rfl rfl (by kernel_rfl) (by kernel_rfl) (by kernel_rfl) (fun _ _ _ h => h) (by rfl) ?_ (by assumption) ?_; rotate_left; (focus (intro w0 hSw; (try dsimp only at hSw); go_simp; (try with_reducible rfl))); (try simp only [Act.put, List.setIfInBounds_toArray, List.set_cons_zero, List.set_cons_succ]))
      (refine Rg.tk (i := 2) (d := 59) (v := ?_) rfl rfl (by kernel_rfl) (by kernel_rfl) (by kernel_rfl) (fun _ _ _ h => h) (by rfl) ?_ (by assumption) ?_; rotate_left; (focus (intro w0 hSw; (try dsimp only at hSw); go_simp; (try with_reducible rfl))); (try simp only [Act.put, List.setIfInBounds_toArray, List.set_cons_zero, List.set_cons_succ]))
      (refine Rg.sk (i := 3) (d := 60) rfl rfl (by kernel_rfl) (by kernel_rfl) (by kernel_rfl) (fun _ _ _ h => h) (by first | kernel_rfl | rfl) (by assumption) ?_; (try simp only [Act.put, List.setIfInBounds_toArray, List.set_cons_zero, List.set_cons_succ]))
      (refine Rg.sk (i := 4) (d := 61) rfl rfl (by kernel_rfl) (by kernel_rfl) (by kernel_rfl) (fun _ _ _ h => h) (by first | kernel_rfl | rfl) (by assumption) ?_; (try simp only [Act.put, List.setIfInBounds_toArray, List.set_cons_zero, List.set_cons_succ]))
      (refine Rg.tk (i := 5) (d := 62) (v := ?_) rfl rfl (by kernel_rfl) (by kernel_rfl) (by kernel_rfl) (fun _ _ _ h => h) (by rfl) ?_ (by assumption) ?_; rotate_left; (focus (intro w0 hSw; (try dsimp only at hSw); go_simp; (try with_reducible rfl))); (try simp only [Act.put, List.setIfInBounds_toArray, List.set_cons_zero, List.set_cons_succ]))
      have TF := hide ((unhide T8).drew)
      have DF := hide ((unhide D8).drew)
      have LF : Hid (Nb.Lst W8.drew av gl w2.heap.size w3.heap.size) := L8
      have HF8 := hide ((unhide H8).drew)
      have hsF : w3.heap.size + 1 = W8.drew.heap.size := hz8.symm
      generalize hW : W8.drew = WF at *
      clear hW hHeld
      obtain ⟨x0, x1, x2⟩ := (unhide TF).bx
      have y0 := (unhide TF).free 0
      have y1 := (unhide TF).free 1
      have y2 := (unhide TF).free 2
      have hHeld := sHv (unhide HF8)
      (refine wpAnyH_ready (rs := [6]) (by kernel_rfl) (by simp) ?_; refine AllReadyH.cons (o := _) rfl (fun K hK => ?_) AllReadyH.nil; go_simp)
      clear hHeld
      refine hK.out _ _ (sHv (HV.other (unhide HF8) (by omega))) (fun hHeld => ?_)
      clear hK K
      (try simp only [Act.put, List.setIfInBounds_toArray, List.set_cons_zero, List.set_cons_succ])
      (refine Rg.tk (i := 7) (d := 3) (v := ?_) rfl rfl (by kernel_rfl) (by kernel_rfl) (by kernel_rfl) (fun _ _ _ h => h) (by rfl) ?_ (by assumption) ?_; rotate_left; (focus (intro w0 hSw; (try dsimp only at hSw); go_simp; (try with_reducible rfl))); (try simp only [Act.put, List.setIfInBounds_toArray, List.set_cons_zero, List.set_cons_succ]))
      refine wpAnyH_done (by kernel_rfl) (NoPanic.normal ?_) _
      clear hHeld
      go_wp2_with fail
      refine bodyPost_ret (v := (.tuple #[.agg #[.int .i64 (fld bs 0), .int .i64 (timOf bs), .slice av gl.length cv], .bool false])) (by simp [results, Try.results60, go_sem, x0, x1, x2]) rfl ?_
      refine ⟨⟨_, _, _, _, _, by rw [unhide HGG], fun e => by rw [unhide HGG] at e; cases e⟩, ?_⟩
      have hBB := unhide DF
      repeat (first | exact hBB | refine Below.setCell ?_ (by simp <;> omega) _ | refine Below.alloc ?_ (by simp [World.setCell] <;> omega) _ | refine Below.drew ?_)
    · have hgle : gl = grps bs n := by rw [← unhide HGL, hgd, if_pos rfl]
      have hgl2 : gl.length ≤ 1048576 := by rw [hgle, grps_len]; omega
      have HDG : Hid (decG bs = helB (fld bs 0) (timOf bs) gl) := hide (by rw [hgle, unhide HGD _ _ hgd rfl]; simp)
      have HGE := hide hgle
      clear hgd hgle
      go_wp2_with fail
      generalize hW : w3.alloc (.cells #[.int .i64 (fld bs 0), .int .i64 (timOf bs), .slice av gl.length cv] 38) = W8 at *
      clear hW k3
      have T8 := hide ((unhide T3).below (unhide E8))
      have D8 := hide ((unhide D3).trans ((unhide E8).mono (unhide D3).size))
      have L8 := hide ((unhide HL).below (unhide E8))
      refine wp_region_noPanic ?_
      refine wp_region_held_drew (S := fun w' => HV w' w3.heap.size (fld bs 0) (timOf bs) (.slice av gl.length cv) ∧ w'.cell? ⟨w3.heap.size, 0, none⟩ = some (.int .i64 (fld bs 0)) ∧ w'.cell? ⟨w3.heap.size, 1, none⟩ = some (.int .i64 (timOf bs)) ∧ w'.cell? ⟨w3.heap.size, 2, none⟩ = some (.slice av gl.length cv)) (by kernel_rfl) (sHv (unhide H8).drew) (fun hHeld => ?_)
      (refine Rg.tk (i := 0) (d := 57) (v := ?_) rfl rfl (by kernel_rfl) (by kernel_rfl) (by kernel_rfl) (fun _ _ _ h => h) (by rfl) ?_ (by assumption) ?_; rotate_left; (focus (intro w0 hSw; (try dsimp only at hSw); go_simp; (try with_reducible rfl))); (try simp only [Act.put, List.setIfInBounds_toArray, List.set_cons_zero, List.set_cons_succ]))
      (refine Rg.tk (i := 1) (d := 58) (v := ?_) rfl rfl (by kernel_rfl) (by kernel_rfl) (by kernel_rfl) (fun _ _ _ h => h) (by rfl) ?_ (by assumption) ?_; rotate_left; (focus (intro w0 hSw; (try dsimp only at hSw); go_simp; (try with_reducible rfl))); (try simp only [Act.put, List.setIfInBounds_toArray, List.set_cons_zero, List.set_cons_succ]))
      (refine Rg.tk (i := 2) (d := 59) (v := ?_) rfl rfl (by kernel_rfl) (by kernel_rfl) (by kernel_rfl) (fun _ _ _ h => h) (by rfl) ?_ (by assumption) ?_; rotate_left; (focus (intro w0 hSw; (try dsimp only at hSw); go_simp; (try with_reducible rfl))); (try simp only [Act.put, List.setIfInBounds_toArray, List.set_cons_zero, List.set_cons_succ]))
      (refine Rg.tk (i := 3) (d := 60) (v := ?_) rfl rfl (by kernel_rfl) (by kernel_rfl) (by kernel_rfl) (fun _ _ _ h => h) (by rfl) ?_ (by assumption) ?_; rotate_left; (focus (intro w0 hSw; (try dsimp only at hSw); go_simp; (try with_reducible rfl))); (try simp only [Act.put, List.setIfInBounds_toArray, List.set_cons_zero, List.set_cons_succ]))
      (refine wpAnyH_ready (rs := [4]) (by kernel_rfl) (by simp) ?_; refine AllReadyH.cons (o := _) rfl (fun K hK => ?_) AllReadyH.nil; go_simp)
      refine (implOK (fld bs 0) (timOf bs) av gl cv _ hgl2 (by exact Nb.RM.drew (unhide L8).rm)).mono ?_
      rintro e WF ⟨rfl, bF⟩
      have TF := hide ((unhide T8).drew.below bF)
      have DF := hide ((unhide D8).drew.trans (bF.mono (by show w.heap.size ≤ W8.heap.size; exact (unhide D8).size)))
      have LF := hide (Nb.Lst.below (W := W8.drew) (unhide L8) bF)
      have HF8 := hide ((unhide H8).drew.below bF)
      have hsF : w3.heap.size + 1 ≤ WF.heap.size := by have := bF.size; have h8 : W8.drew.heap.size = W8.heap.size := rfl; omega
      clear bF hHeld
      refine hK.out _ _ (sHv (unhide HF8)) (fun hHeld => ?_)
      clear hK K
      (try simp only [Act.put, List.setIfInBounds_toArray, List.set_cons_zero, List.set_cons_succ])
      (refine Rg.tk (i := 5) (d := 62) (v := ?_) rfl rfl (by kernel_rfl) (by kernel_rfl) (by kernel_rfl) (fun _ _ _ h => h) (by rfl) ?_ (by assumption) ?_; rotate_left; (focus (intro w0 hSw; (try dsimp only at hSw); go_simp; (try with_reducible rfl))); (try simp only [Act.put, List.setIfInBounds_toArray, List.set_cons_zero, List.set_cons_succ]))
      clear hHeld
      obtain ⟨x0, x1, x2⟩ := (unhide TF).bx
      have y0 := (unhide TF).free 0
      have y1 := (unhide TF).free 1
      have y2 := (unhide TF).free 2
      have hHeld := sHv (unhide HF8)
      (refine wpAnyH_ready (rs := [6]) (by kernel_rfl) (by simp) ?_; refine AllReadyH.cons (o := _) rfl (fun K hK => ?_) AllReadyH.nil; go_simp)
      clear hHeld
      refine hK.out _ _ (sHv (HV.other (unhide HF8) (by omega))) (fun hHeld => ?_)
      clear hK K
      (try simp only [Act.put, List.setIfInBounds_toArray, List.set_cons_zero, List.set_cons_succ])
      (refine Rg.tk (i := 7) (d := 3) (v := ?_) rfl rfl (by kernel_rfl) (by kernel_rfl) (by kernel_rfl) (fun _ _ _ h => h) (by rfl) ?_ (by assumption) ?_; rotate_left; (focus (intro w0 hSw; (try dsimp only at hSw); go_simp; (try with_reducible rfl))); (try simp only [Act.put, List.setIfInBounds_toArray, List.set_cons_zero, List.set_cons_succ]))
      refine wpAnyH_done (by kernel_rfl) (NoPanic.normal ?_) _
      clear hHeld
      go_wp2_with fail
      refine bodyPost_ret (v := (.tuple #[.agg #[.int .i64 (fld bs 0), .int .i64 (timOf bs), .slice av gl.length cv], .bool (helB (fld bs 0) (timOf bs) gl)])) (by simp [results, Try.results60, go_sem, x0, x1, x2]) rfl ?_
      refine ⟨⟨_, _, _, _, _, by rw [unhide HDG], fun e => ⟨rfl, rfl, av, cv, by rw [unhide HNN, ← unhide HGE], ?_⟩⟩, ?_⟩
      · rw [unhide HNN, ← unhide HGE]
        refine ((unhide LF).but (p := fun k => k ≠ w.heap.size) (by simp [World.setCell]) (fun k hk hp => ?_) (fun k h1 h2 => by omega)).mono (by omega) (by simp [World.setCell]; omega)
        rw [Below.heap_setCell _ _ _ _ hp, Below.heap_setCell _ _ _ _ hp, Below.heap_setCell _ _ _ _ hp]
      · have hBB := unhide DF
        repeat (first | exact hBB | refine Below.setCell ?_ (by simp <;> omega) _ | refine Below.alloc ?_ (by simp [World.setCell] <;> omega) _ | refine Below.drew ?_)
end Hl
end Go.Proofs.Ytmelbilepfnmjak
