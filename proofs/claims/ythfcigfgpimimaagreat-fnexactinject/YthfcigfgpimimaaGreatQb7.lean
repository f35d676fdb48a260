/-
  Of the texts LnkI, Nums, Tim, AdvM, AdvC, RtrO, NetM, NetA, RtrP: what this claim needs of them. (put together by mkprune.py)
-/
import Derived.Test.YthfcigfgpimimaaGreatQb6
import Derived.Test.YthfcigfgpimimaaGreatShelf
import Derived.Lib.ItoaNum
import Derived.Laws.BitsAllLaws
import Derived.Laws.Shifts
import Derived.Deep.QuietTactic
import Derived.BigQuiet
namespace Go.Proofs.YthfcigfgpimimaaGreat
open Go.ChangeShapes Go.WideShapes Go.ChangeAt Go.RowKit
set_option linter.unusedVariables false
set_option linter.unusedSimpArgs false
attribute [local go_sem ↓] Go.wp_at_zero Go.wp_at_succ
namespace Ln
open W1 Lk
/-- A link in a variable's block. -/
def Bx (w : World) (b : Nat) (m : R) : Prop := w.cell? ⟨b, 0, none⟩ = some (.int .i64 m.ad) ∧ w.cell? ⟨b, 1, none⟩ = some (.int .i64 m.hd) ∧ w.cell? ⟨b, 2, none⟩ = some (.int .i64 m.sy) ∧ w.cell? ⟨b, 3, none⟩ = some (.int .i64 m.ci) ∧ w.cell? ⟨b, 4, none⟩ = some (.int .i64 m.co) ∧ w.cell? ⟨b, 5, none⟩ = some (.int .i64 m.wl)
theorem Bx.below {w w' : World} {b : Nat} {m : R} (h : Bx w b m) (hb : Below w.heap.size w w') : Bx w' b m := by
  have hg : b < w.heap.size := World.block_lt_of_cell? _ _ h.1
  obtain ⟨h0, h1, h2, h3, h4, h5⟩ := h
  refine ⟨?_, ?_, ?_, ?_, ?_, ?_⟩ <;> (rw [hb.cell hg]; assumption)
theorem Bx.lt {w : World} {b : Nat} {m : R} (h : Bx w b m) : b < w.heap.size := World.block_lt_of_cell? _ _ h.1
theorem Bx.drew {w : World} {b : Nat} {m : R} (h : Bx w b m) : Bx w.drew b m := h
theorem bx_new (w : World) (m : R) (t : Nat) : Bx (w.alloc (.cells #[.int .i64 m.ad, .int .i64 m.hd, .int .i64 m.sy, .int .i64 m.ci, .int .i64 m.co, .int .i64 m.wl] t)) w.heap.size m := by
  refine ⟨?_, ?_, ?_, ?_, ?_, ?_⟩ <;> simp [World.cell?_alloc_new]
theorem sBox {w : World} {b : Nat} {ad hd sy ci co wl : Int} (h : Bx w b ⟨ad, hd, sy, ci, co, wl⟩) : Bx w b ⟨ad, hd, sy, ci, co, wl⟩ ∧ w.cell? ⟨b, 0, none⟩ = some (.int .i64 ad) ∧ w.cell? ⟨b, 1, none⟩ = some (.int .i64 hd) ∧ w.cell? ⟨b, 2, none⟩ = some (.int .i64 sy) ∧ w.cell? ⟨b, 3, none⟩ = some (.int .i64 ci) ∧ w.cell? ⟨b, 4, none⟩ = some (.int .i64 co) ∧ w.cell? ⟨b, 5, none⟩ = some (.int .i64 wl) := ⟨h, h⟩
theorem sBox2 {w : World} {b g p : Nat} {m : R} {ad hd sy ci co wl : Int} (h : Bx w b ⟨ad, hd, sy, ci, co, wl⟩) (h' : At w g p m) :
    (Bx w b ⟨ad, hd, sy, ci, co, wl⟩ ∧ At w g p m) ∧ w.cell? ⟨b, 0, none⟩ = some (.int .i64 ad) ∧ w.cell? ⟨b, 1, none⟩ = some (.int .i64 hd) ∧ w.cell? ⟨b, 2, none⟩ = some (.int .i64 sy) ∧ w.cell? ⟨b, 3, none⟩ = some (.int .i64 ci) ∧ w.cell? ⟨b, 4, none⟩ = some (.int .i64 co) ∧ w.cell? ⟨b, 5, none⟩ = some (.int .i64 wl) ∧ w.cell? ⟨g, p, none⟩ = some (.int .i64 m.ad) := ⟨⟨h, h'⟩, h.1, h.2.1, h.2.2.1, h.2.2.2.1, h.2.2.2.2.1, h.2.2.2.2.2, h'.1⟩
set_option maxRecDepth 100000 in
set_option maxHeartbeats 4000000 in
theorem implOK (a : Option Addr) (ms : List R) (cap : Nat) (w : World) (hm : ms.length ≤ 1048576) (hr : RM w a ms) :
    Calls Tryz.prog 119 #[.slice a ms.length cap] w fun e w' => e = .returned (.bool (linksB ms)) ∧ Below w.heap.size w w' := by
  have HR := hide hr
  clear hr
  generalize hN : ms.length = n at *
  have HN := hide hN
  clear hN
  go_enter Tryz.func119, Tryz.ntmps119
  go_wp2
  go_loopw [7] (fun i wr => ∃ j : Nat, j ≤ n ∧ i = .int .i64 j ∧ Hid (allL ms j = true) ∧ Hid (Below w.heap.size w wr)) (fun i _ => n - (intOf i).toNat)
  case atStart => exact ⟨0, by omega, rfl, hide Ri.all_zero, hide (Below.refl _ _)⟩
  case round =>
    obtain ⟨j, hj, rfl, hrl, hbl⟩ := hrel
    by_cases hlt : (j : Int) < (n : Int)
    · have k0 : (0 : Int) ≤ (j : Int) := by omega
      have hlen : j < ms.length := by rw [unhide HN]; omega
      rcases (unhide HR).below (by exact (unhide hbl)) with e0 | ⟨g, off, rfl, hc⟩
      · exfalso; rw [e0] at hlen; simp at hlen
      have HL := hide hlen
      have hA := hc j hlen
      have hsz := (unhide hbl).size
      have HBX := hide (bx_new wr (ms.getD j R.zero) 103)
      have HBL := hide ((unhide hbl).alloc hsz (.cells #[.int .i64 (ms.getD j R.zero).ad, .int .i64 (ms.getD j R.zero).hd, .int .i64 (ms.getD j R.zero).sy, .int .i64 (ms.getD j R.zero).ci, .int .i64 (ms.getD j R.zero).co, .int .i64 (ms.getD j R.zero).wl] 103))
      cases hk : okL (ms.getD j R.zero)
      · clear hc
        have HST := hide (Ri.all_no hlen (Ri.step_bad (key := R.ad) hk))
        have HK := hide hk
        clear hk
        generalize ms.getD j R.zero = m at *
        obtain ⟨ad, hd, sy, ci, co, wl⟩ := m
        obtain ⟨c0, c1, c2, c3, c4, c5⟩ := hA
        dsimp only at c0 c1 c2 c3 c4 c5
        go_wp2_with fail
        generalize hW : wr.alloc (.cells #[.int .i64 ad, .int .i64 hd, .int .i64 sy, .int .i64 ci, .int .i64 co, .int .i64 wl] 103) = W0 at *
        clear hW
        refine wp_region_noPanic ?_
        refine wp_region_held_drew (S := fun w' => Bx w' wr.heap.size ⟨ad, hd, sy, ci, co, wl⟩ ∧ w'.cell? ⟨wr.heap.size, 0, none⟩ = some (.int .i64 ad) ∧ w'.cell? ⟨wr.heap.size, 1, none⟩ = some (.int .i64 hd) ∧ w'.cell? ⟨wr.heap.size, 2, none⟩ = some (.int .i64 sy) ∧ w'.cell? ⟨wr.heap.size, 3, none⟩ = some (.int .i64 ci) ∧ w'.cell? ⟨wr.heap.size, 4, none⟩ = some (.int .i64 co) ∧ w'.cell? ⟨wr.heap.size, 5, none⟩ = some (.int .i64 wl)) (by kernel_rfl) (sBox (unhide HBX).drew) (fun hHeld => ?_)
        refine Rg.t 0 12 ?_
        (refine Rg.o 1 (fun K hK => ?_); go_simp)
        refine (isLink ad hd sy ci co wl _).mono ?_
        rintro e w2 ⟨rfl, b2⟩
        rw [unhide HK]
        refine hK.out _ _ (sBox ((unhide HBX).drew.below b2)) (fun hHeld => ?_)
        clear hK K
        (try simp only [Act.put, List.setIfInBounds_toArray, List.set_cons_zero, List.set_cons_succ])
        refine Rg.t 2 14 ?_
        refine Rg.t 3 15 ?_
        refine Rg.s 4 16 ?_
        refine Rg.s 5 17 ?_
        refine Rg.s 6 18 ?_
        refine Rg.s 7 19 ?_
        refine Rg.s 8 20 ?_
        refine Rg.s 9 21 ?_
        refine Rg.s 10 22 ?_
        refine Rg.s 11 23 ?_
        refine Rg.s 12 24 ?_
        refine Rg.s 13 25 ?_
        refine Rg.s 14 26 ?_
        refine Rg.s 15 27 ?_
        refine Rg.s 16 28 ?_
        refine Rg.t 17 29 ?_
        refine wpAnyH_done (by kernel_rfl) (NoPanic.normal ?_) _
        have hb1 := hide ((unhide HBL).drew.trans (b2.mono (by show w.heap.size ≤ W0.heap.size; exact (unhide HBL).size)))
        go_wp2_with fail
        go_ret
        exact ⟨ret_bool (unhide HST).symm, unhide hb1⟩
      have HK := hide hk
      clear hk
      by_cases hj0 : j = 0
      · subst hj0
        clear hc
        rw [Nat.zero_mul, Nat.add_zero] at hA
        have HST := hide (Ri.all_succ (unhide hrl) (Ri.step_zero (key := R.ad) (unhide HK)))
        generalize ms.getD 0 R.zero = m at *
        obtain ⟨ad, hd, sy, ci, co, wl⟩ := m
        obtain ⟨c0, c1, c2, c3, c4, c5⟩ := hA
        dsimp only at c0 c1 c2 c3 c4 c5
        go_wp2_with fail
        generalize hW : wr.alloc (.cells #[.int .i64 ad, .int .i64 hd, .int .i64 sy, .int .i64 ci, .int .i64 co, .int .i64 wl] 103) = W0 at *
        clear hW
        refine wp_region_noPanic ?_
        refine wp_region_held_drew (S := fun w' => Bx w' wr.heap.size ⟨ad, hd, sy, ci, co, wl⟩ ∧ w'.cell? ⟨wr.heap.size, 0, none⟩ = some (.int .i64 ad) ∧ w'.cell? ⟨wr.heap.size, 1, none⟩ = some (.int .i64 hd) ∧ w'.cell? ⟨wr.heap.size, 2, none⟩ = some (.int .i64 sy) ∧ w'.cell? ⟨wr.heap.size, 3, none⟩ = some (.int .i64 ci) ∧ w'.cell? ⟨wr.heap.size, 4, none⟩ = some (.int .i64 co) ∧ w'.cell? ⟨wr.heap.size, 5, none⟩ = some (.int .i64 wl)) (by kernel_rfl) (sBox (unhide HBX).drew) (fun hHeld => ?_)
        refine Rg.t 0 12 ?_
        (refine Rg.o 1 (fun K hK => ?_); go_simp)
        refine (isLink ad hd sy ci co wl _).mono ?_
        rintro e w2 ⟨rfl, b2⟩
        rw [unhide HK]
        refine hK.out _ _ (sBox ((unhide HBX).drew.below b2)) (fun hHeld => ?_)
        clear hK K
        (try simp only [Act.put, List.setIfInBounds_toArray, List.set_cons_zero, List.set_cons_succ])
        refine Rg.t 2 14 ?_
        refine Rg.t 3 15 ?_
        refine Rg.t 4 16 ?_
        refine Rg.t 5 17 ?_
        refine Rg.t 6 18 ?_
        refine Rg.s 7 19 ?_
        refine Rg.s 8 20 ?_
        refine Rg.s 9 21 ?_
        refine Rg.s 10 22 ?_
        refine Rg.s 11 23 ?_
        refine Rg.s 12 24 ?_
        refine Rg.s 13 25 ?_
        refine Rg.s 14 26 ?_
        refine Rg.s 15 27 ?_
        refine Rg.t 16 28 ?_
        refine Rg.t 17 29 ?_
        refine wpAnyH_done (by kernel_rfl) (NoPanic.normal ?_) _
        have hb1 := hide ((unhide HBL).drew.trans (b2.mono (by show w.heap.size ≤ W0.heap.size; exact (unhide HBL).size)))
        go_wp2_with fail
        go_roundw
        case rel => exact ⟨0 + 1, by omega, by go_num, HST, hb1⟩
        case measure => simp [intOf]; omega
      · obtain ⟨i, hji⟩ : ∃ i, j = i + 1 := ⟨j - 1, by omega⟩
        have HJ := hide hji
        have e1 : (j : Int) - 1 = (i : Int) := by omega
        have i0 : (0 : Int) ≤ (i : Int) := by omega
        have wi : IntKind.i64.wrap (i : Int) = (i : Int) := by rw [IntKind.wrap_i64]; omega
        have i1 : (i : Int) < (n : Int) := by omega
        have j1 : (0 : Int) < (j : Int) := by omega
        have j2 : 0 < j := by omega
        have hP := hide ((hc i (by omega)).below ((Below.refl _ _).alloc (Nat.le_refl _) (.cells #[.int .i64 (ms.getD j R.zero).ad, .int .i64 (ms.getD j R.zero).hd, .int .i64 (ms.getD j R.zero).sy, .int .i64 (ms.getD j R.zero).ci, .int .i64 (ms.getD j R.zero).co, .int .i64 (ms.getD j R.zero).wl] 103)))
        have EJ : ms.getD j R.zero = ms.getD (i + 1) R.zero := by rw [hji]
        clear hc hji
        by_cases hk : (ms.getD i R.zero).ad < (ms.getD j R.zero).ad
        · have HST : Hid (allL ms (j + 1) = true) := hide (Ri.all_succ (unhide hrl) (by rw [unhide HJ]; exact Ri.step_lt (by rw [← EJ]; exact unhide HK) (by rw [← EJ]; exact hk)))
          clear EJ
          generalize ms.getD i R.zero = m0 at *
          obtain ⟨ad0, hd0, sy0, ci0, co0, wl0⟩ := m0
          dsimp only at hk
          generalize ms.getD j R.zero = m at *
          obtain ⟨ad, hd, sy, ci, co, wl⟩ := m
          obtain ⟨c0, c1, c2, c3, c4, c5⟩ := hA
          dsimp only at hk c0 c1 c2 c3 c4 c5
          go_wp2_with fail
          generalize hW : wr.alloc (.cells #[.int .i64 ad, .int .i64 hd, .int .i64 sy, .int .i64 ci, .int .i64 co, .int .i64 wl] 103) = W0 at *
          clear hW
          refine wp_region_noPanic ?_
          refine wp_region_held_drew (S := fun w' => (Bx w' wr.heap.size ⟨ad, hd, sy, ci, co, wl⟩ ∧ At w' g (off + i * 6) ⟨ad0, hd0, sy0, ci0, co0, wl0⟩) ∧ w'.cell? ⟨wr.heap.size, 0, none⟩ = some (.int .i64 ad) ∧ w'.cell? ⟨wr.heap.size, 1, none⟩ = some (.int .i64 hd) ∧ w'.cell? ⟨wr.heap.size, 2, none⟩ = some (.int .i64 sy) ∧ w'.cell? ⟨wr.heap.size, 3, none⟩ = some (.int .i64 ci) ∧ w'.cell? ⟨wr.heap.size, 4, none⟩ = some (.int .i64 co) ∧ w'.cell? ⟨wr.heap.size, 5, none⟩ = some (.int .i64 wl) ∧ w'.cell? ⟨g, off + i * 6, none⟩ = some (.int .i64 ad0)) (by kernel_rfl) (sBox2 (unhide HBX).drew (unhide hP).drew) (fun hHeld => ?_)
          refine Rg.t 0 12 ?_
          (refine Rg.o 1 (fun K hK => ?_); go_simp)
          refine (isLink ad hd sy ci co wl _).mono ?_
          rintro e w2 ⟨rfl, b2⟩
          rw [unhide HK]
          refine hK.out _ _ (sBox2 ((unhide HBX).drew.below b2) ((unhide hP).drew.below b2)) (fun hHeld => ?_)
          clear hK K
          (try simp only [Act.put, List.setIfInBounds_toArray, List.set_cons_zero, List.set_cons_succ])
          refine Rg.t 2 14 ?_
          refine Rg.t 3 15 ?_
          refine Rg.t 4 16 ?_
          refine Rg.t 5 17 ?_
          refine Rg.t 6 18 ?_
          refine Rg.t 7 19 ?_
          refine Rg.t 8 20 ?_
          refine Rg.t 9 21 ?_
          refine Rg.t 10 22 ?_
          refine Rg.t 11 23 ?_
          refine Rg.t 12 24 ?_
          refine Rg.t 13 25 ?_
          refine Rg.t 14 26 ?_
          refine Rg.t 15 27 ?_
          refine Rg.t 16 28 ?_
          refine Rg.t 17 29 ?_
          refine wpAnyH_done (by kernel_rfl) (NoPanic.normal ?_) _
          have hb1 := hide ((unhide HBL).drew.trans (b2.mono (by show w.heap.size ≤ W0.heap.size; exact (unhide HBL).size)))
          go_wp2_with fail
          go_roundw
          case rel => exact ⟨j + 1, by omega, by go_num, HST, hb1⟩
          case measure => simp [intOf]; omega
        · have HST : Hid (linksB ms = false) := hide (Ri.all_no (unhide HL) (show Ri.step R.zero okL R.ad ms j = false by rw [unhide HJ]; exact Ri.step_ge (by rw [← EJ]; omega)))
          clear EJ
          generalize ms.getD i R.zero = m0 at *
          obtain ⟨ad0, hd0, sy0, ci0, co0, wl0⟩ := m0
          dsimp only at hk
          generalize ms.getD j R.zero = m at *
          obtain ⟨ad, hd, sy, ci, co, wl⟩ := m
          obtain ⟨c0, c1, c2, c3, c4, c5⟩ := hA
          dsimp only at hk c0 c1 c2 c3 c4 c5
          go_wp2_with fail
          generalize hW : wr.alloc (.cells #[.int .i64 ad, .int .i64 hd, .int .i64 sy, .int .i64 ci, .int .i64 co, .int .i64 wl] 103) = W0 at *
          clear hW
          refine wp_region_noPanic ?_
          refine wp_region_held_drew (S := fun w' => (Bx w' wr.heap.size ⟨ad, hd, sy, ci, co, wl⟩ ∧ At w' g (off + i * 6) ⟨ad0, hd0, sy0, ci0, co0, wl0⟩) ∧ w'.cell? ⟨wr.heap.size, 0, none⟩ = some (.int .i64 ad) ∧ w'.cell? ⟨wr.heap.size, 1, none⟩ = some (.int .i64 hd) ∧ w'.cell? ⟨wr.heap.size, 2, none⟩ = some (.int .i64 sy) ∧ w'.cell? ⟨wr.heap.size, 3, none⟩ = some (.int .i64 ci) ∧ w'.cell? ⟨wr.heap.size, 4, none⟩ = some (.int .i64 co) ∧ w'.cell? ⟨wr.heap.size, 5, none⟩ = some (.int .i64 wl) ∧ w'.cell? ⟨g, off + i * 6, none⟩ = some (.int .i64 ad0)) (by kernel_rfl) (sBox2 (unhide HBX).drew (unhide hP).drew) (fun hHeld => ?_)
          refine Rg.t 0 12 ?_
          (refine Rg.o 1 (fun K hK => ?_); go_simp)
          refine (isLink ad hd sy ci co wl _).mono ?_
          rintro e w2 ⟨rfl, b2⟩
          rw [unhide HK]
          refine hK.out _ _ (sBox2 ((unhide HBX).drew.below b2) ((unhide hP).drew.below b2)) (fun hHeld => ?_)
          clear hK K
          (try simp only [Act.put, List.setIfInBounds_toArray, List.set_cons_zero, List.set_cons_succ])
          refine Rg.t 2 14 ?_
          refine Rg.t 3 15 ?_
          refine Rg.t 4 16 ?_
          refine Rg.t 5 17 ?_
          refine Rg.t 6 18 ?_
          refine Rg.t 7 19 ?_
          refine Rg.t 8 20 ?_
          refine Rg.t 9 21 ?_
          refine Rg.t 10 22 ?_
          refine Rg.t 11 23 ?_
          refine Rg.t 12 24 ?_
          refine Rg.t 13 25 ?_
          refine Rg.t 14 26 ?_
          refine Rg.t 15 27 ?_
          refine Rg.t 16 28 ?_
          refine Rg.t 17 29 ?_
          refine wpAnyH_done (by kernel_rfl) (NoPanic.normal ?_) _
          have hb1 := hide ((unhide HBL).drew.trans (b2.mono (by show w.heap.size ≤ W0.heap.size; exact (unhide HBL).size)))
          go_wp2_with fail
          go_ret
          exact ⟨ret_bool (unhide HST).symm, unhide hb1⟩
    · obtain rfl : j = n := by omega
      have HO : Hid (linksB ms = true) := hide (by unfold linksB; rw [unhide HN]; exact unhide hrl)
      go_wp2
      go_ret
      exact ⟨ret_bool (unhide HO).symm, unhide hbl⟩
end Ln
end Go.Proofs.YthfcigfgpimimaaGreat
namespace Go.Proofs.YthfcigfgpimimaaGreat
open Go.ChangeShapes Go.WideShapes Go.ChangeAt Go.RowKit
set_option linter.unusedVariables false
namespace Mtr
open W1
def met (c : Nat) : Int := (257 + (c % 256 : Nat)) * 2 ^ (c / 256) - 256
theorem met_step (c : Nat) : met c < met (c + 1) := by
  unfold met
  have hp : (0 : Int) < 2 ^ (c / 256) := Int.pow_pos (by decide)
  by_cases h : c % 256 = 255
  · have h1 : (c + 1) % 256 = 0 := by omega
    have h2 : (c + 1) / 256 = c / 256 + 1 := by omega
    rw [h, h1, h2, Int.pow_succ]
    generalize (2 : Int) ^ (c / 256) = p at *
    omega
  · have h1 : (c + 1) % 256 = c % 256 + 1 := by omega
    have h2 : (c + 1) / 256 = c / 256 := by omega
    rw [h1, h2]
    have := Int.mul_lt_mul_of_pos_right (show (257 + ((c % 256 : Nat) : Int)) < 257 + ((c % 256 + 1 : Nat) : Int) by omega) hp
    omega
theorem met_mono {a b : Nat} (h : a ≤ b) : met a ≤ met b := by
  induction h with
  | refl => exact Int.le_refl _
  | step _ ih => exact Int.le_trans ih (Int.le_of_lt (met_step _))
theorem met_lo (a : Nat) : 1 ≤ met a := by
  have h0 : met 0 = 1 := by decide
  have := met_mono (Nat.zero_le a)
  omega
theorem met_hi {a : Nat} (h : a ≤ 4095) : met a ≤ 16776960 := by
  have h0 : met 4095 = 16776960 := by decide
  have := met_mono h
  omega
/-- k is the least code whose metric is n or more. -/
def IsCode (n : Int) (k : Nat) : Prop := k ≤ 4095 ∧ n ≤ met k ∧ (k = 0 ∨ met (k - 1) < n)
theorem arith1 (c : Nat) : ((c + 1) * 256 + 256 - 256 - 1) % 256 = 255 ∧ ((c + 1) * 256 + 256 - 256 - 1) / 256 = c := by omega
theorem arith2 {b q : Nat} (h : 257 ≤ q) (h' : q < 512) : (b * 256 + q - 256 - 1) % 256 = q - 257 ∧ (b * 256 + q - 256 - 1) / 256 = b := by omega
/-- The least code whose metric is n or more. -/
def mcode (n : Int) : Nat := cnt met 4096 n
theorem mcode_of {n : Int} {k : Nat} (h : IsCode n k) : mcode n = k :=
  cnt_of _ _ _ _ (by have := h.1; omega) (fun c hc => by
    rcases h.2.2 with e | e
    · omega
    · have := met_mono (show c ≤ k - 1 by omega); omega) (fun c hc _ => by have := met_mono hc; have := h.2.1; omega)
/-- The program's way to the code. -/
theorem fast {n : Nat} (h1 : 1 ≤ n) (h2 : n ≤ 16776960) :
    9 ≤ Lib.bitLen (n + 255) ∧ Lib.bitLen (n + 255) ≤ 24 ∧ 256 ≤ (n + 255) / 2 ^ (Lib.bitLen (n + 255) - 9) ∧ (n + 255) / 2 ^ (Lib.bitLen (n + 255) - 9) ≤ 511 ∧
    IsCode n ((Lib.bitLen (n + 255) - 9) * 256 + (n + 255) / 2 ^ (Lib.bitLen (n + 255) - 9) - 256) ∧ (n ≤ 256 → met ((Lib.bitLen (n + 255) - 9) * 256 + (n + 255) / 2 ^ (Lib.bitLen (n + 255) - 9) - 256) = n) := by
  obtain ⟨l1, l2, l3⟩ := Lib.bitLenAux_bounds 64 (n + 255) (by omega) (by omega)
  have hb : Lib.bitLen (n + 255) = Lib.bitLenAux 64 (n + 255) := by rw [Lib.bitLen]
  rw [← hb] at l1 l2 l3
  clear hb
  generalize Lib.bitLen (n + 255) = L at *
  have a1 : 9 ≤ L := by
    rcases Nat.lt_or_ge L 9 with h | h
    · have := Nat.pow_le_pow_right (n := 2) (by decide) (show L ≤ 8 by omega); omega
    · exact h
  have a2 : L ≤ 24 := by
    rcases Nat.lt_or_ge 24 L with h | h
    · have := Nat.pow_le_pow_right (n := 2) (by decide) (show 24 ≤ L - 1 by omega); omega
    · exact h
  obtain ⟨b, rfl⟩ : ∃ b, L = b + 9 := ⟨L - 9, by omega⟩
  have e1 : b + 9 - 1 = b + 8 := by omega
  have e2 : b + 9 - 9 = b := by omega
  rw [e1, Nat.pow_add] at l2
  rw [Nat.pow_add] at l3
  rw [e2]
  have hp : 0 < 2 ^ b := Nat.two_pow_pos _
  have q1 : 256 ≤ (n + 255) / 2 ^ b := (Nat.le_div_iff_mul_le hp).2 (by omega)
  have q2 : (n + 255) / 2 ^ b < 512 := (Nat.div_lt_iff_lt_mul hp).2 (by omega)
  have dm := Nat.div_add_mod (n + 255) (2 ^ b)
  have ml := Nat.mod_lt (n + 255) hp
  generalize hq : (n + 255) / 2 ^ b = q at *
  refine ⟨a1, a2, q1, by omega, ?_⟩
  have k1 : (b * 256 + q - 256) % 256 = q - 256 := by omega
  have k2 : (b * 256 + q - 256) / 256 = b := by omega
  have hme : met (b * 256 + q - 256) = ((2 ^ b * q + 2 ^ b : Nat) : Int) - 256 := by
    unfold met
    rw [k1, k2]
    have : (257 + ((q - 256 : Nat) : Int)) = (q : Int) + 1 := by omega
    rw [this, Int.add_mul]
    simp [Int.mul_comm]
  refine ⟨⟨by omega, by rw [hme]; omega, ?_⟩, ?_⟩
  · by_cases hz : b * 256 + q - 256 = 0
    · exact .inl hz
    · right
      have hm2 : met (b * 256 + q - 256 - 1) = ((2 ^ b * q : Nat) : Int) - 256 := by
        unfold met
        by_cases hq0 : q = 256
        · subst hq0
          obtain ⟨c, rfl⟩ : ∃ c, b = c + 1 := ⟨b - 1, by omega⟩
          obtain ⟨k3, k4⟩ := arith1 c
          rw [k3, k4, Nat.pow_succ]
          simp
          generalize (2 : Int) ^ c = p
          omega
        · obtain ⟨k3, k4⟩ := arith2 (b := b) (show 257 ≤ q by omega) q2
          rw [k3, k4]
          have : (257 + ((q - 257 : Nat) : Int)) = (q : Int) := by omega
          rw [this]
          simp [Int.mul_comm]
      rw [hm2]
      generalize 2 ^ b * q = pq at *
      omega
  · intro hn
    have hb : b = 0 := by
      rcases Nat.eq_zero_or_pos b with h | h
      · exact h
      · have : 2 ^ 1 ≤ 2 ^ b := Nat.pow_le_pow_right (by decide) h
        omega
    subst hb
    rw [hme]
    simp at *
    omega
theorem mcode_is {n : Int} (h0 : 1 ≤ n) (h1 : n ≤ 16776960) : IsCode n (mcode n) := by
  obtain ⟨c, rfl⟩ := Int.eq_ofNat_of_zero_le (show 0 ≤ n by omega)
  obtain ⟨_, _, _, _, hc, _⟩ := fast (n := c) (by omega) (by omega)
  rw [mcode_of hc]; exact hc
theorem and_mask (j : Nat) (hj : j ≤ 16) (x m : Int) (hm : m = ((2 ^ j - 1 : Nat) : Int)) : bits BinOp.and IntKind.i64 x m = x % ((2 ^ j : Nat) : Int) := by
  subst hm
  have hp : 2 ^ j ≤ 2 ^ 16 := Nat.pow_le_pow_right (by decide) hj
  have hp1 : 0 < 2 ^ j := Nat.two_pow_pos j
  have hd : 2 ^ j ∣ 2 ^ 64 := Nat.pow_dvd_pow 2 (by omega)
  show IntKind.i64.wrap ((BitVec.ofInt 64 x &&& BitVec.ofInt 64 ((2 ^ j - 1 : Nat) : Int)).toNat : Int) = _
  rw [BitVec.toNat_and, ofInt_u64 (2 ^ j - 1) (by omega), Nat.and_two_pow_sub_one_eq_mod, BitVec.toNat_ofInt, IntWalk.i64_left]
  have h1 : (((x % ((2 ^ 64 : Nat) : Int)).toNat % 2 ^ j : Nat) : Int) = x % ((2 ^ j : Nat) : Int) := by
    rw [Int.natCast_emod, Int.toNat_of_nonneg (Int.emod_nonneg _ (by decide)), Int.emod_emod_of_dvd _ (Int.natCast_dvd_natCast.2 hd)]
  rw [h1]
  have h2 := Int.emod_nonneg x (show ((2 ^ j : Nat) : Int) ≠ 0 by omega)
  have h3 := Int.emod_lt_of_pos x (show (0 : Int) < ((2 ^ j : Nat) : Int) by omega)
  unfold wrap64
  generalize x % ((2 ^ j : Nat) : Int) = y at *
  omega
theorem and_255 (x : Int) : bits BinOp.and IntKind.i64 x 255 = x % 256 := and_mask 8 (by decide) x 255 rfl
theorem met_wrap {c : Nat} (hc : c ≤ 4095) : wrap64 (wrap64 ((257 + (c : Int) % 256) * 2 ^ (c / 256)) - 256) = met c := by
  have h0 := met_lo c
  have h1 := met_hi hc
  have e : (257 + (c : Int) % 256) * 2 ^ (c / 256) = met c + 256 := by unfold met; simp
  rw [e]
  unfold wrap64
  omega
set_option maxHeartbeats 400000 in
theorem metricAt (c : Nat) (hc : c ≤ 4095) (w : World) : Calls Tryz.prog 138 #[.int .i64 c] w fun e w' => e = .returned (.int .i64 (met c)) ∧ w' = w := by
  go_enter Tryz.func138, Tryz.ntmps138
  go_wp2
  go_ret
  exact ⟨ret_int (met_wrap hc), rfl⟩
theorem met_wrap2 {c : Nat} (hc : c ≤ 4095) : wrap64 (wrap64 (wrap64 (257 + bits BinOp.and IntKind.i64 c 255) * 2 ^ (c / 256)) - 256) = met c := by
  have e : wrap64 (257 + bits BinOp.and IntKind.i64 c 255) = 257 + (c : Int) % 256 := by rw [and_255]; unfold wrap64; omega
  rw [e]; exact met_wrap hc
set_option maxHeartbeats 400000 in
theorem l02Metric (c : Nat) (hc : c ≤ 4095) (w : World) : Calls Tryz.prog 95 #[.int .i64 c] w fun e w' => e = .returned (.int .i64 (met c)) ∧ w' = w := by
  go_enter Tryz.func95, Tryz.ntmps95
  go_wp2
  go_ret
  exact ⟨ret_int (met_wrap2 hc), rfl⟩
set_option maxHeartbeats 400000 in
theorem leastMetric (n : Int) (h0 : 1 ≤ n) (h1 : n ≤ 16776960) (w : World) : Calls Tryz.prog 139 #[.int .i64 n] w fun e w' => e = .returned (.int .i64 (mcode n)) ∧ w' = w := by
  obtain ⟨c, rfl⟩ := Int.eq_ofNat_of_zero_le (show 0 ≤ n by omega)
  obtain ⟨l1, l2, q1, q2, hc, hx⟩ := fast (n := c) (by omega) (by omega)
  obtain ⟨b, hb⟩ : ∃ b, Lib.bitLen (c + 255) = b + 9 := ⟨_, (Nat.sub_add_cancel l1).symm⟩
  have hL : ((Lib.bitLen ((c : Int) + 256 - 1).toNat : Nat) : Int) = (b : Int) + 9 := by
    rw [show ((c : Int) + 256 - 1).toNat = c + 255 by omega, hb]; rfl
  rw [hb, Nat.add_sub_cancel] at hc q1 q2
  rw [hb] at l2
  clear hb l1 hx
  have HC := hide (mcode_of hc)
  clear hc
  have hd : ((c : Int) + 256 - 1) / 2 ^ b = (((c + 255) / 2 ^ b : Nat) : Int) := by
    rw [show (c : Int) + 256 - 1 = ((c + 255 : Nat) : Int) by omega]; simp
  generalize (c + 255) / 2 ^ b = q at *
  go_enter Tryz.func139, Tryz.ntmps139
  go_wp2_with (go_at_call 142; refine (Tryz.bits_Len ((c : Int) + 256 - 1) _ (by omega) (by omega)).mono ?_; rintro e w' ⟨rfl, rfl⟩; rw [hL])
  go_ret
  exact ⟨ret_int (by rw [unhide HC]; omega), rfl⟩
set_option maxHeartbeats 400000 in
theorem l02MetricCode (n : Int) (h0 : 1 ≤ n) (h1 : n ≤ 16776960) (w : World) : Calls Tryz.prog 96 #[.int .i64 n] w fun e w' => (∃ k : Nat, e = .returned (.int .i64 k) ∧ IsCode n k) ∧ w' = w := by
  go_enter Tryz.func96, Tryz.ntmps96
  go_wp2
  go_loop [3, 4] (fun l h => ∃ a b : Nat, l = .int .i64 a ∧ h = .int .i64 b ∧ a ≤ b ∧ b ≤ 4095 ∧ n ≤ met b ∧ (a = 0 ∨ met (a - 1) < n)) (fun l h => (intOf h - intOf l).toNat)
  case atStart => exact ⟨0, 4095, rfl, rfl, by omega, by omega, by rw [show met 4095 = 16776960 by decide]; exact h1, .inl rfl⟩
  case round =>
    obtain ⟨a, b, rfl, rfl, hab, hb, hm, ha⟩ := hrel
    have HM := hide hm
    have HA := hide ha
    clear hm ha
    by_cases hlt : a < b
    · obtain ⟨m, hm1, hm2⟩ : ∃ m : Nat, a ≤ m ∧ m < b ∧ Hid (((a : Int) + b) / 2 = m) := ⟨(a + b) / 2, by omega, by omega, hide (by omega)⟩
      obtain ⟨hm2, HQ⟩ := hm2
      by_cases hge : n ≤ met m
      · go_wp2_with (go_at_call 95; rw [unhide HQ]; refine (l02Metric m (by omega) _).mono ?_; rintro e w' ⟨rfl, rfl⟩)
        go_round
        case rel => exact ⟨a, m, rfl, rfl, by omega, by omega, hge, unhide HA⟩
        case measure => simp [intOf]; omega
      · go_wp2_with (go_at_call 95; rw [unhide HQ]; refine (l02Metric m (by omega) _).mono ?_; rintro e w' ⟨rfl, rfl⟩)
        go_round
        case rel => exact ⟨m + 1, b, by rfl, rfl, by omega, by omega, unhide HM, .inr (by rw [Nat.add_sub_cancel]; exact hge)⟩
        case measure => simp [intOf]; omega
    · have hab' : a = b := by omega
      subst hab'
      go_wp2
      go_ret
      exact ⟨⟨a, rfl, by omega, unhide HM, unhide HA⟩, rfl⟩
theorem l02MetricCodeE (n : Int) (h0 : 1 ≤ n) (h1 : n ≤ 16776960) (w : World) : Calls Tryz.prog 96 #[.int .i64 n] w fun e w' => e = .returned (.int .i64 (mcode n)) ∧ w' = w :=
  (l02MetricCode n h0 h1 w).mono fun e w' ⟨⟨k, he, hk⟩, hw⟩ => ⟨by rw [mcode_of hk]; exact he, hw⟩
end Mtr
end Go.Proofs.YthfcigfgpimimaaGreat
namespace Go.Proofs.YthfcigfgpimimaaGreat
open Go.ChangeShapes Go.WideShapes Go.ChangeAt Go.RowKit
set_option linter.unusedVariables false
namespace Tim
open W1
/-- The time of a code. -/
def tim (c : Nat) : Int := (8 + (c % 8 : Nat)) * 2 ^ (c / 8) / 8
theorem and_mask (j : Nat) (hj : j ≤ 16) (x m : Int) (hm : m = ((2 ^ j - 1 : Nat) : Int)) : bits BinOp.and IntKind.i64 x m = x % ((2 ^ j : Nat) : Int) := by
  subst hm
  have hp : 2 ^ j ≤ 2 ^ 16 := Nat.pow_le_pow_right (by decide) hj
  have hp1 : 0 < 2 ^ j := Nat.two_pow_pos j
  have hd : 2 ^ j ∣ 2 ^ 64 := Nat.pow_dvd_pow 2 (by omega)
  show IntKind.i64.wrap ((BitVec.ofInt 64 x &&& BitVec.ofInt 64 ((2 ^ j - 1 : Nat) : Int)).toNat : Int) = _
  rw [BitVec.toNat_and, ofInt_u64 (2 ^ j - 1) (by omega), Nat.and_two_pow_sub_one_eq_mod, BitVec.toNat_ofInt, IntWalk.i64_left]
  have h1 : (((x % ((2 ^ 64 : Nat) : Int)).toNat % 2 ^ j : Nat) : Int) = x % ((2 ^ j : Nat) : Int) := by
    rw [Int.natCast_emod, Int.toNat_of_nonneg (Int.emod_nonneg _ (by decide)), Int.emod_emod_of_dvd _ (Int.natCast_dvd_natCast.2 hd)]
  rw [h1]
  have h2 := Int.emod_nonneg x (show ((2 ^ j : Nat) : Int) ≠ 0 by omega)
  have h3 := Int.emod_lt_of_pos x (show (0 : Int) < ((2 ^ j : Nat) : Int) by omega)
  unfold wrap64
  generalize x % ((2 ^ j : Nat) : Int) = y at *
  omega
theorem big {c : Nat} (hc : c ≤ 223) : wrap64 ((8 + (c : Int) % 8) * 2 ^ (c / 8)) = (8 + (c : Int) % 8) * 2 ^ (c / 8) := by
  have h1 : (2 : Int) ^ (c / 8) ≤ 134217728 := by
    have hN : (2 : Nat) ^ (c / 8) ≤ 134217728 := Nat.le_trans (Nat.pow_le_pow_right (n := 2) (by omega) (by omega : c / 8 ≤ 27)) (by decide)
    have h := Int.ofNat_le.2 hN
    rw [Int.natCast_pow] at h
    exact h
  have h0 : (0 : Int) < 2 ^ (c / 8) := Int.pow_pos (by omega)
  have h2 : (8 + (c : Int) % 8) * 2 ^ (c / 8) ≤ 15 * 2 ^ (c / 8) := Int.mul_le_mul_of_nonneg_right (by omega) (by omega)
  have h3 : 0 ≤ (8 + (c : Int) % 8) * 2 ^ (c / 8) := Int.mul_nonneg (by omega) (by omega)
  generalize (8 + (c : Int) % 8) * 2 ^ (c / 8) = x at *
  unfold wrap64
  omega
theorem tim_step (c : Nat) : tim c ≤ tim (c + 1) := by
  unfold tim
  have hp : (0 : Int) < 2 ^ (c / 8) := Int.pow_pos (by decide)
  refine Int.ediv_le_ediv (by decide) ?_
  by_cases h : c % 8 = 7
  · have h1 : (c + 1) % 8 = 0 := by omega
    have h2 : (c + 1) / 8 = c / 8 + 1 := by omega
    rw [h, h1, h2, Int.pow_succ]
    generalize (2 : Int) ^ (c / 8) = p at *
    omega
  · have h1 : (c + 1) % 8 = c % 8 + 1 := by omega
    have h2 : (c + 1) / 8 = c / 8 := by omega
    rw [h1, h2]
    exact Int.mul_le_mul_of_nonneg_right (by omega) (by omega)
theorem tim_mono {a b : Nat} (h : a ≤ b) : tim a ≤ tim b := by
  induction h with
  | refl => exact Int.le_refl _
  | step _ ih => exact Int.le_trans ih (tim_step _)
/-- k is the least code whose time is n or more. -/
def IsTime (n : Int) (k : Nat) : Prop := k ≤ 223 ∧ n ≤ tim k ∧ (k = 0 ∨ tim (k - 1) < n)
/-- The least code whose time is n or more. -/
def tcode (n : Int) : Nat := cnt tim 224 n
theorem tcode_of {n : Int} {k : Nat} (h : IsTime n k) : tcode n = k :=
  cnt_of _ _ _ _ (by have := h.1; omega) (fun c hc => by
    rcases h.2.2 with e | e
    · omega
    · have := tim_mono (show c ≤ k - 1 by omega); omega) (fun c hc _ => by have := tim_mono hc; have := h.2.1; omega)
theorem tcode_ex {n : Int} (h1 : n ≤ 251658240) : ∃ k, k ≤ 223 ∧ (∀ c, c < k → tim c < n) ∧ n ≤ tim k := by
  refine Classical.byContradiction fun hno => ?_
  have hall : ∀ k, k ≤ 224 → ∀ c, c < k → tim c < n := by
    intro k
    induction k with
    | zero => intro _ c hc; omega
    | succ k ih =>
      intro hk c hc
      have ih' := ih (by omega)
      by_cases ek : c = k
      · subst ek
        rcases Int.lt_or_le (tim c) n with hh | hh
        · exact hh
        · exact absurd ⟨c, by omega, ih', hh⟩ hno
      · exact ih' c (by omega)
  have := hall 224 (by omega) 223 (by omega)
  rw [show tim 223 = 251658240 by decide] at this
  omega
theorem tcode_is {n : Int} (h1 : n ≤ 251658240) : IsTime n (tcode n) := by
  obtain ⟨k, hk1, hk2, hk3⟩ := tcode_ex h1
  have h : IsTime n k := ⟨hk1, hk3, by
    by_cases e : k = 0
    · exact .inl e
    · exact .inr (hk2 _ (by omega))⟩
  rw [tcode_of h]; exact h
theorem tcode_lt {n : Int} (h1 : n ≤ 251658240) : tcode n ≤ 223 := (tcode_is h1).1
/-- Whether a time is exact. -/
def exTB (n : Int) : Bool := tim (tcode n) == n
/-- Whether a time may be a hello's. -/
def valB (n : Int) : Bool := inB n 1 10000 && exTB n
set_option maxHeartbeats 400000 in
theorem timeAt (c : Nat) (hc : c ≤ 223) (w : World) : Calls Tryz.prog 141 #[.int .i64 c] w fun e w' => e = .returned (.int .i64 (tim c)) ∧ w' = w := by
  go_enter Tryz.func141, Tryz.ntmps141
  go_wp2
  go_ret
  refine ⟨ret_int ?_, rfl⟩
  have := big hc
  unfold tim
  simp [this]
theorem below_drewN {B : Nat} {w w' : World} (h : Below B w w') (q : Nat) : Below B w (w'.drewN q) := ⟨h.os, h.tape, h.output, h.size, h.block⟩
set_option maxHeartbeats 400000 in
theorem cloT (i : Nat) (hi : i ≤ 223) (n : Int) (b : Nat) (w : World) (hc : w.cell? ⟨b, 0, none⟩ = some (.int .i64 n)) :
    Calls Tryz.prog 144 #[.int .i64 i, .pointer (some ⟨b, 0, none⟩)] w fun e w' => e = .returned (.bool (decide (n ≤ tim i))) ∧ Below w.heap.size w w' := by
  by_cases h : n ≤ tim i
  all_goals
    go_enter Tryz.func144, Tryz.ntmps144
    go_wp2_with fail
    go_quiet ((go_at_call 141; exact Calls.quiet_of_same (timeAt i hi _)))
    go_wp2_with fail
    go_ret
    exact ⟨ret_bool (by simp [h]), below_drewN (Below.refl _ _) _⟩
set_option maxHeartbeats 1000000 in
theorem search (b : Nat) (n : Int) (h1 : n ≤ tim 223) (w : World) (hb : w.cell? ⟨b, 0, none⟩ = some (.int .i64 n)) :
    Calls Tryz.prog 143 #[.int .i64 224, .func (.func 144) #[] #[.pointer (some ⟨b, 0, none⟩)]] w fun e w' => e = .returned (.int .i64 (tcode n)) ∧ Below w.heap.size w w' := by
  have HB := hide hb
  have hblt := World.block_lt_of_cell? _ _ hb
  clear hb
  have H1 := hide h1
  clear h1
  go_enter Tryz.func143, Tryz.ntmps143
  go_wp2
  go_loopw [5, 6] (fun lo hi wr => ∃ low high : Nat, low ≤ high ∧ high ≤ 224 ∧ lo = .int .i64 low ∧ hi = .int .i64 high ∧ Hid (∀ i, i < low → tim i < n) ∧ Hid (∀ i, high ≤ i → i < 224 → n ≤ tim i) ∧ Hid (Below w.heap.size w wr)) (fun lo hi _ => (intOf hi - intOf lo).toNat)
  case atStart => exact ⟨0, 224, by omega, by omega, rfl, rfl, hide (fun i hi => by omega), hide (fun i hi h2 => by omega), hide (Below.refl _ _)⟩
  case round =>
    obtain ⟨low, high, hlh, hhn, rfl, rfl, h1, h2, hbl⟩ := hrel
    by_cases hlt : (low : Int) < (high : Int)
    · obtain ⟨mid, hmid⟩ : ∃ mid : Nat, mid = (low + high) / 2 := ⟨_, rfl⟩
      have hm1 : low ≤ mid := by omega
      have hm2 : mid < high := by omega
      have em : ((low : Int) + (high : Int)) / 2 = (mid : Int) := by omega
      have HC := hide ((unhide hbl).cell (p := ⟨b, 0, none⟩) hblt)
      clear hmid
      go_wp2_with fail
      refine (cloT mid (by omega) n b _ ((unhide HC).trans (unhide HB))).mono ?_
      rintro e w1 ⟨rfl, b1⟩
      have hb1 := hide ((unhide hbl).trans (b1.mono (unhide hbl).size))
      clear b1
      by_cases hp : n ≤ tim mid
      · have HST : Hid (∀ i, mid ≤ i → i < 224 → n ≤ tim i) := hide (fun i hi _ => Int.le_trans hp (tim_mono hi))
        rw [decide_eq_true hp]
        go_wp2_with fail
        exact ⟨⟨low, mid, by omega, by omega, rfl, rfl, h1, HST, hb1⟩, by simp [intOf]; omega⟩
      · have HST : Hid (∀ i, i < mid + 1 → tim i < n) := hide (fun i hi => by have := tim_mono (show i ≤ mid by omega); omega)
        rw [decide_eq_false hp]
        go_wp2_with fail
        exact ⟨⟨mid + 1, high, by omega, by omega, by go_num, rfl, HST, h2, hb1⟩, by simp [intOf]; omega⟩
    · obtain rfl : low = high := by omega
      have HT : Hid (tcode n = low) := hide (cnt_of _ _ _ _ hhn (unhide h1) (unhide h2))
      go_wp2_with fail
      go_ret
      exact ⟨ret_int (by rw [unhide HT]), unhide hbl⟩
set_option maxHeartbeats 400000 in
theorem leastTime (n : Int) (h1 : n ≤ 251658240) (w : World) :
    Calls Tryz.prog 140 #[.int .i64 n] w fun e w' => e = .returned (.int .i64 (tcode n)) ∧ Below w.heap.size w w' := by
  go_enter Tryz.func140, Tryz.ntmps140
  go_wp2_with fail
  refine (search w.heap.size n (by rw [show tim 223 = 251658240 by decide]; exact h1) _ (by simp [World.cell?_alloc_new])).mono ?_
  rintro e w1 ⟨rfl, b1⟩
  go_wp2_with fail
  go_ret
  exact ⟨rfl, ((Below.refl _ _).alloc (Nat.le_refl _) _).trans (b1.mono (by simp))⟩
set_option maxHeartbeats 400000 in
theorem isExactTime (n : Int) (h1 : n ≤ 251658240) (w : World) :
    Calls Tryz.prog 136 #[.int .i64 n] w fun e w' => e = .returned (.bool (exTB n)) ∧ Below w.heap.size w w' := by
  have hlt := tcode_lt h1
  have hlt' : ((tcode n : Nat) : Int) < 224 := by omega
  cases hx : tim (tcode n) == n
  all_goals
    have HX := hide hx
    go_enter Tryz.func136, Tryz.ntmps136
    go_wp2_with fail
    refine (leastTime n h1 _).mono ?_
    rintro e w1 ⟨rfl, b1⟩
    have B1 := hide b1
    clear b1
    generalize hk : tcode n = k at *
    have HK := hide hk
    clear hk
    go_wp2_with (go_at_call 141; refine (timeAt k hlt _).mono ?_; rintro e w' ⟨rfl, rfl⟩)
    go_ret
    exact ⟨ret_bool (by unfold exTB; rw [unhide HK, unhide HX]), unhide B1⟩
set_option maxHeartbeats 400000 in
theorem isValid (n : Int) (w : World) : Calls Tryz.prog 127 #[.int .i64 n] w fun e w' => e = .returned (.bool (valB n)) ∧ Below w.heap.size w w' := by
  cases h : inB n 1 10000
  · go_enter Tryz.func127, Tryz.ntmps127
    go_wp2_with (go_at_call 43; refine (within _ _ _ _).mono ?_; rintro e w' ⟨rfl, rfl⟩)
    go_ret
    exact ⟨ret_bool (by simp [valB, h]), Below.refl _ _⟩
  · have h0 : 1 ≤ n ∧ n ≤ 10000 := by simpa [inB] using h
    have HH := hide h
    go_enter Tryz.func127, Tryz.ntmps127
    go_wp2_with (first | (go_at_call 43; refine (within _ _ _ _).mono ?_; rintro e w' ⟨rfl, rfl⟩) | (go_at_call 136; refine (isExactTime n (by omega) _).mono ?_; rintro e w' ⟨rfl, b1⟩))
    go_ret
    exact ⟨ret_bool (by simp [valB, unhide HH]), b1⟩
end Tim
end Go.Proofs.YthfcigfgpimimaaGreat
namespace Go.Proofs.YthfcigfgpimimaaGreat
open Go.ChangeShapes Go.WideShapes Go.ChangeAt Go.RowKit
set_option linter.unusedVariables false
set_option linter.unusedSimpArgs false
attribute [local go_sem ↓] Go.wp_at_zero Go.wp_at_succ
namespace Av
open W1 Ed
/-- A metric that has a code of its own. -/
def exM (n : Int) : Bool := Mtr.met (Mtr.mcode n) == n
def toldB (n : Int) : Bool := inB n 1 16744192 && exM n
def okN (m : R) : Bool := inB m.ad 1 8 && toldB m.mt
abbrev allN (ms : List R) (j : Nat) : Bool := Ri.all R.zero okN R.ad ms j
/-- Whether an advertisement is right. -/
def tcB (ansn valid : Int) (ms : List R) : Bool := inB ansn 0 65535 && (Tim.valB valid && allN ms ms.length)
theorem ok_ad {m : R} (h : okN m = true) : 1 ≤ m.ad ∧ m.ad ≤ 8 := by
  unfold okN inB at h; simp at h; exact h.1
theorem all_len {ms : List R} (h : allN ms ms.length = true) : ms.length ≤ 8 := by
  have := Ri.all_long (lo := 1) (hi := 8) (fun m hm => ok_ad hm) h; omega
theorem tc_all {ansn valid : Int} {ms : List R} (h : tcB ansn valid ms = true) : allN ms ms.length = true := by
  unfold tcB at h; simp at h; exact h.2.2
set_option maxHeartbeats 400000 in
theorem isTold (n : Int) (w : World) : Calls Tryz.prog 131 #[.int .i64 n] w fun e w' => e = .returned (.bool (toldB n)) ∧ w' = w := by
  cases h : inB n 1 16744192
  · go_enter Tryz.func131, Tryz.ntmps131
    go_wp2_with (go_at_call 43; refine (within _ _ _ _).mono ?_; rintro e w' ⟨rfl, rfl⟩)
    go_ret
    exact ⟨ret_bool (by simp [toldB, h]), rfl⟩
  · have h0 : 1 ≤ n ∧ n ≤ 16744192 := by simpa [inB] using h
    have HH := hide h
    have hk := (Mtr.mcode_is (n := n) (by omega) (by omega)).1
    have E : Hid (toldB n = (Mtr.met (Mtr.mcode n) == n)) := hide (by unfold toldB exM; rw [h]; rfl)
    generalize hq : Mtr.mcode n = k at *
    have HQ := hide hq
    clear hq
    cases hx : Mtr.met k == n
    all_goals
      go_enter Tryz.func131, Tryz.ntmps131
      go_wp2_with (first | (go_at_call 43; refine (within _ _ _ _).mono ?_; rintro e w' ⟨rfl, rfl⟩) | (go_at_call 139; refine (Mtr.leastMetric n (by omega) (by omega) _).mono ?_; rintro e w' ⟨rfl, rfl⟩; rw [unhide HQ]) | (go_at_call 138; refine (Mtr.metricAt k hk _).mono ?_; rintro e w' ⟨rfl, rfl⟩))
      go_ret
      exact ⟨ret_bool (by rw [unhide E, hx]), rfl⟩
set_option maxHeartbeats 1000000 in
theorem isEdge (ad mt : Int) (w : World) :
    Calls Tryz.prog 128 #[.agg #[.int .i64 ad, .int .i64 mt]] w fun e w' => e = .returned (.bool (okN ⟨ad, mt⟩)) ∧ Below w.heap.size w w' := by
  have E : Hid (okN ⟨ad, mt⟩ = (inB ad 1 8 && toldB mt)) := hide rfl
  cases h1 : inB ad 1 8
  rotate_left
  cases h3 : toldB mt
  all_goals
    go_enter Tryz.func128, Tryz.ntmps128
    go_wp2_with (first | (go_at_call 101; refine (isAddress _ _).mono ?_; rintro e w' ⟨rfl, rfl⟩) | (go_at_call 131; refine (isTold _ _).mono ?_; rintro e w' ⟨rfl, rfl⟩))
    go_ret
    exact ⟨ret_bool (by rw [unhide E]; simp [*]), (Below.refl _ _).alloc (Nat.le_refl _) _⟩
set_option maxHeartbeats 400000 in
theorem l04Ex (n : Int) (h0 : 1 ≤ n) (h1 : n ≤ 16744192) (w : World) : Calls Tryz.prog 72 #[.int .i64 n] w fun e w' => e = .returned (.bool (exM n)) ∧ w' = w := by
  have hk := (Mtr.mcode_is (n := n) (by omega) (by omega)).1
  have E : Hid (exM n = (Mtr.met (Mtr.mcode n) == n)) := hide rfl
  generalize hq : Mtr.mcode n = k at *
  have HQ := hide hq
  clear hq
  cases hx : Mtr.met k == n
  all_goals
    go_enter Tryz.func72, Tryz.ntmps72
    go_wp2_with (first | (go_at_call 96; refine (Mtr.l02MetricCodeE n (by omega) (by omega) _).mono ?_; rintro e w' ⟨rfl, rfl⟩; rw [unhide HQ]) | (go_at_call 95; refine (Mtr.l02Metric k hk _).mono ?_; rintro e w' ⟨rfl, rfl⟩))
    go_ret
    exact ⟨ret_bool (by rw [unhide E, hx]), rfl⟩
end Av
end Go.Proofs.YthfcigfgpimimaaGreat
namespace Go.Proofs.YthfcigfgpimimaaGreat
open Go.ChangeShapes Go.WideShapes Go.ChangeAt Go.RowKit
set_option linter.unusedVariables false
set_option linter.unusedSimpArgs false
attribute [local go_sem ↓] Go.wp_at_zero Go.wp_at_succ
namespace Av
open W1 Ed
/-- An edge in a variable's block. -/
def Bx (w : World) (b : Nat) (m : R) : Prop := w.cell? ⟨b, 0, none⟩ = some (.int .i64 m.ad) ∧ w.cell? ⟨b, 1, none⟩ = some (.int .i64 m.mt)
theorem Bx.below {w w' : World} {b : Nat} {m : R} (h : Bx w b m) (hb : Below w.heap.size w w') : Bx w' b m := by
  have hg : b < w.heap.size := World.block_lt_of_cell? _ _ h.1
  obtain ⟨h0, h1⟩ := h
  refine ⟨?_, ?_⟩ <;> (rw [hb.cell hg]; assumption)
theorem Bx.drew {w : World} {b : Nat} {m : R} (h : Bx w b m) : Bx w.drew b m := h
theorem bx_new (w : World) (m : R) (t : Nat) : Bx (w.alloc (.cells #[.int .i64 m.ad, .int .i64 m.mt] t)) w.heap.size m := by
  refine ⟨?_, ?_⟩ <;> simp [World.cell?_alloc_new]
theorem sBox {w : World} {b : Nat} {ad mt : Int} (h : Bx w b ⟨ad, mt⟩) : Bx w b ⟨ad, mt⟩ ∧ w.cell? ⟨b, 0, none⟩ = some (.int .i64 ad) ∧ w.cell? ⟨b, 1, none⟩ = some (.int .i64 mt) := ⟨h, h⟩
theorem sBox2 {w : World} {b g p B : Nat} {m : R} {ad mt will valid : Int} {v : Value} (h : Bx w b ⟨ad, mt⟩) (h' : At w g p m) (hB : Bx3 w B will valid v) :
    (Bx w b ⟨ad, mt⟩ ∧ At w g p m ∧ Bx3 w B will valid v) ∧ w.cell? ⟨b, 0, none⟩ = some (.int .i64 ad) ∧ w.cell? ⟨b, 1, none⟩ = some (.int .i64 mt) ∧ w.cell? ⟨g, p, none⟩ = some (.int .i64 m.ad) ∧ w.cell? ⟨B, 2, none⟩ = some v := ⟨⟨h, h', hB⟩, h.1, h.2, h'.1, hB.2.2⟩
set_option maxRecDepth 100000 in
set_option maxHeartbeats 4000000 in
theorem implOK (will valid : Int) (a : Option Addr) (ms : List R) (cap : Nat) (w : World) (hm : ms.length ≤ 1048576) (hr : RM w a ms) :
    Calls Tryz.prog 109 #[.agg #[.int .i64 will, .int .i64 valid, .slice a ms.length cap]] w fun e w' => e = .returned (.bool (tcB will valid ms)) ∧ Below w.heap.size w w' := by
  cases h1 : inB will 0 65535
  · have HF := hide (show tcB will valid ms = false by unfold tcB; rw [h1]; rfl)
    go_enter Tryz.func109, Tryz.ntmps109
    go_wp2_with (go_at_call 103; refine (isSeq _ _).mono ?_; rintro e w' ⟨rfl, rfl⟩)
    go_ret
    exact ⟨ret_bool (unhide HF).symm, (Below.refl _ _).alloc (Nat.le_refl _) _⟩
  cases h2 : Tim.valB valid
  · have HF := hide (show tcB will valid ms = false by unfold tcB; rw [h1, h2]; rfl)
    go_enter Tryz.func109, Tryz.ntmps109
    go_wp2_with (go_at_call 103; refine (isSeq _ _).mono ?_; rintro e w' ⟨rfl, rfl⟩)
    refine (Tim.isValid valid _).mono ?_
    rintro e w1 ⟨rfl, b1⟩
    have HB1 : Hid (Below w.heap.size w w1) := hide (((Below.refl _ _).alloc (Nat.le_refl _) _).trans (b1.mono (by simp)))
    clear b1
    go_wp2_with fail
    go_ret
    exact ⟨ret_bool (unhide HF).symm, unhide HB1⟩
  have HT : Hid (allN ms ms.length = true → tcB will valid ms = true) := hide (fun h => by unfold tcB; rw [h1, h2, h]; rfl)
  have HF : Hid (allN ms ms.length = false → tcB will valid ms = false) := hide (fun h => by unfold tcB; rw [h1, h2, h]; rfl)
  have HR := hide hr
  clear hr
  generalize hN : ms.length = n at *
  have HN := hide hN
  clear hN
  go_enter Tryz.func109, Tryz.ntmps109
  go_wp2_with (go_at_call 103; refine (isSeq _ _).mono ?_; rintro e w' ⟨rfl, rfl⟩)
  refine (Tim.isValid valid _).mono ?_
  rintro e w1 ⟨rfl, b1⟩
  have HB1 : Hid (Below w.heap.size w w1) := hide (((Below.refl _ _).alloc (Nat.le_refl _) _).trans (b1.mono (by simp)))
  have HX1 := hide ((bx3_new w will valid (.slice a n cap) 148).below b1)
  have hbx := (unhide HX1).2.2
  have HR1 := hide ((unhide HR).below (unhide HB1))
  clear b1 HR
  go_wp2
  clear hbx
  go_loopw [18] (fun i wr => ∃ j : Nat, j ≤ n ∧ i = .int .i64 j ∧ Hid (allN ms j = true) ∧ Hid (Below w1.heap.size w1 wr)) (fun i _ => n - (intOf i).toNat)
  case atStart => exact ⟨0, by omega, rfl, hide Ri.all_zero, hide (Below.refl _ _)⟩
  case round =>
    obtain ⟨j, hj, rfl, hrl, hbl⟩ := hrel
    by_cases hlt : (j : Int) < (n : Int)
    · have k0 : (0 : Int) ≤ (j : Int) := by omega
      have hlen : j < ms.length := by rw [unhide HN]; omega
      have HX := hide ((unhide HX1).below (unhide hbl))
      rcases (unhide HR1).below (by exact (unhide hbl)) with e0 | ⟨g, off, rfl, hc⟩
      · exfalso; rw [e0] at hlen; simp at hlen
      have HL := hide hlen
      have hA := hc j hlen
      have hsz := (unhide hbl).size
      have HBX := hide (bx_new wr (ms.getD j R.zero) 130)
      have HBL := hide ((unhide hbl).alloc hsz (.cells #[.int .i64 (ms.getD j R.zero).ad, .int .i64 (ms.getD j R.zero).mt] 130))
      have HXA := hide ((unhide HX).below ((Below.refl _ _).alloc (Nat.le_refl _) (.cells #[.int .i64 (ms.getD j R.zero).ad, .int .i64 (ms.getD j R.zero).mt] 130)))
      clear HX
      cases hk : okN (ms.getD j R.zero)
      · clear hc
        have HST := hide (unhide HF (by have := Ri.all_no hlen (Ri.step_bad (key := R.ad) hk); exact (unhide HN) ▸ this))
        have HK := hide hk
        clear hk
        generalize ms.getD j R.zero = m at *
        obtain ⟨ad, mt⟩ := m
        obtain ⟨c0, c1⟩ := hA
        dsimp only at c0 c1
        go_wp2_with fail
        generalize hW : wr.alloc (.cells #[.int .i64 ad, .int .i64 mt] 130) = W0 at *
        clear hW
        refine wp_region_noPanic ?_
        refine wp_region_held_drew (S := fun w' => Bx w' wr.heap.size ⟨ad, mt⟩ ∧ w'.cell? ⟨wr.heap.size, 0, none⟩ = some (.int .i64 ad) ∧ w'.cell? ⟨wr.heap.size, 1, none⟩ = some (.int .i64 mt)) (by kernel_rfl) (sBox (unhide HBX).drew) (fun hHeld => ?_)
        refine Rg.t 0 23 ?_
        (refine Rg.o 1 (fun K hK => ?_); go_simp)
        refine (isEdge ad mt _).mono ?_
        rintro e w2 ⟨rfl, b2⟩
        rw [unhide HK]
        refine hK.out _ _ (sBox ((unhide HBX).drew.below b2)) (fun hHeld => ?_)
        clear hK K
        (try simp only [Act.put, List.setIfInBounds_toArray, List.set_cons_zero, List.set_cons_succ])
        refine Rg.t 2 25 ?_
        refine Rg.t 3 26 ?_
        refine Rg.s 4 27 ?_
        refine Rg.s 5 28 ?_
        refine Rg.s 6 29 ?_
        refine Rg.s 7 30 ?_
        refine Rg.s 8 31 ?_
        refine Rg.s 9 32 ?_
        refine Rg.s 10 33 ?_
        refine Rg.s 11 34 ?_
        refine Rg.s 12 35 ?_
        refine Rg.s 13 36 ?_
        refine Rg.s 14 37 ?_
        refine Rg.s 15 38 ?_
        refine Rg.s 16 39 ?_
        refine Rg.s 17 40 ?_
        refine Rg.t 18 41 ?_
        refine wpAnyH_done (by kernel_rfl) (NoPanic.normal ?_) _
        have hb1 := hide ((unhide HB1).trans (((unhide HBL).drew.trans (b2.mono (by show w1.heap.size ≤ W0.heap.size; exact (unhide HBL).size))).mono (unhide HB1).size))
        go_wp2_with fail
        go_ret
        exact ⟨ret_bool (unhide HST).symm, unhide hb1⟩
      have HK := hide hk
      clear hk
      by_cases hj0 : j = 0
      · subst hj0
        clear hc
        rw [Nat.zero_mul, Nat.add_zero] at hA
        have HST := hide (Ri.all_succ (unhide hrl) (Ri.step_zero (key := R.ad) (unhide HK)))
        generalize ms.getD 0 R.zero = m at *
        obtain ⟨ad, mt⟩ := m
        obtain ⟨c0, c1⟩ := hA
        dsimp only at c0 c1
        go_wp2_with fail
        generalize hW : wr.alloc (.cells #[.int .i64 ad, .int .i64 mt] 130) = W0 at *
        clear hW
        refine wp_region_noPanic ?_
        refine wp_region_held_drew (S := fun w' => Bx w' wr.heap.size ⟨ad, mt⟩ ∧ w'.cell? ⟨wr.heap.size, 0, none⟩ = some (.int .i64 ad) ∧ w'.cell? ⟨wr.heap.size, 1, none⟩ = some (.int .i64 mt)) (by kernel_rfl) (sBox (unhide HBX).drew) (fun hHeld => ?_)
        refine Rg.t 0 23 ?_
        (refine Rg.o 1 (fun K hK => ?_); go_simp)
        refine (isEdge ad mt _).mono ?_
        rintro e w2 ⟨rfl, b2⟩
        rw [unhide HK]
        refine hK.out _ _ (sBox ((unhide HBX).drew.below b2)) (fun hHeld => ?_)
        clear hK K
        (try simp only [Act.put, List.setIfInBounds_toArray, List.set_cons_zero, List.set_cons_succ])
        refine Rg.t 2 25 ?_
        refine Rg.t 3 26 ?_
        refine Rg.t 4 27 ?_
        refine Rg.t 5 28 ?_
        refine Rg.t 6 29 ?_
        refine Rg.s 7 30 ?_
        refine Rg.s 8 31 ?_
        refine Rg.s 9 32 ?_
        refine Rg.s 10 33 ?_
        refine Rg.s 11 34 ?_
        refine Rg.s 12 35 ?_
        refine Rg.s 13 36 ?_
        refine Rg.s 14 37 ?_
        refine Rg.s 15 38 ?_
        refine Rg.s 16 39 ?_
        refine Rg.t 17 40 ?_
        refine Rg.t 18 41 ?_
        refine wpAnyH_done (by kernel_rfl) (NoPanic.normal ?_) _
        have hb1 := hide ((unhide HBL).drew.trans (b2.mono (by show w1.heap.size ≤ W0.heap.size; exact (unhide HBL).size)))
        go_wp2_with fail
        go_roundw
        case rel => exact ⟨0 + 1, by omega, by go_num, HST, hb1⟩
        case measure => simp [intOf]; omega
      · obtain ⟨i, hji⟩ : ∃ i, j = i + 1 := ⟨j - 1, by omega⟩
        have HJ := hide hji
        have e1 : (j : Int) - 1 = (i : Int) := by omega
        have i0 : (0 : Int) ≤ (i : Int) := by omega
        have wi : IntKind.i64.wrap (i : Int) = (i : Int) := by rw [IntKind.wrap_i64]; omega
        have i1 : (i : Int) < (n : Int) := by omega
        have j1 : (0 : Int) < (j : Int) := by omega
        have j2 : 0 < j := by omega
        have hP := hide ((hc i (by omega)).below ((Below.refl _ _).alloc (Nat.le_refl _) (.cells #[.int .i64 (ms.getD j R.zero).ad, .int .i64 (ms.getD j R.zero).mt] 130)))
        have EJ : ms.getD j R.zero = ms.getD (i + 1) R.zero := by rw [hji]
        clear hc hji
        by_cases hk : (ms.getD i R.zero).ad < (ms.getD j R.zero).ad
        · have HST : Hid (allN ms (j + 1) = true) := hide (Ri.all_succ (unhide hrl) (by rw [unhide HJ]; exact Ri.step_lt (by rw [← EJ]; exact unhide HK) (by rw [← EJ]; exact hk)))
          clear EJ
          generalize ms.getD j R.zero = m at *
          generalize ms.getD i R.zero = m0 at *
          obtain ⟨ad, mt⟩ := m
          obtain ⟨ad0, mt0⟩ := m0
          dsimp only at hk
          obtain ⟨c0, c1⟩ := hA
          dsimp only at c0 c1
          go_wp2_with fail
          generalize hW : wr.alloc (.cells #[.int .i64 ad, .int .i64 mt] 130) = W0 at *
          clear hW
          refine wp_region_noPanic ?_
          refine wp_region_held_drew (S := fun w' => (Bx w' wr.heap.size ⟨ad, mt⟩ ∧ At w' g (off + i * 2) ⟨ad0, mt0⟩ ∧ Bx3 w' w.heap.size will valid (.slice (some ⟨g, off, none⟩) n cap)) ∧ w'.cell? ⟨wr.heap.size, 0, none⟩ = some (.int .i64 ad) ∧ w'.cell? ⟨wr.heap.size, 1, none⟩ = some (.int .i64 mt) ∧ w'.cell? ⟨g, off + i * 2, none⟩ = some (.int .i64 ad0) ∧ w'.cell? ⟨w.heap.size, 2, none⟩ = some (.slice (some ⟨g, off, none⟩) n cap)) (by kernel_rfl) (sBox2 (unhide HBX).drew (unhide hP).drew (unhide HXA).drew) (fun hHeld => ?_)
          refine Rg.t 0 23 ?_
          (refine Rg.o 1 (fun K hK => ?_); go_simp)
          refine (isEdge ad mt _).mono ?_
          rintro e w2 ⟨rfl, b2⟩
          rw [unhide HK]
          refine hK.out _ _ (sBox2 ((unhide HBX).drew.below b2) ((unhide hP).drew.below b2) ((unhide HXA).drew.below b2)) (fun hHeld => ?_)
          clear hK K
          (try simp only [Act.put, List.setIfInBounds_toArray, List.set_cons_zero, List.set_cons_succ])
          refine Rg.t 2 25 ?_
          refine Rg.t 3 26 ?_
          refine Rg.t 4 27 ?_
          refine Rg.t 5 28 ?_
          refine Rg.t 6 29 ?_
          refine Rg.t 7 30 ?_
          refine Rg.t 8 31 ?_
          refine Rg.t 9 32 ?_
          refine Rg.t 10 33 ?_
          refine Rg.t 11 34 ?_
          refine Rg.t 12 35 ?_
          refine Rg.t 13 36 ?_
          refine Rg.t 14 37 ?_
          refine Rg.t 15 38 ?_
          refine Rg.t 16 39 ?_
          refine Rg.t 17 40 ?_
          refine Rg.t 18 41 ?_
          refine wpAnyH_done (by kernel_rfl) (NoPanic.normal ?_) _
          have hb1 := hide ((unhide HBL).drew.trans (b2.mono (by show w1.heap.size ≤ W0.heap.size; exact (unhide HBL).size)))
          go_wp2_with fail
          go_roundw
          case rel => exact ⟨j + 1, by omega, by go_num, HST, hb1⟩
          case measure => simp [intOf]; omega
        · have HST : Hid (tcB will valid ms = false) := hide (unhide HF (by have := Ri.all_no (unhide HL) (show Ri.step R.zero okN R.ad ms j = false by rw [unhide HJ]; exact Ri.step_ge (by rw [← EJ]; omega)); exact (unhide HN) ▸ this))
          clear EJ
          generalize ms.getD j R.zero = m at *
          generalize ms.getD i R.zero = m0 at *
          obtain ⟨ad, mt⟩ := m
          obtain ⟨ad0, mt0⟩ := m0
          dsimp only at hk
          obtain ⟨c0, c1⟩ := hA
          dsimp only at c0 c1
          go_wp2_with fail
          generalize hW : wr.alloc (.cells #[.int .i64 ad, .int .i64 mt] 130) = W0 at *
          clear hW
          refine wp_region_noPanic ?_
          refine wp_region_held_drew (S := fun w' => (Bx w' wr.heap.size ⟨ad, mt⟩ ∧ At w' g (off + i * 2) ⟨ad0, mt0⟩ ∧ Bx3 w' w.heap.size will valid (.slice (some ⟨g, off, none⟩) n cap)) ∧ w'.cell? ⟨wr.heap.size, 0, none⟩ = some (.int .i64 ad) ∧ w'.cell? ⟨wr.heap.size, 1, none⟩ = some (.int .i64 mt) ∧ w'.cell? ⟨g, off + i * 2, none⟩ = some (.int .i64 ad0) ∧ w'.cell? ⟨w.heap.size, 2, none⟩ = some (.slice (some ⟨g, off, none⟩) n cap)) (by kernel_rfl) (sBox2 (unhide HBX).drew (unhide hP).drew (unhide HXA).drew) (fun hHeld => ?_)
          refine Rg.t 0 23 ?_
          (refine Rg.o 1 (fun K hK => ?_); go_simp)
          refine (isEdge ad mt _).mono ?_
          rintro e w2 ⟨rfl, b2⟩
          rw [unhide HK]
          refine hK.out _ _ (sBox2 ((unhide HBX).drew.below b2) ((unhide hP).drew.below b2) ((unhide HXA).drew.below b2)) (fun hHeld => ?_)
          clear hK K
          (try simp only [Act.put, List.setIfInBounds_toArray, List.set_cons_zero, List.set_cons_succ])
          refine Rg.t 2 25 ?_
          refine Rg.t 3 26 ?_
          refine Rg.t 4 27 ?_
          refine Rg.t 5 28 ?_
          refine Rg.t 6 29 ?_
          refine Rg.t 7 30 ?_
          refine Rg.t 8 31 ?_
          refine Rg.t 9 32 ?_
          refine Rg.t 10 33 ?_
          refine Rg.t 11 34 ?_
          refine Rg.t 12 35 ?_
          refine Rg.t 13 36 ?_
          refine Rg.t 14 37 ?_
          refine Rg.t 15 38 ?_
          refine Rg.t 16 39 ?_
          refine Rg.t 17 40 ?_
          refine Rg.t 18 41 ?_
          refine wpAnyH_done (by kernel_rfl) (NoPanic.normal ?_) _
          have hb1 := hide ((unhide HB1).trans (((unhide HBL).drew.trans (b2.mono (by show w1.heap.size ≤ W0.heap.size; exact (unhide HBL).size))).mono (unhide HB1).size))
          go_wp2_with fail
          go_ret
          exact ⟨ret_bool (unhide HST).symm, unhide hb1⟩
    · obtain rfl : j = n := by omega
      go_wp2
      go_ret
      exact ⟨ret_bool (unhide HT (unhide hrl)).symm, (unhide HB1).trans ((unhide hbl).mono (unhide HB1).size)⟩
set_option maxRecDepth 100000 in
set_option maxHeartbeats 4000000 in
theorem l05Edges (a : Option Addr) (ms : List R) (cap : Nat) (w : World) (hm : ms.length ≤ 1048576) (hr : RM w a ms) :
    Calls Tryz.prog 69 #[.slice a ms.length cap] w fun e w' => e = .returned (.bool (allN ms ms.length)) ∧ ∃ q, w' = w.drewN q := by
  have HT : Hid (allN ms ms.length = true → ms.length ≤ 8) := hide all_len
  have HR := hide hr
  clear hr
  obtain ⟨A, hA⟩ : ∃ A, allN ms ms.length = A := ⟨_, rfl⟩
  have HA := hide hA
  rw [hA]
  clear hA
  generalize hN : ms.length = n at *
  have HN := hide hN
  clear hN
  go_enter Tryz.func69, Tryz.ntmps69
  go_wp2_with fail
  go_loopw [3] (fun i wr => ∃ j : Nat, j ≤ n ∧ i = .int .i64 j ∧ Hid (allN ms j = true) ∧ Hid (∃ q, wr = w.drewN q)) (fun i _ => n - (intOf i).toNat)
  case atStart => exact ⟨0, by omega, rfl, hide Ri.all_zero, hide ⟨0, rfl⟩⟩
  case round =>
    obtain ⟨j, hj, rfl, hrl, hq⟩ := hrel
    have HRr : Hid (RM wr a ms) := hide (by obtain ⟨q, e⟩ := unhide hq; rw [e]; exact unhide HR)
    have HD : Hid (∀ m, ∃ q, wr.drewN m = w.drewN q) := hide (fun m => by obtain ⟨q, e⟩ := unhide hq; exact ⟨_, by rw [e, World.drewN_drewN]⟩)
    by_cases hlt : (j : Int) < (n : Int)
    · have k0 : (0 : Int) ≤ (j : Int) := by omega
      have hlen : j < ms.length := by rw [unhide HN]; omega
      rcases unhide HRr with e0 | ⟨g, off, rfl, hc⟩
      · exfalso; rw [e0] at hlen; simp at hlen
      have HL := hide hlen
      have hA := hc j hlen
      cases hk : okN (ms.getD j R.zero)
      · clear hc
        have HST : Hid (A = false) := hide (by rw [← unhide HA, ← unhide HN]; exact Ri.all_no hlen (Ri.step_bad (key := R.ad) hk))
        generalize ms.getD j R.zero = m at *
        obtain ⟨ad, mt⟩ := m
        obtain ⟨c0, c1⟩ := hA
        dsimp only at c0 c1
        have hk' : (inB ad 1 8 && (inB mt 1 16744192 && exM mt)) = false := hk
        clear hk
        cases h1 : inB ad 1 8
        rotate_left
        cases h2 : inB mt 1 16744192
        rotate_left
        have hmt : 1 ≤ mt ∧ mt ≤ 16744192 := by simpa [inB] using h2
        have h3 : exM mt = false := by rw [h1, h2] at hk'; simpa using hk'
        all_goals
          clear hk'
          go_wp2_with fail
          go_quiet ((first | (go_at_call 64; exact Calls.quiet_of_same (l01Addr _ _)) | (go_at_call 36; exact Calls.quiet_of_same (l01In _ _ _ _)) | (go_at_call 72; exact Calls.quiet_of_same (l04Ex mt (by omega) (by omega) _))))
          go_wp2_with fail
          go_ret
          exact ⟨ret_bool (unhide HST).symm, unhide HD _⟩
      have hk' : (inB (ms.getD j R.zero).ad 1 8 && (inB (ms.getD j R.zero).mt 1 16744192 && exM (ms.getD j R.zero).mt)) = true := hk
      simp only [Bool.and_eq_true] at hk'
      obtain ⟨h1, h2, h3⟩ := hk'
      have hmt : 1 ≤ (ms.getD j R.zero).mt ∧ (ms.getD j R.zero).mt ≤ 16744192 := by simpa [inB] using h2
      have HO := hide hk
      clear hk
      by_cases hj0 : j = 0
      · subst hj0
        clear hc
        rw [Nat.zero_mul, Nat.add_zero] at hA
        have HST := hide (Ri.all_succ (unhide hrl) (Ri.step_zero (key := R.ad) (unhide HO)))
        generalize ms.getD 0 R.zero = m at *
        obtain ⟨ad, mt⟩ := m
        obtain ⟨c0, c1⟩ := hA
        dsimp only at c0 c1 h1 h2 h3 hmt
        go_wp2_with fail
        go_quiet ((first | (go_at_call 64; exact Calls.quiet_of_same (l01Addr _ _)) | (go_at_call 36; exact Calls.quiet_of_same (l01In _ _ _ _)) | (go_at_call 72; exact Calls.quiet_of_same (l04Ex mt (by omega) (by omega) _))))
        go_wp2_with fail
        go_roundw
        case rel => exact ⟨0 + 1, by omega, by go_num, HST, hide (unhide HD _)⟩
        case measure => simp [intOf]; omega
      · obtain ⟨i, hji⟩ : ∃ i, j = i + 1 := ⟨j - 1, by omega⟩
        have HJ := hide hji
        have e1 : (j : Int) - 1 = (i : Int) := by omega
        have i0 : (0 : Int) ≤ (i : Int) := by omega
        have wi : IntKind.i64.wrap (i : Int) = (i : Int) := by rw [IntKind.wrap_i64]; omega
        have i1 : (i : Int) < (n : Int) := by omega
        have j1 : (0 : Int) < (j : Int) := by omega
        have j2 : 0 < j := by omega
        have hP := hc i (by omega)
        have EJ : ms.getD j R.zero = ms.getD (i + 1) R.zero := by rw [hji]
        clear hc hji
        by_cases hk : (ms.getD i R.zero).ad < (ms.getD j R.zero).ad
        · have HST : Hid (allN ms (j + 1) = true) := hide (Ri.all_succ (unhide hrl) (by rw [unhide HJ]; exact Ri.step_lt (by rw [← EJ]; exact unhide HO) (by rw [← EJ]; exact hk)))
          clear EJ
          generalize ms.getD j R.zero = m at *
          generalize ms.getD i R.zero = m0 at *
          obtain ⟨ad, mt⟩ := m
          obtain ⟨ad0, mt0⟩ := m0
          obtain ⟨c0, c1⟩ := hA
          obtain ⟨d0, d1⟩ := hP
          dsimp only at hk c0 c1 d0 d1 h1 h2 h3 hmt
          go_wp2_with fail
          go_quiet ((first | (go_at_call 64; exact Calls.quiet_of_same (l01Addr _ _)) | (go_at_call 36; exact Calls.quiet_of_same (l01In _ _ _ _)) | (go_at_call 72; exact Calls.quiet_of_same (l04Ex mt (by omega) (by omega) _))))
          go_wp2_with fail
          go_roundw
          case rel => exact ⟨j + 1, by omega, by go_num, HST, hide (unhide HD _)⟩
          case measure => simp [intOf]; omega
        · have HST : Hid (A = false) := hide (by rw [← unhide HA, ← unhide HN]; exact Ri.all_no (unhide HL) (show Ri.step R.zero okN R.ad ms j = false by rw [unhide HJ]; exact Ri.step_ge (by rw [← EJ]; omega)))
          clear EJ
          generalize ms.getD j R.zero = m at *
          generalize ms.getD i R.zero = m0 at *
          obtain ⟨ad, mt⟩ := m
          obtain ⟨ad0, mt0⟩ := m0
          obtain ⟨c0, c1⟩ := hA
          obtain ⟨d0, d1⟩ := hP
          dsimp only at hk c0 c1 d0 d1 h1 h2 h3 hmt
          go_wp2_with fail
          go_quiet ((first | (go_at_call 64; exact Calls.quiet_of_same (l01Addr _ _)) | (go_at_call 36; exact Calls.quiet_of_same (l01In _ _ _ _)) | (go_at_call 72; exact Calls.quiet_of_same (l04Ex mt (by omega) (by omega) _))))
          go_wp2_with fail
          go_ret
          exact ⟨ret_bool (unhide HST).symm, unhide HD _⟩
    · obtain rfl : j = n := by omega
      have ht : A = true := by rw [← unhide HA, ← unhide hrl]
      have h8 := unhide HT (unhide hrl)
      have h8' : (j : Int) ≤ 8 := by omega
      have HST := hide ht
      clear ht
      go_wp2
      go_ret
      exact ⟨ret_bool (unhide HST).symm, unhide hq⟩
end Av
end Go.Proofs.YthfcigfgpimimaaGreat
namespace Go.Proofs.YthfcigfgpimimaaGreat
open Go.ChangeShapes Go.WideShapes Go.ChangeAt Go.RowKit
set_option linter.unusedVariables false
set_option linter.unusedSimpArgs false
set_option maxRecDepth 100000
attribute [local go_sem ↓] Go.wp_at_zero Go.wp_at_succ
namespace Rt
open W1
/-- Whether what a router keeps of a link can be advertised. -/
def outB (co sy : Int) : Bool := if (co == 0) = true then sy == 0 else Av.toldB co
def lkB (me : Int) (x : Lk.R) : Bool := !(x.ad == me) && outB x.co x.sy
def twB (me : Int) (m : Tu.R) : Bool := !(Tw.hv m == me) && !(Tw.ha m == me)
def lksB (me : Int) (ls : List Lk.R) : Bool := Ln.linksB ls && ls.all (lkB me)
def twoOf (me : Int) (tw : List Tu.R) : Bool := Tw.twoB tw && tw.all (twB me)
def rtrB (x1 x2 x3 x4 x5 x6 : Int) (ls : List Lk.R) (tw se du : List Tu.R) (ss : List So.R) (es : List Tu.R) (la : List Ed.R) : Bool :=
  inB x1 1 8 && (inB x2 0 7 && (inB x3 0 65535 && (inB x4 0 65535 && (inB x5 0 100000 && (inB x6 0 1000000 && (lksB x1 ls && (twoOf x1 tw && (St.setB se && (St.setB du && (Tp.topB ss es && (!(Tp.hasS ss x1) && Av.allN la la.length)))))))))))
theorem all_no {α : Type} {p : α → Bool} {z : α} {ms : List α} {j : Nat} (h : j < ms.length) (hp : p (ms.getD j z) = false) : ms.all p = false := by
  rw [List.all_eq_false]
  refine ⟨ms.getD j z, ?_, by rw [hp]; simp⟩
  rw [List.getD_eq_getElem?_getD, List.getElem?_eq_getElem h]; exact List.getElem_mem h
theorem all_step {α : Type} {p : α → Bool} {z : α} {ms : List α} {j : Nat} (h : j < ms.length) (ha : (ms.take j).all p = true) (hp : p (ms.getD j z) = true) : (ms.take (j + 1)).all p = true := by
  rw [List.take_add_one, List.getElem?_eq_getElem h, List.all_append, ha]
  rw [List.getD_eq_getElem?_getD, List.getElem?_eq_getElem h] at hp
  simpa using hp
set_option maxHeartbeats 2000000 in
theorem isOutOf (ad hd sy ci co wl : Int) (w : World) :
    Calls Tryz.prog 120 #[.agg #[.int .i64 ad, .int .i64 hd, .int .i64 sy, .int .i64 ci, .int .i64 co, .int .i64 wl]] w fun e w' => e = .returned (.bool (outB co sy)) ∧ Below w.heap.size w w' := by
  have E : Hid (outB co sy = if (co == 0) = true then sy == 0 else Av.toldB co) := hide rfl
  cases h1 : (co == 0)
  · go_enter Tryz.func120, Tryz.ntmps120
    go_wp2_with (go_at_call 131; refine (Av.isTold _ _).mono ?_; rintro e w' ⟨rfl, rfl⟩)
    go_ret
    exact ⟨ret_bool (by rw [unhide E, h1]; simp), (Below.refl _ _).alloc (Nat.le_refl _) _⟩
  · go_enter Tryz.func120, Tryz.ntmps120
    go_wp2_with fail
    go_ret
    exact ⟨ret_bool (by rw [unhide E, h1]; simp), (Below.refl _ _).alloc (Nat.le_refl _) _⟩
set_option maxHeartbeats 4000000 in
theorem areLinksOf (me : Int) (a : Option Addr) (ls : List Lk.R) (cap : Nat) (w : World) (hm : ls.length ≤ 1048576) (hr : Lk.RM w a ls) :
    Calls Tryz.prog 104 #[.int .i64 me, .slice a ls.length cap] w fun e w' => e = .returned (.bool (lksB me ls)) ∧ Below w.heap.size w w' := by
  have HR := hide hr
  clear hr
  have E : Hid (lksB me ls = (Ln.linksB ls && ls.all (lkB me))) := hide rfl
  have KL := hide (fun W => Ln.implOK a ls cap W hm)
  cases hl : Ln.linksB ls
  · have hv : lksB me ls = false := by rw [unhide E, hl]; rfl
    rw [hv]
    rw [hl] at KL
    clear hv hl
    go_enter Tryz.func104, Tryz.ntmps104
    go_wp2_with fail
    refine (unhide KL _ (unhide HR)).mono ?_
    rintro e w1 ⟨rfl, b1⟩
    have HB1 := hide b1
    clear b1
    go_wp2_with fail
    go_ret
    exact ⟨rfl, unhide HB1⟩
  have h8 := Ln.links_len hl
  have HE : Hid (lksB me ls = ls.all (lkB me)) := hide (by rw [unhide E, hl]; rfl)
  rw [hl] at KL
  clear hl E
  obtain ⟨A, hA⟩ : ∃ A, lksB me ls = A := ⟨_, rfl⟩
  rw [hA] at HE ⊢
  clear hA
  generalize hN : ls.length = n at *
  have HN := hide hN
  clear hN
  go_enter Tryz.func104, Tryz.ntmps104
  go_wp2_with fail
  refine (unhide KL _ (unhide HR)).mono ?_
  rintro e w1 ⟨rfl, b1⟩
  have HB1 := hide b1
  clear b1
  go_wp2_with fail
  go_loopw [12] (fun i wr => ∃ j : Nat, j ≤ n ∧ i = .int .i64 j ∧ Hid ((ls.take j).all (lkB me) = true) ∧ Hid (Below w.heap.size w wr)) (fun i _ => n - (intOf i).toNat)
  case atStart => exact ⟨0, by omega, rfl, hide rfl, HB1⟩
  case round =>
    obtain ⟨j, hj, rfl, hal, hbl⟩ := hrel
    have hbs := (unhide hbl).size
    by_cases hlt : (j : Int) < (n : Int)
    · have k0 : (0 : Int) ≤ (j : Int) := by omega
      have hlen : j < ls.length := by rw [unhide HN]; omega
      obtain ⟨g, off, rfl⟩ := (unhide HR).form (by omega)
      have hA := ((unhide HR).below (unhide hbl)).at hlen
      have HY : Hid (lkB me (ls.getD j Lk.R.zero) = true → (ls.take (j + 1)).all (lkB me) = true) := hide (fun h => all_step hlen (unhide hal) h)
      have HZ : Hid (lkB me (ls.getD j Lk.R.zero) = false → A = false) := hide (fun h => by rw [unhide HE]; exact all_no hlen h)
      generalize ls.getD j Lk.R.zero = m at *
      obtain ⟨ad, hd, sy, ci, co, wl⟩ := m
      obtain ⟨c0, c1, c2, c3, c4, c5⟩ := hA
      dsimp only at c0 c1 c2 c3 c4 c5
      have EK : Hid (lkB me ⟨ad, hd, sy, ci, co, wl⟩ = (!(ad == me) && outB co sy)) := hide rfl
      have HB2 := hide ((unhide hbl).alloc hbs (.cells #[.int .i64 ad, .int .i64 hd, .int .i64 sy, .int .i64 ci, .int .i64 co, .int .i64 wl] 103))
      cases q1 : (ad == me)
      · have KO := hide (isOutOf ad hd sy ci co wl)
        cases q2 : outB co sy
        · have hf := unhide HZ (by rw [unhide EK, q1, q2]; rfl)
          rw [q2] at KO
          clear q2 HY HZ EK
          go_wp2_with fail
          generalize hWW : wr.alloc (.cells #[.int .i64 ad, .int .i64 hd, .int .i64 sy, .int .i64 ci, .int .i64 co, .int .i64 wl] 103) = WW at *
          clear hWW c0 c1 c2 c3 c4 c5
          refine (unhide KO _).mono ?_
          rintro e w3 ⟨rfl, b3⟩
          have HB3 := hide ((unhide HB2).trans (b3.mono (unhide HB2).size))
          clear b3
          go_wp2_with fail
          go_ret
          exact ⟨ret_bool hf.symm, unhide HB3⟩
        · have hy := hide (unhide HY (by rw [unhide EK, q1, q2]; rfl))
          rw [q2] at KO
          clear q2 HY HZ EK
          go_wp2_with fail
          generalize hWW : wr.alloc (.cells #[.int .i64 ad, .int .i64 hd, .int .i64 sy, .int .i64 ci, .int .i64 co, .int .i64 wl] 103) = WW at *
          clear hWW c0 c1 c2 c3 c4 c5
          refine (unhide KO _).mono ?_
          rintro e w3 ⟨rfl, b3⟩
          have HB3 := hide ((unhide HB2).trans (b3.mono (unhide HB2).size))
          clear b3
          go_wp2_with fail
          go_roundw
          case rel => exact ⟨j + 1, by omega, by go_num, hy, HB3⟩
          case measure => simp [intOf]; omega
      · have hf := unhide HZ (by rw [unhide EK, q1]; rfl)
        clear HY HZ EK
        go_wp2_with fail
        go_ret
        exact ⟨ret_bool hf.symm, unhide HB2⟩
    · obtain rfl : j = n := by omega
      have e : ls.take j = ls := List.take_of_length_le (by rw [unhide HN]; exact Nat.le_refl _)
      have ht : A = true := by rw [unhide HE, ← e]; exact unhide hal
      have HT := hide ht
      clear e ht
      go_wp2_with fail
      go_ret
      exact ⟨ret_bool (unhide HT).symm, unhide hbl⟩
set_option maxHeartbeats 4000000 in
theorem areTwoOf (me : Int) (a : Option Addr) (tw : List Tu.R) (cap : Nat) (w : World) (hm : tw.length ≤ 1048576) (hr : Tu.RM w a tw) :
    Calls Tryz.prog 105 #[.int .i64 me, .slice a tw.length cap] w fun e w' => e = .returned (.bool (twoOf me tw)) ∧ Below w.heap.size w w' := by
  have HR := hide hr
  clear hr
  have E : Hid (twoOf me tw = (Tw.twoB tw && tw.all (twB me))) := hide rfl
  have KL := hide (fun W => Tw.areHops a tw cap W hm)
  cases hl : Tw.twoB tw
  · have hv : twoOf me tw = false := by rw [unhide E, hl]; rfl
    rw [hv]
    rw [hl] at KL
    clear hv hl
    go_enter Tryz.func105, Tryz.ntmps105
    go_wp2_with fail
    refine (unhide KL _ (unhide HR)).mono ?_
    rintro e w1 ⟨rfl, b1⟩
    have HB1 := hide b1
    clear b1
    go_wp2_with fail
    go_ret
    exact ⟨rfl, unhide HB1⟩
  have h62 := Tw.two_len hl
  have HTW := hide hl
  have HE : Hid (twoOf me tw = tw.all (twB me)) := hide (by rw [unhide E, hl]; rfl)
  rw [hl] at KL
  clear hl E
  obtain ⟨A, hA⟩ : ∃ A, twoOf me tw = A := ⟨_, rfl⟩
  rw [hA] at HE ⊢
  clear hA
  generalize hN : tw.length = n at *
  have HN := hide hN
  clear hN
  go_enter Tryz.func105, Tryz.ntmps105
  go_wp2_with fail
  refine (unhide KL _ (unhide HR)).mono ?_
  rintro e w1 ⟨rfl, b1⟩
  have HB1 := hide b1
  clear b1
  go_wp2_with fail
  go_loopw [13] (fun i wr => ∃ j : Nat, j ≤ n ∧ i = .int .i64 j ∧ Hid ((tw.take j).all (twB me) = true) ∧ Hid (Below w.heap.size w wr)) (fun i _ => n - (intOf i).toNat)
  case atStart => exact ⟨0, by omega, rfl, hide rfl, HB1⟩
  case round =>
    obtain ⟨j, hj, rfl, hal, hbl⟩ := hrel
    have hbs := (unhide hbl).size
    by_cases hlt : (j : Int) < (n : Int)
    · have k0 : (0 : Int) ≤ (j : Int) := by omega
      have hlen : j < tw.length := by rw [unhide HN]; omega
      obtain ⟨g, off, rfl⟩ := (unhide HR).form (by omega)
      have hA := ((unhide HR).below (unhide hbl)).at hlen
      have HY : Hid (twB me (tw.getD j Tu.R.zero) = true → (tw.take (j + 1)).all (twB me) = true) := hide (fun h => all_step hlen (unhide hal) h)
      have HZ : Hid (twB me (tw.getD j Tu.R.zero) = false → A = false) := hide (fun h => by rw [unhide HE]; exact all_no hlen h)
      have hbd := St.ok_bounds (St.setB_ok (Tw.two_set (unhide HTW)) hlen)
      generalize tw.getD j Tu.R.zero = m at *
      obtain ⟨key, til, val⟩ := m
      obtain ⟨c0, c1, c2⟩ := hA
      dsimp only at c0 c1 c2 hbd
      have EK : Hid (twB me ⟨key, til, val⟩ = (!(key.tdiv 100 == me) && !(key.tmod 100 == me))) := hide rfl
      have KH := hide (fun W => Tw.hopOfKey key W (by omega) (by omega))
      obtain ⟨kd, hkd⟩ : ∃ kd, key.tdiv 100 = kd := ⟨_, rfl⟩
      obtain ⟨km, hkm⟩ : ∃ km, key.tmod 100 = km := ⟨_, rfl⟩
      rw [hkd, hkm] at EK KH
      clear hkd hkm hbd
      have HB2 := hide ((unhide hbl).alloc hbs (.cells #[.int .i64 key, .int .i64 til, .int .i64 val] 111))
      go_wp2_with fail
      generalize hWW : wr.alloc (.cells #[.int .i64 key, .int .i64 til, .int .i64 val] 111) = WW at *
      clear hWW c0 c1 c2
      refine (unhide KH _).mono ?_
      rintro e w3 ⟨rfl, b3⟩
      have HB3 := hide (((unhide HB2).trans (b3.mono (unhide HB2).size)).alloc (Nat.le_trans (unhide HB2).size b3.size) (.cells #[.int .i64 kd, .int .i64 km] 159))
      clear b3
      cases q1 : (kd == me)
      · cases q2 : (km == me)
        · have hy := hide (unhide HY (by rw [unhide EK, q1, q2]; rfl))
          clear HY HZ EK
          go_wp2_with fail
          go_roundw
          case rel => exact ⟨j + 1, by omega, by go_num, hy, HB3⟩
          case measure => simp [intOf]; omega
        · have hf := unhide HZ (by rw [unhide EK, q1, q2]; rfl)
          clear HY HZ EK
          go_wp2_with fail
          go_ret
          exact ⟨ret_bool hf.symm, unhide HB3⟩
      · have hf := unhide HZ (by rw [unhide EK, q1]; rfl)
        clear HY HZ EK
        go_wp2_with fail
        go_ret
        exact ⟨ret_bool hf.symm, unhide HB3⟩
    · obtain rfl : j = n := by omega
      have e : tw.take j = tw := List.take_of_length_le (by rw [unhide HN]; exact Nat.le_refl _)
      have ht : A = true := by rw [unhide HE, ← e]; exact unhide hal
      have HT := hide ht
      clear e ht
      go_wp2_with fail
      go_ret
      exact ⟨ret_bool (unhide HT).symm, unhide hbl⟩
end Rt
end Go.Proofs.YthfcigfgpimimaaGreat
namespace Go.Proofs.YthfcigfgpimimaaGreat
open Go.ChangeShapes Go.WideShapes Go.ChangeAt Go.RowKit
set_option linter.unusedVariables false
set_option linter.unusedSimpArgs false
set_option maxRecDepth 100000
attribute [local go_sem ↓] Go.wp_at_zero Go.wp_at_succ
namespace Nt
open W1 Rt
/-- All places below n. -/
def allI (n : Nat) (p : Nat → Bool) : Bool := (List.range n).all p
theorem allI_no {n : Nat} {p : Nat → Bool} {j : Nat} (h : j < n) (hp : p j = false) : allI n p = false := by
  unfold allI
  rw [List.all_eq_false]
  exact ⟨j, List.mem_range.2 h, by rw [hp]; simp⟩
theorem allI_yes {n : Nat} {p : Nat → Bool} (h : ∀ i, i < n → p i = true) : allI n p = true := by
  unfold allI
  rw [List.all_eq_true]
  exact fun i hi => h i (List.mem_range.1 hi)
theorem allI_at {n : Nat} {p : Nat → Bool} (h : allI n p = true) {i : Nat} (hi : i < n) : p i = true := by
  unfold allI at h
  rw [List.all_eq_true] at h
  exact h i (List.mem_range.2 hi)
theorem up_to {p : Nat → Bool} {j : Nat} (h : ∀ i, i < j → p i = true) (hj : p j = true) : ∀ i, i < j + 1 → p i = true := fun i hi => by
  by_cases e : i = j
  · subst e; exact hj
  · exact h i (by omega)
/-- A cost at a place of n routers' rows. -/
def cok (cs : List Int) (n i : Nat) : Bool := inB (cs.getD i 0) 0 256 && (!(decide (i / n = i % n)) || cs.getD i 0 == 0)
def costB (cs : List Int) (n : Nat) : Bool := cs.length == n * n && allI cs.length (cok cs n)
theorem diag {n i : Nat} (h1 : 1 ≤ n) (h6 : n ≤ 6) (hi : i < n * n) : (i % (n + 1) = 0) ↔ (i / n = i % n) := by
  have key : ∀ n, n < 7 → 1 ≤ n → ∀ i, i < 36 → i < n * n → ((i % (n + 1) = 0) ↔ (i / n = i % n)) := by decide +kernel
  exact key n (by omega) h1 i (Nat.lt_of_lt_of_le hi (Nat.mul_le_mul h6 h6)) hi
/-- A frame of n routers at a time. -/
def fok (f : Fm.R) (n : Nat) (t : Int) : Bool := inB f.fr 1 n && (inB f.tt 1 n && (!(f.fr == f.tt) && (inB f.ti t (t + 1) && decide ((f.bs.size : Int) ≤ 900))))
def airB (fs : List Fm.R) (n : Nat) (t : Int) : Bool := decide (fs.length ≤ 200) && allI fs.length fun i => fok (fs.getD i Fm.R.zero) n t
def okM (m : Rm) : Bool := rtrB m.x1 m.x2 m.x3 m.x4 m.x5 m.x6 m.ls m.tw m.se m.du m.ss m.es m.la
def rok (m : Rm) (i : Nat) (t : Int) : Bool := okM m && (m.x1 == (i : Int) + 1 && decide (m.x5 ≤ t))
def rtsB (ms : List Rm) (t : Int) : Bool := allI ms.length fun i => rok (ms.getD i Rm.zero) i t
/-- Whether a net is right. -/
def netB (ms : List Rm) (cs : List Int) (fs : List Fm.R) (t : Int) : Bool := inB t 0 100000 && (inB ms.length 1 6 && (rtsB ms t && (costB cs ms.length && airB fs ms.length t)))
end Nt
end Go.Proofs.YthfcigfgpimimaaGreat
namespace Go.Proofs.YthfcigfgpimimaaGreat
open Go.ChangeShapes Go.WideShapes Go.ChangeAt Go.RowKit
set_option linter.unusedVariables false
set_option linter.unusedSimpArgs false
set_option maxRecDepth 100000
attribute [local go_sem ↓] Go.wp_at_zero Go.wp_at_succ
namespace Nt
open W1 Rt
theorem belN (w : World) (n : Nat) : Below w.heap.size w (w.drewN n) := by
  have h := Below.refl w.heap.size w
  exact ⟨h.os, h.tape, h.output, h.size, h.block⟩
theorem l13Addr (a b d : Option Addr) (n k l ca cb cd : Nat) (t : Int) (x : Int) (w : World) :
    Calls Tryz.prog 39 #[.agg #[.slice a n ca, .slice b k cb, .slice d l cd, .int .i64 t], .int .i64 x] w fun e w' => e = .returned (.bool (inB x 1 n)) ∧ Below w.heap.size w w' := by
  go_enter Tryz.func39, Tryz.ntmps39
  go_wp2_with (go_at_call 36; refine (l01In _ _ _ _).mono ?_; rintro e w_ ⟨rfl, rfl⟩)
  go_ret
  exact ⟨rfl, (Below.refl _ _).alloc (Nat.le_refl _) _⟩
theorem isRouter (a b d : Option Addr) (n k l ca cb cd : Nat) (t : Int) (x : Int) (w : World) :
    Calls Tryz.prog 82 #[.agg #[.slice a n ca, .slice b k cb, .slice d l cd, .int .i64 t], .int .i64 x] w fun e w' => e = .returned (.bool (inB x 1 n)) ∧ Below w.heap.size w w' := by
  go_enter Tryz.func82, Tryz.ntmps82
  go_wp2_with (go_at_call 43; refine (within _ _ _ _).mono ?_; rintro e w_ ⟨rfl, rfl⟩)
  go_ret
  exact ⟨rfl, (Below.refl _ _).alloc (Nat.le_refl _) _⟩
/-- Two different routers. -/
def apB (x y : Int) (n : Nat) : Bool := inB x 1 n && (inB y 1 n && !(x == y))
set_option maxHeartbeats 4000000 in
theorem l13Pair (a b d : Option Addr) (n k l ca cb cd : Nat) (t : Int) (x y : Int) (w : World) :
    Calls Tryz.prog 18 #[.agg #[.slice a n ca, .slice b k cb, .slice d l cd, .int .i64 t], .int .i64 x, .int .i64 y] w fun e w' => e = .returned (.bool (apB x y n)) ∧ Below w.heap.size w w' := by
  have HX0 := hide (nb_new w (.slice a n ca) (.slice b k cb) (.slice d l cd) t 32)
  have HB0 := hide (bel_new w (.cells #[.slice a n ca, .slice b k cb, .slice d l cd, .int .i64 t] 32))
  have E : Hid (apB x y n = (inB x 1 n && (inB y 1 n && !(x == y)))) := hide rfl
  have K1 := hide (fun W => l13Addr a b d n k l ca cb cd t x W)
  have K2 := hide (fun W => l13Addr a b d n k l ca cb cd t y W)
  cases h1 : inB x 1 n
  · rw [h1] at K1 E
    clear h1
    go_enter Tryz.func18, Tryz.ntmps18
    go_wp2_with fail
    refine (unhide K1 _).mono ?_
    rintro e w1 ⟨rfl, b1⟩
    have HF := hide ((unhide HB0).trans (b1.mono (unhide HB0).size))
    clear b1
    go_wp2_with fail
    go_ret
    exact ⟨ret_bool (by rw [unhide E]; simp), unhide HF⟩
  rw [h1] at K1 E
  clear h1
  cases h2 : inB y 1 n
  · rw [h2] at K2 E
    clear h2
    go_enter Tryz.func18, Tryz.ntmps18
    go_wp2_with fail
    refine (unhide K1 _).mono ?_
    rintro e w1 ⟨rfl, b1⟩
    have HF := hide ((unhide HB0).trans (b1.mono (unhide HB0).size))
    obtain ⟨p0, p1, p2, p3⟩ := (unhide HX0).below b1
    clear b1
    go_wp2_with fail
    clear p0 p1 p2 p3
    refine (unhide K2 _).mono ?_
    rintro e w2 ⟨rfl, b2⟩
    have HG := hide ((unhide HF).trans (b2.mono (unhide HF).size))
    clear b2
    go_wp2_with fail
    go_ret
    exact ⟨ret_bool (by rw [unhide E]; simp), unhide HG⟩
  rw [h2] at K2 E
  clear h2
  have E2 : Hid (apB x y n = (x != y)) := hide (by rw [unhide E]; rfl)
  cases hxy : (x != y)
  all_goals
    have HXY := hide hxy
    go_enter Tryz.func18, Tryz.ntmps18
    go_wp2_with fail
    refine (unhide K1 _).mono ?_
    rintro e w1 ⟨rfl, b1⟩
    have HF := hide ((unhide HB0).trans (b1.mono (unhide HB0).size))
    obtain ⟨p0, p1, p2, p3⟩ := (unhide HX0).below b1
    clear b1
    go_wp2_with fail
    clear p0 p1 p2 p3
    refine (unhide K2 _).mono ?_
    rintro e w2 ⟨rfl, b2⟩
    have HG := hide ((unhide HF).trans (b2.mono (unhide HF).size))
    clear b2
    go_wp2_with fail
    go_ret
    exact ⟨ret_bool (by rw [unhide E2, unhide HXY]), unhide HG⟩
set_option maxHeartbeats 4000000 in
theorem areApart (a b d : Option Addr) (n k l ca cb cd : Nat) (t : Int) (x y : Int) (w : World) :
    Calls Tryz.prog 47 #[.agg #[.slice a n ca, .slice b k cb, .slice d l cd, .int .i64 t], .int .i64 x, .int .i64 y] w fun e w' => e = .returned (.bool (apB x y n)) ∧ Below w.heap.size w w' := by
  have HX0 := hide (nb_new w (.slice a n ca) (.slice b k cb) (.slice d l cd) t 32)
  have HB0 := hide (bel_new w (.cells #[.slice a n ca, .slice b k cb, .slice d l cd, .int .i64 t] 32))
  have E : Hid (apB x y n = (inB x 1 n && (inB y 1 n && !(x == y)))) := hide rfl
  have K1 := hide (fun W => isRouter a b d n k l ca cb cd t x W)
  have K2 := hide (fun W => isRouter a b d n k l ca cb cd t y W)
  cases h1 : inB x 1 n
  · rw [h1] at K1 E
    clear h1
    go_enter Tryz.func47, Tryz.ntmps47
    go_wp2_with fail
    refine (unhide K1 _).mono ?_
    rintro e w1 ⟨rfl, b1⟩
    have HF := hide ((unhide HB0).trans (b1.mono (unhide HB0).size))
    clear b1
    go_wp2_with fail
    go_ret
    exact ⟨ret_bool (by rw [unhide E]; simp), unhide HF⟩
  rw [h1] at K1 E
  clear h1
  cases h2 : inB y 1 n
  · rw [h2] at K2 E
    clear h2
    go_enter Tryz.func47, Tryz.ntmps47
    go_wp2_with fail
    refine (unhide K1 _).mono ?_
    rintro e w1 ⟨rfl, b1⟩
    have HF := hide ((unhide HB0).trans (b1.mono (unhide HB0).size))
    obtain ⟨p0, p1, p2, p3⟩ := (unhide HX0).below b1
    clear b1
    go_wp2_with fail
    clear p0 p1 p2 p3
    refine (unhide K2 _).mono ?_
    rintro e w2 ⟨rfl, b2⟩
    have HG := hide ((unhide HF).trans (b2.mono (unhide HF).size))
    clear b2
    go_wp2_with fail
    go_ret
    exact ⟨ret_bool (by rw [unhide E]; simp), unhide HG⟩
  rw [h2] at K2 E
  clear h2
  have E2 : Hid (apB x y n = (x != y)) := hide (by rw [unhide E]; rfl)
  cases hxy : (x != y)
  all_goals
    have HXY := hide hxy
    go_enter Tryz.func47, Tryz.ntmps47
    go_wp2_with fail
    refine (unhide K1 _).mono ?_
    rintro e w1 ⟨rfl, b1⟩
    have HF := hide ((unhide HB0).trans (b1.mono (unhide HB0).size))
    obtain ⟨p0, p1, p2, p3⟩ := (unhide HX0).below b1
    clear b1
    go_wp2_with fail
    clear p0 p1 p2 p3
    refine (unhide K2 _).mono ?_
    rintro e w2 ⟨rfl, b2⟩
    have HG := hide ((unhide HF).trans (b2.mono (unhide HF).size))
    clear b2
    go_wp2_with fail
    go_ret
    exact ⟨ret_bool (by rw [unhide E2, unhide HXY]), unhide HG⟩
theorem isCost (x : Int) (w : World) : Calls Tryz.prog 81 #[.int .i64 x] w fun e w' => e = .returned (.bool (inB x 0 256)) ∧ w' = w := by
  go_enter Tryz.func81, Tryz.ntmps81
  go_wp2_with (go_at_call 43; refine (within _ _ _ _).mono ?_; rintro e w_ ⟨rfl, rfl⟩)
  go_ret
  exact ⟨rfl, rfl⟩
set_option maxHeartbeats 8000000 in
theorem l13Costs (a : Option Addr) (cs : List Int) (cap n : Nat) (w : World) (hm : cs.length ≤ 1048576) (h1 : 1 ≤ n) (h6 : n ≤ 6) (hr : In.RM w a cs) :
    Calls Tryz.prog 37 #[.slice a cs.length cap, .int .i64 n] w fun e w' => e = .returned (.bool (costB cs n)) ∧ Below w.heap.size w w' := by
  have HR := hide hr
  clear hr
  have E : Hid (costB cs n = (cs.length == n * n && allI cs.length (cok cs n))) := hide rfl
  obtain ⟨N2, hN2⟩ : ∃ N2 : Nat, n * n = N2 := ⟨_, rfl⟩
  have hmul : (n : Int) * (n : Int) = (N2 : Int) := by rw [← hN2]; simp
  have hle : N2 ≤ 36 := by rw [← hN2]; exact Nat.mul_le_mul h6 h6
  rw [hN2] at E
  clear hN2
  obtain ⟨C, hC⟩ : ∃ C, cs.length = C := ⟨_, rfl⟩
  rw [hC] at hm E ⊢
  have HC := hide hC
  clear hC
  have hn1 : (1 : Int) ≤ (n : Int) := by omega
  have hn6 : (n : Int) ≤ 6 := by omega
  have hn0 : ¬ (n : Int) = 0 := by omega
  go_enter Tryz.func37, Tryz.ntmps37
  go_wp2
  go_loopw [5] (fun i wr => ∃ j : Nat, j ≤ C ∧ i = .int .i64 j ∧ Hid (∀ i, i < j → cok cs n i = true) ∧ Hid (∃ q, wr = w.drewN q)) (fun i _ => C - (intOf i).toNat)
  case atStart => exact ⟨0, by omega, rfl, hide (fun i hi => absurd hi (Nat.not_lt_zero i)), hide ⟨0, rfl⟩⟩
  case round =>
    obtain ⟨j, hj, rfl, hall, hwd⟩ := hrel
    by_cases hlt : (j : Int) < (C : Int)
    · have k0 : (0 : Int) ≤ (j : Int) := by omega
      have hlen : j < cs.length := by rw [unhide HC]; omega
      have hbl : Below w.heap.size w wr := by obtain ⟨q, rfl⟩ := unhide hwd; exact belN w q
      rcases (unhide HR).below hbl with e0 | ⟨g, off, rfl, hc⟩
      · exfalso; rw [e0] at hlen; simp at hlen
      have c0 := hc j hlen
      have HBL := hide hbl
      clear hc hbl
      have HCK : Hid (cok cs n j = (inB (cs.getD j 0) 0 256 && (!(decide (j / n = j % n)) || cs.getD j 0 == 0))) := hide rfl
      generalize cs.getD j 0 = x at *
      have hq : (j : Int) / (n : Int) = ((j / n : Nat) : Int) := by simp
      have hr : (j : Int) % (n : Int) = ((j % n : Nat) : Int) := by simp
      have hq2 : (j : Int).tdiv (n : Int) = ((j / n : Nat) : Int) := by simp
      have hr2 : (j : Int).tmod (n : Int) = ((j % n : Nat) : Int) := by rw [Int.tmod_eq_emod_of_nonneg (by omega)]; simp
      have HE : Hid ((((j / n : Nat) : Int) == ((j % n : Nat) : Int)) = decide (j / n = j % n)) := hide (by rw [Bool.eq_iff_iff]; simp; omega)
      have hqb : ((j / n : Nat) : Int) ≤ 1048576 := by have := Nat.div_le_self j n; omega
      have hrb : ((j % n : Nat) : Int) ≤ 6 := by have := Nat.mod_lt j (show 0 < n by omega); omega
      generalize j / n = Qn at *
      generalize j % n = Rn at *
      have hn0' : ¬ n = 0 := by omega
      have hwq : IntKind.i64.wrap (Qn : Int) = (Qn : Int) := by rw [IntKind.wrap_i64]; omega
      have hwr : IntKind.i64.wrap (Rn : Int) = (Rn : Int) := by rw [IntKind.wrap_i64]; omega
      have KC := hide (fun W => l01In x 0 256 W)
      have HNO := hide (fun h => allI_no (p := cok cs n) hlen h)
      have HUP := hide (fun h => up_to (p := cok cs n) (unhide hall) h)
      rw [unhide HC] at HNO
      clear hlen
      cases hin : inB x 0 256
      · have EB := hide (unhide HNO (by rw [unhide HCK, hin]; rfl))
        rw [hin] at KC
        clear hin
        go_wp2_with fail
        refine wp_region_noPanic ?_
        refine wp_region_held_drew (S := fun w' => w'.cell? ⟨g, off + j, none⟩ = some (.int .i64 x)) (by kernel_rfl) (c0) (fun hHeld => ?_)
        refine Rg.t 0 12 ?_
        refine Rg.t 1 13 ?_
        refine Rg.t 2 14 ?_
        refine Rg.t 3 15 ?_
        (refine Rg.o 4 (fun K hK => ?_); go_simp)
        refine (unhide KC _).mono ?_
        rintro e w1 ⟨rfl, hw1⟩
        subst hw1
        refine hK.out _ _ (by first | exact c0 | exact hHeld) (fun hHeld => ?_)
        clear hK
        (try simp only [Act.put, List.setIfInBounds_toArray, List.set_cons_zero, List.set_cons_succ])
        refine Rg.t 5 17 ?_
        refine Rg.t 6 18 ?_
        refine Rg.s 7 19 ?_
        refine Rg.s 8 20 ?_
        refine Rg.s 9 21 ?_
        refine Rg.s 10 22 ?_
        refine Rg.s 11 23 ?_
        refine Rg.s 12 24 ?_
        refine Rg.s 13 25 ?_
        refine Rg.s 14 26 ?_
        refine Rg.s 15 27 ?_
        refine Rg.s 16 28 ?_
        refine Rg.s 17 29 ?_
        refine Rg.s 18 30 ?_
        refine Rg.s 19 31 ?_
        refine Rg.s 20 32 ?_
        refine Rg.t 21 33 ?_
        refine wpAnyH_done (by kernel_rfl) (NoPanic.normal ?_) _
        clear hHeld
        go_wp2_with fail
        go_ret
        exact ⟨ret_bool (by rw [unhide E, unhide EB]; simp), (unhide HBL).drew⟩
      rw [hin] at KC
      have HIN := hide hin
      clear hin
      cases hd : ((Qn : Int) == (Rn : Int))
      · have OK := hide (unhide HUP (by rw [unhide HCK, unhide HIN, ← unhide HE, hd]; rfl))
        clear HNO HUP
        go_wp2_with fail
        refine wp_region_noPanic ?_
        refine wp_region_held_drew (S := fun w' => w'.cell? ⟨g, off + j, none⟩ = some (.int .i64 x)) (by kernel_rfl) (c0) (fun hHeld => ?_)
        refine Rg.t 0 12 ?_
        refine Rg.t 1 13 ?_
        refine Rg.t 2 14 ?_
        refine Rg.t 3 15 ?_
        (refine Rg.o 4 (fun K hK => ?_); go_simp)
        refine (unhide KC _).mono ?_
        rintro e w1 ⟨rfl, hw1⟩
        subst hw1
        refine hK.out _ _ (by first | exact c0 | exact hHeld) (fun hHeld => ?_)
        clear hK
        (try simp only [Act.put, List.setIfInBounds_toArray, List.set_cons_zero, List.set_cons_succ])
        refine Rg.t 5 17 ?_
        refine Rg.t 6 18 ?_
        refine Rg.t 7 19 ?_
        refine Rg.t 8 20 ?_
        refine Rg.t 9 21 ?_
        refine Rg.t 10 22 ?_
        refine Rg.t 11 23 ?_
        refine Rg.t 12 24 ?_
        refine Rg.t 13 25 ?_
        refine Rg.t 14 26 ?_
        refine Rg.s 15 27 ?_
        refine Rg.s 16 28 ?_
        refine Rg.s 17 29 ?_
        refine Rg.s 18 30 ?_
        refine Rg.s 19 31 ?_
        refine Rg.t 20 32 ?_
        refine Rg.t 21 33 ?_
        refine wpAnyH_done (by kernel_rfl) (NoPanic.normal ?_) _
        clear hHeld
        go_wp2_with fail
        go_roundw
        case rel => exact ⟨j + 1, by omega, by go_num, OK, hide (by obtain ⟨q, hq⟩ := unhide hwd; exact ⟨q + 1, by rw [hq]; rfl⟩)⟩
        case measure => simp [intOf]; omega
      cases hx : (x != 0)
      · have OK := hide (unhide HUP (by rw [unhide HCK, unhide HIN]; have : (x == 0) = true := (by simpa using hx); rw [this]; simp))
        clear HNO HUP
        go_wp2_with fail
        refine wp_region_noPanic ?_
        refine wp_region_held_drew (S := fun w' => w'.cell? ⟨g, off + j, none⟩ = some (.int .i64 x)) (by kernel_rfl) (c0) (fun hHeld => ?_)
        refine Rg.t 0 12 ?_
        refine Rg.t 1 13 ?_
        refine Rg.t 2 14 ?_
        refine Rg.t 3 15 ?_
        (refine Rg.o 4 (fun K hK => ?_); go_simp)
        refine (unhide KC _).mono ?_
        rintro e w1 ⟨rfl, hw1⟩
        subst hw1
        refine hK.out _ _ (by first | exact c0 | exact hHeld) (fun hHeld => ?_)
        clear hK
        (try simp only [Act.put, List.setIfInBounds_toArray, List.set_cons_zero, List.set_cons_succ])
        refine Rg.t 5 17 ?_
        refine Rg.t 6 18 ?_
        refine Rg.t 7 19 ?_
        refine Rg.t 8 20 ?_
        refine Rg.t 9 21 ?_
        refine Rg.t 10 22 ?_
        refine Rg.t 11 23 ?_
        refine Rg.t 12 24 ?_
        refine Rg.t 13 25 ?_
        refine Rg.t 14 26 ?_
        refine Rg.t 15 27 ?_
        refine Rg.t 16 28 ?_
        refine Rg.t 17 29 ?_
        refine Rg.t 18 30 ?_
        refine Rg.t 19 31 ?_
        refine Rg.t 20 32 ?_
        refine Rg.t 21 33 ?_
        refine wpAnyH_done (by kernel_rfl) (NoPanic.normal ?_) _
        clear hHeld
        go_wp2_with fail
        go_roundw
        case rel => exact ⟨j + 1, by omega, by go_num, OK, hide (by obtain ⟨q, hq⟩ := unhide hwd; exact ⟨q + 1, by rw [hq]; rfl⟩)⟩
        case measure => simp [intOf]; omega
      · have EB := hide (unhide HNO (by rw [unhide HCK, unhide HIN, ← unhide HE, hd]; have : (x == 0) = false := (by simpa using hx); rw [this]; rfl))
        clear HNO HUP
        go_wp2_with fail
        refine wp_region_noPanic ?_
        refine wp_region_held_drew (S := fun w' => w'.cell? ⟨g, off + j, none⟩ = some (.int .i64 x)) (by kernel_rfl) (c0) (fun hHeld => ?_)
        refine Rg.t 0 12 ?_
        refine Rg.t 1 13 ?_
        refine Rg.t 2 14 ?_
        refine Rg.t 3 15 ?_
        (refine Rg.o 4 (fun K hK => ?_); go_simp)
        refine (unhide KC _).mono ?_
        rintro e w1 ⟨rfl, hw1⟩
        subst hw1
        refine hK.out _ _ (by first | exact c0 | exact hHeld) (fun hHeld => ?_)
        clear hK
        (try simp only [Act.put, List.setIfInBounds_toArray, List.set_cons_zero, List.set_cons_succ])
        refine Rg.t 5 17 ?_
        refine Rg.t 6 18 ?_
        refine Rg.t 7 19 ?_
        refine Rg.t 8 20 ?_
        refine Rg.t 9 21 ?_
        refine Rg.t 10 22 ?_
        refine Rg.t 11 23 ?_
        refine Rg.t 12 24 ?_
        refine Rg.t 13 25 ?_
        refine Rg.t 14 26 ?_
        refine Rg.t 15 27 ?_
        refine Rg.t 16 28 ?_
        refine Rg.t 17 29 ?_
        refine Rg.t 18 30 ?_
        refine Rg.t 19 31 ?_
        refine Rg.t 20 32 ?_
        refine Rg.t 21 33 ?_
        refine wpAnyH_done (by kernel_rfl) (NoPanic.normal ?_) _
        clear hHeld
        go_wp2_with fail
        go_ret
        exact ⟨ret_bool (by rw [unhide E, unhide EB]; simp), (unhide HBL).drew⟩
    · obtain rfl : j = C := by omega
      have EA := hide (allI_yes (unhide hall))
      have HBL : Hid (Below w.heap.size w wr) := hide (by obtain ⟨q, rfl⟩ := unhide hwd; exact belN w q)
      have HEE : Hid (((j : Int) == (N2 : Int)) = (j == N2)) := hide (by rw [Bool.eq_iff_iff]; simp; omega)
      go_wp2_with fail
      go_ret
      exact ⟨ret_bool (by rw [unhide E, unhide EA, Bool.and_true]; first | exact unhide HEE | (rw [← unhide HEE]; simp)), unhide HBL⟩
set_option maxHeartbeats 8000000 in
theorem areCosts (a : Option Addr) (cs : List Int) (cap n : Nat) (w : World) (hm : cs.length ≤ 1048576) (h1 : 1 ≤ n) (h6 : n ≤ 6) (hr : In.RM w a cs) :
    Calls Tryz.prog 45 #[.slice a cs.length cap, .int .i64 n] w fun e w' => e = .returned (.bool (costB cs n)) ∧ Below w.heap.size w w' := by
  have HR := hide hr
  clear hr
  have E : Hid (costB cs n = (cs.length == n * n && allI cs.length (cok cs n))) := hide rfl
  have HDG := hide (fun i (hi : i < n * n) => diag h1 h6 hi)
  obtain ⟨N2, hN2⟩ : ∃ N2 : Nat, n * n = N2 := ⟨_, rfl⟩
  have hmul : (n : Int) * (n : Int) = (N2 : Int) := by rw [← hN2]; simp
  have hle : N2 ≤ 36 := by rw [← hN2]; exact Nat.mul_le_mul h6 h6
  rw [hN2] at E HDG
  clear hN2
  obtain ⟨C, hC⟩ : ∃ C, cs.length = C := ⟨_, rfl⟩
  rw [hC] at hm E ⊢
  have HC := hide hC
  clear hC
  have hn1 : (1 : Int) ≤ (n : Int) := by omega
  have hn6 : (n : Int) ≤ 6 := by omega
  cases hcn : ((C : Int) != (N2 : Int))
  rotate_left
  · go_enter Tryz.func45, Tryz.ntmps45
    go_wp2_with fail
    go_ret
    exact ⟨ret_bool (by rw [unhide E]; have : (C == N2) = false := (by simp at hcn ⊢; omega); rw [this]; rfl), Below.refl _ _⟩
  have hCN : C = N2 := by simp at hcn; omega
  have HCN := hide hCN
  have E2 : Hid (costB cs n = allI C (cok cs n)) := hide (by rw [unhide E, hCN]; simp)
  have HDG2 := hide (fun i (hi : i < C) => unhide HDG i (by omega))
  clear HDG E hCN
  go_enter Tryz.func45, Tryz.ntmps45
  go_wp2_with fail
  go_loop [15] (fun i => ∃ j : Nat, j ≤ C ∧ i = .int .i64 j ∧ Hid (∀ i, i < j → cok cs n i = true)) (fun i => C - (intOf i).toNat)
  case atStart => exact ⟨0, by omega, rfl, hide (fun i hi => absurd hi (Nat.not_lt_zero i))⟩
  case round =>
    obtain ⟨j, hj, rfl, hall⟩ := hrel
    by_cases hlt : (j : Int) < (C : Int)
    · have k0 : (0 : Int) ≤ (j : Int) := by omega
      have hlen : j < cs.length := by rw [unhide HC]; omega
      rcases unhide HR with e0 | ⟨g, off, rfl, hc⟩
      · exfalso; rw [e0] at hlen; simp at hlen
      have c0 := hc j hlen
      clear hc
      have HCK : Hid (cok cs n j = (inB (cs.getD j 0) 0 256 && (!(decide (j / n = j % n)) || cs.getD j 0 == 0))) := hide rfl
      have HDJ := hide (unhide HDG2 j (by omega))
      generalize cs.getD j 0 = x at *
      have hr : (j : Int) % ((n : Int) + 1) = ((j % (n + 1) : Nat) : Int) := by simp
      have hr2 : (j : Int).tmod ((n : Int) + 1) = ((j % (n + 1) : Nat) : Int) := by rw [Int.tmod_eq_emod_of_nonneg (by omega)]; simp
      have HE : Hid ((((j % (n + 1) : Nat) : Int) == 0) = decide (j / n = j % n)) := hide (by rw [Bool.eq_iff_iff]; have := unhide HDJ; simp; omega)
      have hrb : ((j % (n + 1) : Nat) : Int) ≤ 7 := by have := Nat.mod_lt j (show 0 < n + 1 by omega); omega
      have hn1p : ¬ ((n : Int) + 1 = 0) := by omega
      generalize j % (n + 1) = Rn at *
      have HNO := hide (fun h => allI_no (p := cok cs n) hlen h)
      have HUP := hide (fun h => up_to (p := cok cs n) (unhide hall) h)
      rw [unhide HC] at HNO
      have KC := hide (fun W => isCost x W)
      clear hlen
      cases hin : inB x 0 256
      · have EB := hide (unhide HNO (by rw [unhide HCK, hin]; rfl))
        rw [hin] at KC
        clear hin HNO HUP
        go_wp2_with (go_at_call 81; refine (unhide KC _).mono ?_; rintro e w_ ⟨rfl, rfl⟩)
        go_ret
        exact ⟨ret_bool (by rw [unhide E2, unhide EB]), Below.refl _ _⟩
      rw [hin] at KC
      have HIN := hide hin
      clear hin
      cases hd : ((Rn : Int) == 0)
      · have OK := hide (unhide HUP (by rw [unhide HCK, unhide HIN, ← unhide HE, hd]; rfl))
        clear HNO HUP
        go_wp2_with (go_at_call 81; refine (unhide KC _).mono ?_; rintro e w_ ⟨rfl, rfl⟩)
        go_round
        case rel => exact ⟨j + 1, by omega, by go_num, OK⟩
        case measure => simp [intOf]; omega
      cases hx : (x != 0)
      · have OK := hide (unhide HUP (by rw [unhide HCK, unhide HIN]; have : (x == 0) = true := (by simpa using hx); rw [this]; simp))
        clear HNO HUP
        go_wp2_with (go_at_call 81; refine (unhide KC _).mono ?_; rintro e w_ ⟨rfl, rfl⟩)
        go_round
        case rel => exact ⟨j + 1, by omega, by go_num, OK⟩
        case measure => simp [intOf]; omega
      · have EB := hide (unhide HNO (by rw [unhide HCK, unhide HIN, ← unhide HE, hd]; have : (x == 0) = false := (by simpa using hx); rw [this]; rfl))
        clear HNO HUP
        go_wp2_with (go_at_call 81; refine (unhide KC _).mono ?_; rintro e w_ ⟨rfl, rfl⟩)
        go_ret
        exact ⟨ret_bool (by rw [unhide E2, unhide EB]), Below.refl _ _⟩
    · obtain rfl : j = C := by omega
      have EA := hide (allI_yes (unhide hall))
      go_wp2_with fail
      go_ret
      exact ⟨ret_bool (by rw [unhide E2, unhide EA]), Below.refl _ _⟩
end Nt
end Go.Proofs.YthfcigfgpimimaaGreat
namespace Go.Proofs.YthfcigfgpimimaaGreat
open Go.ChangeShapes Go.WideShapes Go.ChangeAt Go.RowKit
set_option linter.unusedVariables false
set_option linter.unusedSimpArgs false
set_option maxRecDepth 100000
attribute [local go_sem ↓] Go.wp_at_zero Go.wp_at_succ
namespace Rt
open W1
theorem tc_all (la : List Ed.R) : Av.tcB 0 15 la = Av.allN la la.length := by
  have h : Tim.valB 15 = true := by decide
  unfold Av.tcB; rw [h]; rfl
def Al (w W : World) (cs : List Value) : Prop := Below w.heap.size w W ∧ RA W w.heap.size cs
theorem al_below {w W W' : World} {cs : List Value} (h : Al w W cs) (hb : Below W.heap.size W W') : Al w W' cs := ⟨h.1.trans (hb.mono h.1.size), h.2.below hb⟩
set_option maxHeartbeats 32000000 in
theorem implRtr (x1 x2 x3 x4 x5 x6 : Int) (a1 a2 a3 a4 a5 a6 a7 : Option Addr) (c1 c2 c3 c4 c5 c6 c7 : Nat) (ls : List Lk.R) (tw : List Tu.R) (se : List Tu.R) (du : List Tu.R) (ss : List So.R) (es : List Tu.R) (la : List Ed.R) (w : World) (hm1 : ls.length ≤ 1048576) (hm2 : tw.length ≤ 1048576) (hm3 : se.length ≤ 1048576) (hm4 : du.length ≤ 1048576) (hm5 : ss.length ≤ 1048576) (hm6 : es.length ≤ 1048576) (hm7 : la.length ≤ 1048576) (hr1 : Lk.RM w a1 ls) (hr2 : Tu.RM w a2 tw) (hr3 : Tu.RM w a3 se) (hr4 : Tu.RM w a4 du) (hr5 : So.RM w a5 ss) (hr6 : Tu.RM w a6 es) (hr7 : Ed.RM w a7 la) :
    Calls Tryz.prog 80 #[.agg #[.int .i64 x1, .int .i64 x2, .int .i64 x3, .int .i64 x4, .int .i64 x5, .slice a1 ls.length c1, .slice a2 tw.length c2, .slice a3 se.length c3, .slice a4 du.length c4, .slice a5 ss.length c5, .slice a6 es.length c6, .slice a7 la.length c7, .int .i64 x6]] w fun e w' => e = .returned (.bool (rtrB x1 x2 x3 x4 x5 x6 ls tw se du ss es la)) ∧ Below w.heap.size w w' := by
  have HAL : Hid (Al w (w.alloc (.cells #[.int .i64 x1, .int .i64 x2, .int .i64 x3, .int .i64 x4, .int .i64 x5, .slice a1 ls.length c1, .slice a2 tw.length c2, .slice a3 se.length c3, .slice a4 du.length c4, .slice a5 ss.length c5, .slice a6 es.length c6, .slice a7 la.length c7, .int .i64 x6] 80)) (rC x1 x2 x3 x4 x5 (.slice a1 ls.length c1) (.slice a2 tw.length c2) (.slice a3 se.length c3) (.slice a4 du.length c4) (.slice a5 ss.length c5) (.slice a6 es.length c6) (.slice a7 la.length c7) x6)) := hide ⟨(Below.refl _ _).alloc (Nat.le_refl _) _, ra_new w _ rfl _⟩
  have HR1 := hide hr1
  clear hr1
  have HR2 := hide hr2
  clear hr2
  have HR3 := hide hr3
  clear hr3
  have HR4 := hide hr4
  clear hr4
  have HR5 := hide hr5
  clear hr5
  have HR6 := hide hr6
  clear hr6
  have HR7 := hide hr7
  clear hr7
  have K7 := hide (fun W => areLinksOf x1 a1 ls c1 W hm1)
  have K8 := hide (fun W => areTwoOf x1 a2 tw c2 W hm2)
  have K9 := hide (fun W => St.implOK a3 se c3 W hm3)
  have K10 := hide (fun W => St.implOK a4 du c4 W hm4)
  have K11 := hide (fun W => Tp.implOK a5 ss c5 a6 es c6 W hm5 hm6)
  have K13 := hide (fun W => Av.implOK 0 15 a7 la c7 W hm7)
  rw [tc_all] at K13
  cases h1 : inB x1 1 8
  · have hv : rtrB x1 x2 x3 x4 x5 x6 ls tw se du ss es la = false := by unfold rtrB; rw [h1]; rfl
    rw [hv]
    clear hv
    skip
    go_enter Tryz.func80, Tryz.ntmps80
    go_wp2_with (first | (go_at_call 101; refine (isAddress _ _).mono ?_; rintro e w_ ⟨rfl, rfl⟩) | (go_at_call 102; refine (Ln.isWill _ _).mono ?_; rintro e w_ ⟨rfl, rfl⟩) | (go_at_call 103; refine (isSeq _ _).mono ?_; rintro e w_ ⟨rfl, rfl⟩) | (go_at_call 43; refine (within _ _ _ _).mono ?_; rintro e w_ ⟨rfl, rfl⟩))
    go_ret
    exact ⟨rfl, (unhide HAL).1⟩
  cases h2 : inB x2 0 7
  · have hv : rtrB x1 x2 x3 x4 x5 x6 ls tw se du ss es la = false := by unfold rtrB; rw [h1, h2]; rfl
    rw [hv]
    clear hv
    skip
    go_enter Tryz.func80, Tryz.ntmps80
    go_wp2_with (first | (go_at_call 101; refine (isAddress _ _).mono ?_; rintro e w_ ⟨rfl, rfl⟩) | (go_at_call 102; refine (Ln.isWill _ _).mono ?_; rintro e w_ ⟨rfl, rfl⟩) | (go_at_call 103; refine (isSeq _ _).mono ?_; rintro e w_ ⟨rfl, rfl⟩) | (go_at_call 43; refine (within _ _ _ _).mono ?_; rintro e w_ ⟨rfl, rfl⟩))
    go_ret
    exact ⟨rfl, (unhide HAL).1⟩
  cases h3 : inB x3 0 65535
  · have hv : rtrB x1 x2 x3 x4 x5 x6 ls tw se du ss es la = false := by unfold rtrB; rw [h1, h2, h3]; rfl
    rw [hv]
    clear hv
    skip
    go_enter Tryz.func80, Tryz.ntmps80
    go_wp2_with (first | (go_at_call 101; refine (isAddress _ _).mono ?_; rintro e w_ ⟨rfl, rfl⟩) | (go_at_call 102; refine (Ln.isWill _ _).mono ?_; rintro e w_ ⟨rfl, rfl⟩) | (go_at_call 103; refine (isSeq _ _).mono ?_; rintro e w_ ⟨rfl, rfl⟩) | (go_at_call 43; refine (within _ _ _ _).mono ?_; rintro e w_ ⟨rfl, rfl⟩))
    go_ret
    exact ⟨rfl, (unhide HAL).1⟩
  cases h4 : inB x4 0 65535
  · have hv : rtrB x1 x2 x3 x4 x5 x6 ls tw se du ss es la = false := by unfold rtrB; rw [h1, h2, h3, h4]; rfl
    rw [hv]
    clear hv
    skip
    go_enter Tryz.func80, Tryz.ntmps80
    go_wp2_with (first | (go_at_call 101; refine (isAddress _ _).mono ?_; rintro e w_ ⟨rfl, rfl⟩) | (go_at_call 102; refine (Ln.isWill _ _).mono ?_; rintro e w_ ⟨rfl, rfl⟩) | (go_at_call 103; refine (isSeq _ _).mono ?_; rintro e w_ ⟨rfl, rfl⟩) | (go_at_call 43; refine (within _ _ _ _).mono ?_; rintro e w_ ⟨rfl, rfl⟩))
    go_ret
    exact ⟨rfl, (unhide HAL).1⟩
  cases h5 : inB x5 0 100000
  · have hv : rtrB x1 x2 x3 x4 x5 x6 ls tw se du ss es la = false := by unfold rtrB; rw [h1, h2, h3, h4, h5]; rfl
    rw [hv]
    clear hv
    skip
    go_enter Tryz.func80, Tryz.ntmps80
    go_wp2_with (first | (go_at_call 101; refine (isAddress _ _).mono ?_; rintro e w_ ⟨rfl, rfl⟩) | (go_at_call 102; refine (Ln.isWill _ _).mono ?_; rintro e w_ ⟨rfl, rfl⟩) | (go_at_call 103; refine (isSeq _ _).mono ?_; rintro e w_ ⟨rfl, rfl⟩) | (go_at_call 43; refine (within _ _ _ _).mono ?_; rintro e w_ ⟨rfl, rfl⟩))
    go_ret
    exact ⟨rfl, (unhide HAL).1⟩
  cases h6 : inB x6 0 1000000
  · have hv : rtrB x1 x2 x3 x4 x5 x6 ls tw se du ss es la = false := by unfold rtrB; rw [h1, h2, h3, h4, h5, h6]; rfl
    rw [hv]
    clear hv
    skip
    go_enter Tryz.func80, Tryz.ntmps80
    go_wp2_with (first | (go_at_call 101; refine (isAddress _ _).mono ?_; rintro e w_ ⟨rfl, rfl⟩) | (go_at_call 102; refine (Ln.isWill _ _).mono ?_; rintro e w_ ⟨rfl, rfl⟩) | (go_at_call 103; refine (isSeq _ _).mono ?_; rintro e w_ ⟨rfl, rfl⟩) | (go_at_call 43; refine (within _ _ _ _).mono ?_; rintro e w_ ⟨rfl, rfl⟩))
    go_ret
    exact ⟨rfl, (unhide HAL).1⟩
  cases h7 : lksB x1 ls
  · have hv : rtrB x1 x2 x3 x4 x5 x6 ls tw se du ss es la = false := by unfold rtrB; rw [h1, h2, h3, h4, h5, h6, h7]; rfl
    rw [hv]
    clear hv
    rw [h7] at K7
    clear h7
    go_enter Tryz.func80, Tryz.ntmps80
    go_wp2_with (first | (go_at_call 101; refine (isAddress _ _).mono ?_; rintro e w_ ⟨rfl, rfl⟩) | (go_at_call 102; refine (Ln.isWill _ _).mono ?_; rintro e w_ ⟨rfl, rfl⟩) | (go_at_call 103; refine (isSeq _ _).mono ?_; rintro e w_ ⟨rfl, rfl⟩) | (go_at_call 43; refine (within _ _ _ _).mono ?_; rintro e w_ ⟨rfl, rfl⟩))
    clear h1 h2 h3 h4 h5 h6
    generalize hW0 : w.alloc (.cells #[.int .i64 x1, .int .i64 x2, .int .i64 x3, .int .i64 x4, .int .i64 x5, .slice a1 ls.length c1, .slice a2 tw.length c2, .slice a3 se.length c3, .slice a4 du.length c4, .slice a5 ss.length c5, .slice a6 es.length c6, .slice a7 la.length c7, .int .i64 x6] 80) = W0 at *
    clear hW0
    refine (unhide K7 _ ((unhide HR1).below (unhide HAL).1)).mono ?_
    rintro e V7 ⟨rfl, b_⟩
    replace HAL := hide (al_below (unhide HAL) b_)
    clear b_
    go_wp2_with fail
    go_ret
    exact ⟨rfl, (unhide HAL).1⟩
  cases h8 : twoOf x1 tw
  · have hv : rtrB x1 x2 x3 x4 x5 x6 ls tw se du ss es la = false := by unfold rtrB; rw [h1, h2, h3, h4, h5, h6, h7, h8]; rfl
    rw [hv]
    clear hv
    rw [h7] at K7
    rw [h8] at K8
    clear h7 h8
    go_enter Tryz.func80, Tryz.ntmps80
    go_wp2_with (first | (go_at_call 101; refine (isAddress _ _).mono ?_; rintro e w_ ⟨rfl, rfl⟩) | (go_at_call 102; refine (Ln.isWill _ _).mono ?_; rintro e w_ ⟨rfl, rfl⟩) | (go_at_call 103; refine (isSeq _ _).mono ?_; rintro e w_ ⟨rfl, rfl⟩) | (go_at_call 43; refine (within _ _ _ _).mono ?_; rintro e w_ ⟨rfl, rfl⟩))
    clear h1 h2 h3 h4 h5 h6
    generalize hW0 : w.alloc (.cells #[.int .i64 x1, .int .i64 x2, .int .i64 x3, .int .i64 x4, .int .i64 x5, .slice a1 ls.length c1, .slice a2 tw.length c2, .slice a3 se.length c3, .slice a4 du.length c4, .slice a5 ss.length c5, .slice a6 es.length c6, .slice a7 la.length c7, .int .i64 x6] 80) = W0 at *
    clear hW0
    refine (unhide K7 _ ((unhide HR1).below (unhide HAL).1)).mono ?_
    rintro e V7 ⟨rfl, b_⟩
    replace HAL := hide (al_below (unhide HAL) b_)
    clear b_
    have z0 := (unhide HAL).2.at (i := 0) rfl
    have z6 := (unhide HAL).2.at (i := 6) rfl
    go_wp2_with fail
    clear z0 z6
    refine (unhide K8 _ ((unhide HR2).below (unhide HAL).1)).mono ?_
    rintro e V8 ⟨rfl, b_⟩
    replace HAL := hide (al_below (unhide HAL) b_)
    clear b_
    go_wp2_with fail
    go_ret
    exact ⟨rfl, (unhide HAL).1⟩
  cases h9 : St.setB se
  · have hv : rtrB x1 x2 x3 x4 x5 x6 ls tw se du ss es la = false := by unfold rtrB; rw [h1, h2, h3, h4, h5, h6, h7, h8, h9]; rfl
    rw [hv]
    clear hv
    rw [h7] at K7
    rw [h8] at K8
    rw [h9] at K9
    clear h7 h8 h9
    go_enter Tryz.func80, Tryz.ntmps80
    go_wp2_with (first | (go_at_call 101; refine (isAddress _ _).mono ?_; rintro e w_ ⟨rfl, rfl⟩) | (go_at_call 102; refine (Ln.isWill _ _).mono ?_; rintro e w_ ⟨rfl, rfl⟩) | (go_at_call 103; refine (isSeq _ _).mono ?_; rintro e w_ ⟨rfl, rfl⟩) | (go_at_call 43; refine (within _ _ _ _).mono ?_; rintro e w_ ⟨rfl, rfl⟩))
    clear h1 h2 h3 h4 h5 h6
    generalize hW0 : w.alloc (.cells #[.int .i64 x1, .int .i64 x2, .int .i64 x3, .int .i64 x4, .int .i64 x5, .slice a1 ls.length c1, .slice a2 tw.length c2, .slice a3 se.length c3, .slice a4 du.length c4, .slice a5 ss.length c5, .slice a6 es.length c6, .slice a7 la.length c7, .int .i64 x6] 80) = W0 at *
    clear hW0
    refine (unhide K7 _ ((unhide HR1).below (unhide HAL).1)).mono ?_
    rintro e V7 ⟨rfl, b_⟩
    replace HAL := hide (al_below (unhide HAL) b_)
    clear b_
    have z0 := (unhide HAL).2.at (i := 0) rfl
    have z6 := (unhide HAL).2.at (i := 6) rfl
    go_wp2_with fail
    clear z0 z6
    refine (unhide K8 _ ((unhide HR2).below (unhide HAL).1)).mono ?_
    rintro e V8 ⟨rfl, b_⟩
    replace HAL := hide (al_below (unhide HAL) b_)
    clear b_
    have z7 := (unhide HAL).2.at (i := 7) rfl
    go_wp2_with fail
    clear z7
    refine (unhide K9 _ ((unhide HR3).below (unhide HAL).1)).mono ?_
    rintro e V9 ⟨rfl, b_⟩
    replace HAL := hide (al_below (unhide HAL) b_)
    clear b_
    go_wp2_with fail
    go_ret
    exact ⟨rfl, (unhide HAL).1⟩
  cases h10 : St.setB du
  · have hv : rtrB x1 x2 x3 x4 x5 x6 ls tw se du ss es la = false := by unfold rtrB; rw [h1, h2, h3, h4, h5, h6, h7, h8, h9, h10]; rfl
    rw [hv]
    clear hv
    rw [h7] at K7
    rw [h8] at K8
    rw [h9] at K9
    rw [h10] at K10
    clear h7 h8 h9 h10
    go_enter Tryz.func80, Tryz.ntmps80
    go_wp2_with (first | (go_at_call 101; refine (isAddress _ _).mono ?_; rintro e w_ ⟨rfl, rfl⟩) | (go_at_call 102; refine (Ln.isWill _ _).mono ?_; rintro e w_ ⟨rfl, rfl⟩) | (go_at_call 103; refine (isSeq _ _).mono ?_; rintro e w_ ⟨rfl, rfl⟩) | (go_at_call 43; refine (within _ _ _ _).mono ?_; rintro e w_ ⟨rfl, rfl⟩))
    clear h1 h2 h3 h4 h5 h6
    generalize hW0 : w.alloc (.cells #[.int .i64 x1, .int .i64 x2, .int .i64 x3, .int .i64 x4, .int .i64 x5, .slice a1 ls.length c1, .slice a2 tw.length c2, .slice a3 se.length c3, .slice a4 du.length c4, .slice a5 ss.length c5, .slice a6 es.length c6, .slice a7 la.length c7, .int .i64 x6] 80) = W0 at *
    clear hW0
    refine (unhide K7 _ ((unhide HR1).below (unhide HAL).1)).mono ?_
    rintro e V7 ⟨rfl, b_⟩
    replace HAL := hide (al_below (unhide HAL) b_)
    clear b_
    have z0 := (unhide HAL).2.at (i := 0) rfl
    have z6 := (unhide HAL).2.at (i := 6) rfl
    go_wp2_with fail
    clear z0 z6
    refine (unhide K8 _ ((unhide HR2).below (unhide HAL).1)).mono ?_
    rintro e V8 ⟨rfl, b_⟩
    replace HAL := hide (al_below (unhide HAL) b_)
    clear b_
    have z7 := (unhide HAL).2.at (i := 7) rfl
    go_wp2_with fail
    clear z7
    refine (unhide K9 _ ((unhide HR3).below (unhide HAL).1)).mono ?_
    rintro e V9 ⟨rfl, b_⟩
    replace HAL := hide (al_below (unhide HAL) b_)
    clear b_
    have z8 := (unhide HAL).2.at (i := 8) rfl
    go_wp2_with fail
    clear z8
    refine (unhide K10 _ ((unhide HR4).below (unhide HAL).1)).mono ?_
    rintro e V10 ⟨rfl, b_⟩
    replace HAL := hide (al_below (unhide HAL) b_)
    clear b_
    go_wp2_with fail
    go_ret
    exact ⟨rfl, (unhide HAL).1⟩
  cases h11 : Tp.topB ss es
  · have hv : rtrB x1 x2 x3 x4 x5 x6 ls tw se du ss es la = false := by unfold rtrB; rw [h1, h2, h3, h4, h5, h6, h7, h8, h9, h10, h11]; rfl
    rw [hv]
    clear hv
    rw [h7] at K7
    rw [h8] at K8
    rw [h9] at K9
    rw [h10] at K10
    rw [h11] at K11
    clear h7 h8 h9 h10 h11
    go_enter Tryz.func80, Tryz.ntmps80
    go_wp2_with (first | (go_at_call 101; refine (isAddress _ _).mono ?_; rintro e w_ ⟨rfl, rfl⟩) | (go_at_call 102; refine (Ln.isWill _ _).mono ?_; rintro e w_ ⟨rfl, rfl⟩) | (go_at_call 103; refine (isSeq _ _).mono ?_; rintro e w_ ⟨rfl, rfl⟩) | (go_at_call 43; refine (within _ _ _ _).mono ?_; rintro e w_ ⟨rfl, rfl⟩))
    clear h1 h2 h3 h4 h5 h6
    generalize hW0 : w.alloc (.cells #[.int .i64 x1, .int .i64 x2, .int .i64 x3, .int .i64 x4, .int .i64 x5, .slice a1 ls.length c1, .slice a2 tw.length c2, .slice a3 se.length c3, .slice a4 du.length c4, .slice a5 ss.length c5, .slice a6 es.length c6, .slice a7 la.length c7, .int .i64 x6] 80) = W0 at *
    clear hW0
    refine (unhide K7 _ ((unhide HR1).below (unhide HAL).1)).mono ?_
    rintro e V7 ⟨rfl, b_⟩
    replace HAL := hide (al_below (unhide HAL) b_)
    clear b_
    have z0 := (unhide HAL).2.at (i := 0) rfl
    have z6 := (unhide HAL).2.at (i := 6) rfl
    go_wp2_with fail
    clear z0 z6
    refine (unhide K8 _ ((unhide HR2).below (unhide HAL).1)).mono ?_
    rintro e V8 ⟨rfl, b_⟩
    replace HAL := hide (al_below (unhide HAL) b_)
    clear b_
    have z7 := (unhide HAL).2.at (i := 7) rfl
    go_wp2_with fail
    clear z7
    refine (unhide K9 _ ((unhide HR3).below (unhide HAL).1)).mono ?_
    rintro e V9 ⟨rfl, b_⟩
    replace HAL := hide (al_below (unhide HAL) b_)
    clear b_
    have z8 := (unhide HAL).2.at (i := 8) rfl
    go_wp2_with fail
    clear z8
    refine (unhide K10 _ ((unhide HR4).below (unhide HAL).1)).mono ?_
    rintro e V10 ⟨rfl, b_⟩
    replace HAL := hide (al_below (unhide HAL) b_)
    clear b_
    have z9 := (unhide HAL).2.at (i := 9) rfl
    have z10 := (unhide HAL).2.at (i := 10) rfl
    go_wp2_with fail
    clear z9 z10
    refine (unhide K11 _ ((unhide HR5).below (unhide HAL).1) ((unhide HR6).below (unhide HAL).1)).mono ?_
    rintro e V11 ⟨rfl, b_⟩
    replace HAL := hide (al_below (unhide HAL) b_)
    clear b_
    go_wp2_with fail
    go_ret
    exact ⟨rfl, (unhide HAL).1⟩
  have K12 := hide (fun W h => Tp.hasSource a5 ss c5 x1 W h (Tp.up_src (Tp.top_src h11)) (by have := Tp.src_len (Tp.top_src h11); omega))
  cases h12 : Tp.hasS ss x1
  rotate_left
  · have hv : rtrB x1 x2 x3 x4 x5 x6 ls tw se du ss es la = false := by unfold rtrB; rw [h1, h2, h3, h4, h5, h6, h7, h8, h9, h10, h11, h12]; rfl
    rw [hv]
    clear hv
    rw [h7] at K7
    rw [h8] at K8
    rw [h9] at K9
    rw [h10] at K10
    rw [h11] at K11
    rw [h12] at K12
    clear h7 h8 h9 h10 h11 h12
    go_enter Tryz.func80, Tryz.ntmps80
    go_wp2_with (first | (go_at_call 101; refine (isAddress _ _).mono ?_; rintro e w_ ⟨rfl, rfl⟩) | (go_at_call 102; refine (Ln.isWill _ _).mono ?_; rintro e w_ ⟨rfl, rfl⟩) | (go_at_call 103; refine (isSeq _ _).mono ?_; rintro e w_ ⟨rfl, rfl⟩) | (go_at_call 43; refine (within _ _ _ _).mono ?_; rintro e w_ ⟨rfl, rfl⟩))
    clear h1 h2 h3 h4 h5 h6
    generalize hW0 : w.alloc (.cells #[.int .i64 x1, .int .i64 x2, .int .i64 x3, .int .i64 x4, .int .i64 x5, .slice a1 ls.length c1, .slice a2 tw.length c2, .slice a3 se.length c3, .slice a4 du.length c4, .slice a5 ss.length c5, .slice a6 es.length c6, .slice a7 la.length c7, .int .i64 x6] 80) = W0 at *
    clear hW0
    refine (unhide K7 _ ((unhide HR1).below (unhide HAL).1)).mono ?_
    rintro e V7 ⟨rfl, b_⟩
    replace HAL := hide (al_below (unhide HAL) b_)
    clear b_
    have z0 := (unhide HAL).2.at (i := 0) rfl
    have z6 := (unhide HAL).2.at (i := 6) rfl
    go_wp2_with fail
    clear z0 z6
    refine (unhide K8 _ ((unhide HR2).below (unhide HAL).1)).mono ?_
    rintro e V8 ⟨rfl, b_⟩
    replace HAL := hide (al_below (unhide HAL) b_)
    clear b_
    have z7 := (unhide HAL).2.at (i := 7) rfl
    go_wp2_with fail
    clear z7
    refine (unhide K9 _ ((unhide HR3).below (unhide HAL).1)).mono ?_
    rintro e V9 ⟨rfl, b_⟩
    replace HAL := hide (al_below (unhide HAL) b_)
    clear b_
    have z8 := (unhide HAL).2.at (i := 8) rfl
    go_wp2_with fail
    clear z8
    refine (unhide K10 _ ((unhide HR4).below (unhide HAL).1)).mono ?_
    rintro e V10 ⟨rfl, b_⟩
    replace HAL := hide (al_below (unhide HAL) b_)
    clear b_
    have z9 := (unhide HAL).2.at (i := 9) rfl
    have z10 := (unhide HAL).2.at (i := 10) rfl
    go_wp2_with fail
    clear z9 z10
    refine (unhide K11 _ ((unhide HR5).below (unhide HAL).1) ((unhide HR6).below (unhide HAL).1)).mono ?_
    rintro e V11 ⟨rfl, b_⟩
    replace HAL := hide (al_below (unhide HAL) b_)
    clear b_
    have z9 := (unhide HAL).2.at (i := 9) rfl
    have z0 := (unhide HAL).2.at (i := 0) rfl
    go_wp2_with fail
    clear z9 z0
    refine (unhide K12 _ ((unhide HR5).below (unhide HAL).1)).mono ?_
    rintro e V12 ⟨rfl, b_⟩
    replace HAL := hide (al_below (unhide HAL) b_)
    clear b_
    go_wp2_with fail
    go_ret
    exact ⟨rfl, (unhide HAL).1⟩
  cases h13 : Av.allN la la.length
  · have hv : rtrB x1 x2 x3 x4 x5 x6 ls tw se du ss es la = false := by unfold rtrB; rw [h1, h2, h3, h4, h5, h6, h7, h8, h9, h10, h11, h12, h13]; rfl
    rw [hv]
    clear hv
    rw [h7] at K7
    rw [h8] at K8
    rw [h9] at K9
    rw [h10] at K10
    rw [h11] at K11
    rw [h12] at K12
    rw [h13] at K13
    clear h7 h8 h9 h10 h11 h12 h13
    go_enter Tryz.func80, Tryz.ntmps80
    go_wp2_with (first | (go_at_call 101; refine (isAddress _ _).mono ?_; rintro e w_ ⟨rfl, rfl⟩) | (go_at_call 102; refine (Ln.isWill _ _).mono ?_; rintro e w_ ⟨rfl, rfl⟩) | (go_at_call 103; refine (isSeq _ _).mono ?_; rintro e w_ ⟨rfl, rfl⟩) | (go_at_call 43; refine (within _ _ _ _).mono ?_; rintro e w_ ⟨rfl, rfl⟩))
    clear h1 h2 h3 h4 h5 h6
    generalize hW0 : w.alloc (.cells #[.int .i64 x1, .int .i64 x2, .int .i64 x3, .int .i64 x4, .int .i64 x5, .slice a1 ls.length c1, .slice a2 tw.length c2, .slice a3 se.length c3, .slice a4 du.length c4, .slice a5 ss.length c5, .slice a6 es.length c6, .slice a7 la.length c7, .int .i64 x6] 80) = W0 at *
    clear hW0
    refine (unhide K7 _ ((unhide HR1).below (unhide HAL).1)).mono ?_
    rintro e V7 ⟨rfl, b_⟩
    replace HAL := hide (al_below (unhide HAL) b_)
    clear b_
    have z0 := (unhide HAL).2.at (i := 0) rfl
    have z6 := (unhide HAL).2.at (i := 6) rfl
    go_wp2_with fail
    clear z0 z6
    refine (unhide K8 _ ((unhide HR2).below (unhide HAL).1)).mono ?_
    rintro e V8 ⟨rfl, b_⟩
    replace HAL := hide (al_below (unhide HAL) b_)
    clear b_
    have z7 := (unhide HAL).2.at (i := 7) rfl
    go_wp2_with fail
    clear z7
    refine (unhide K9 _ ((unhide HR3).below (unhide HAL).1)).mono ?_
    rintro e V9 ⟨rfl, b_⟩
    replace HAL := hide (al_below (unhide HAL) b_)
    clear b_
    have z8 := (unhide HAL).2.at (i := 8) rfl
    go_wp2_with fail
    clear z8
    refine (unhide K10 _ ((unhide HR4).below (unhide HAL).1)).mono ?_
    rintro e V10 ⟨rfl, b_⟩
    replace HAL := hide (al_below (unhide HAL) b_)
    clear b_
    have z9 := (unhide HAL).2.at (i := 9) rfl
    have z10 := (unhide HAL).2.at (i := 10) rfl
    go_wp2_with fail
    clear z9 z10
    refine (unhide K11 _ ((unhide HR5).below (unhide HAL).1) ((unhide HR6).below (unhide HAL).1)).mono ?_
    rintro e V11 ⟨rfl, b_⟩
    replace HAL := hide (al_below (unhide HAL) b_)
    clear b_
    have z9 := (unhide HAL).2.at (i := 9) rfl
    have z0 := (unhide HAL).2.at (i := 0) rfl
    go_wp2_with fail
    clear z9 z0
    refine (unhide K12 _ ((unhide HR5).below (unhide HAL).1)).mono ?_
    rintro e V12 ⟨rfl, b_⟩
    replace HAL := hide (al_below (unhide HAL) b_)
    clear b_
    have z11 := (unhide HAL).2.at (i := 11) rfl
    go_wp2_with fail
    clear z11
    refine (unhide K13 _ ((unhide HR7).below (unhide HAL).1)).mono ?_
    rintro e V13 ⟨rfl, b_⟩
    replace HAL := hide (al_below (unhide HAL) b_)
    clear b_
    go_wp2_with fail
    go_ret
    exact ⟨rfl, (unhide HAL).1⟩
  have hv : rtrB x1 x2 x3 x4 x5 x6 ls tw se du ss es la = true := by unfold rtrB; rw [h1, h2, h3, h4, h5, h6, h7, h8, h9, h10, h11, h12, h13]; rfl
  rw [hv]
  clear hv
  rw [h7] at K7
  rw [h8] at K8
  rw [h9] at K9
  rw [h10] at K10
  rw [h11] at K11
  rw [h12] at K12
  rw [h13] at K13
  clear h7 h8 h9 h10 h11 h12 h13
  go_enter Tryz.func80, Tryz.ntmps80
  go_wp2_with (first | (go_at_call 101; refine (isAddress _ _).mono ?_; rintro e w_ ⟨rfl, rfl⟩) | (go_at_call 102; refine (Ln.isWill _ _).mono ?_; rintro e w_ ⟨rfl, rfl⟩) | (go_at_call 103; refine (isSeq _ _).mono ?_; rintro e w_ ⟨rfl, rfl⟩) | (go_at_call 43; refine (within _ _ _ _).mono ?_; rintro e w_ ⟨rfl, rfl⟩))
  clear h1 h2 h3 h4 h5 h6
  generalize hW0 : w.alloc (.cells #[.int .i64 x1, .int .i64 x2, .int .i64 x3, .int .i64 x4, .int .i64 x5, .slice a1 ls.length c1, .slice a2 tw.length c2, .slice a3 se.length c3, .slice a4 du.length c4, .slice a5 ss.length c5, .slice a6 es.length c6, .slice a7 la.length c7, .int .i64 x6] 80) = W0 at *
  clear hW0
  refine (unhide K7 _ ((unhide HR1).below (unhide HAL).1)).mono ?_
  rintro e V7 ⟨rfl, b_⟩
  replace HAL := hide (al_below (unhide HAL) b_)
  clear b_
  have z0 := (unhide HAL).2.at (i := 0) rfl
  have z6 := (unhide HAL).2.at (i := 6) rfl
  go_wp2_with fail
  clear z0 z6
  refine (unhide K8 _ ((unhide HR2).below (unhide HAL).1)).mono ?_
  rintro e V8 ⟨rfl, b_⟩
  replace HAL := hide (al_below (unhide HAL) b_)
  clear b_
  have z7 := (unhide HAL).2.at (i := 7) rfl
  go_wp2_with fail
  clear z7
  refine (unhide K9 _ ((unhide HR3).below (unhide HAL).1)).mono ?_
  rintro e V9 ⟨rfl, b_⟩
  replace HAL := hide (al_below (unhide HAL) b_)
  clear b_
  have z8 := (unhide HAL).2.at (i := 8) rfl
  go_wp2_with fail
  clear z8
  refine (unhide K10 _ ((unhide HR4).below (unhide HAL).1)).mono ?_
  rintro e V10 ⟨rfl, b_⟩
  replace HAL := hide (al_below (unhide HAL) b_)
  clear b_
  have z9 := (unhide HAL).2.at (i := 9) rfl
  have z10 := (unhide HAL).2.at (i := 10) rfl
  go_wp2_with fail
  clear z9 z10
  refine (unhide K11 _ ((unhide HR5).below (unhide HAL).1) ((unhide HR6).below (unhide HAL).1)).mono ?_
  rintro e V11 ⟨rfl, b_⟩
  replace HAL := hide (al_below (unhide HAL) b_)
  clear b_
  have z9 := (unhide HAL).2.at (i := 9) rfl
  have z0 := (unhide HAL).2.at (i := 0) rfl
  go_wp2_with fail
  clear z9 z0
  refine (unhide K12 _ ((unhide HR5).below (unhide HAL).1)).mono ?_
  rintro e V12 ⟨rfl, b_⟩
  replace HAL := hide (al_below (unhide HAL) b_)
  clear b_
  have z11 := (unhide HAL).2.at (i := 11) rfl
  go_wp2_with fail
  clear z11
  refine (unhide K13 _ ((unhide HR7).below (unhide HAL).1)).mono ?_
  rintro e V13 ⟨rfl, b_⟩
  replace HAL := hide (al_below (unhide HAL) b_)
  clear b_
  go_wp2_with fail
  go_ret
  exact ⟨rfl, (unhide HAL).1⟩
end Rt
end Go.Proofs.YthfcigfgpimimaaGreat
