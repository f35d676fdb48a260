/-
  Of the texts TopC, LnkC, SetG, SetP, SetK, SetX, SetY, SetGc, SetYc, GraS, LnkI, Nums, Tim, AdvM, AdvC, RtrO, NetM, RtrM, RtrL, NetW: what this claim needs of them. (put together by mkprune.py)
-/
import Derived.Test.YtfooahhdikobeaaGreatQr3
import Derived.Deep.DeepCutAuto
import Derived.Lib.AppendZeros
import Derived.Laws.NewBlocks
import Derived.Test.YtfooahhdikobeaaGreatShelf
import Derived.Lib.ItoaNum
import Derived.Laws.BitsAllLaws
import Derived.Laws.Shifts
import Derived.Deep.QuietTactic
import Derived.BigQuiet
namespace Go.Proofs.YtfooahhdikobeaaGreat
open Go.ChangeShapes Go.WideShapes Go.ChangeAt Go.RowKit
set_option linter.unusedVariables false
set_option linter.unusedSimpArgs false
set_option maxRecDepth 100000
attribute [local go_sem ↓] Go.wp_at_zero Go.wp_at_succ
namespace Tp
open W1 Tu St Tw
theorem sS1 {w : World} {g o B : Nat} {ad an til : Int} {x y : Value} (h : So.At w g o ⟨ad, an, til⟩) (hB : Bx2 w B x y) : (So.At w g o ⟨ad, an, til⟩ ∧ Bx2 w B x y) ∧ w.cell? ⟨g, o, none⟩ = some (.int .i64 ad) ∧ w.cell? ⟨g, o + 1, none⟩ = some (.int .i64 an) ∧ w.cell? ⟨g, o + 2, none⟩ = some (.int .i64 til) ∧ w.cell? ⟨B, 0, none⟩ = some x := ⟨⟨h, hB⟩, h.1, h.2.1, h.2.2, hB.1⟩
theorem sS2 {w : World} {g o p B : Nat} {ad an til : Int} {m : So.R} {x y : Value} (h : So.At w g o ⟨ad, an, til⟩) (h' : So.At w g p m) (hB : Bx2 w B x y) : ((So.At w g o ⟨ad, an, til⟩ ∧ So.At w g p m) ∧ Bx2 w B x y) ∧ w.cell? ⟨g, o, none⟩ = some (.int .i64 ad) ∧ w.cell? ⟨g, o + 1, none⟩ = some (.int .i64 an) ∧ w.cell? ⟨g, o + 2, none⟩ = some (.int .i64 til) ∧ w.cell? ⟨g, p, none⟩ = some (.int .i64 m.ad) ∧ w.cell? ⟨B, 0, none⟩ = some x := ⟨⟨⟨h, h'⟩, hB⟩, h.1, h.2.1, h.2.2, h'.1, hB.1⟩
theorem sE1 {w : World} {g o B : Nat} {m : R} {x y : Value} (h : Tu.At w g o m) (hB : Bx2 w B x y) : (Tu.At w g o m ∧ Bx2 w B x y) ∧ w.cell? ⟨g, o, none⟩ = some (.int .i64 m.key) ∧ w.cell? ⟨B, 0, none⟩ = some x ∧ w.cell? ⟨B, 1, none⟩ = some y := ⟨⟨h, hB⟩, h.1, hB.1, hB.2⟩
set_option maxHeartbeats 8000000 in
theorem specOK (a : Option Addr) (ss : List So.R) (ca : Nat) (b : Option Addr) (es : List R) (cb : Nat) (w : World) (hm : ss.length ≤ 1048576) (hl : es.length ≤ 1048576) (hr : So.RM w a ss) (hr' : RM w b es) :
    Calls Tryz.prog 137 #[.agg #[.slice a ss.length ca, .slice b es.length cb]] w fun e w' => e = .returned (.bool (topB ss es)) ∧ Below w.heap.size w w' := by
  obtain ⟨A, hA⟩ : ∃ A, topB ss es = A := ⟨_, rfl⟩
  have HTA := hide hA
  rw [hA]
  clear hA
  obtain ⟨n, hN⟩ : ∃ n, es.length = n := ⟨_, rfl⟩
  have HN := hide hN
  obtain ⟨k, hK⟩ : ∃ k, ss.length = k := ⟨_, rfl⟩
  have HK := hide hK
  rw [hN, hK]
  rw [hN] at hl
  rw [hK] at hm
  clear hN hK
  have HA : Hid (Below w.heap.size w (w.alloc (.cells #[.slice a k ca, .slice b n cb] 80))) := hide ((Below.refl _ _).alloc (Nat.le_refl _) _)
  have HX : Hid (Bx2 (w.alloc (.cells #[.slice a k ca, .slice b n cb] 80)) w.heap.size (.slice a k ca) (.slice b n cb)) := hide (bx2_new w _ _ _)
  have HR := hide (hr.below (unhide HA))
  have HE := hide (hr'.below (unhide HA))
  have hxw : w.heap.size < (w.alloc (.cells #[.slice a k ca, .slice b n cb] 80)).heap.size := by simp
  clear hr hr'
  go_enter Tryz.func137, Tryz.ntmps137
  go_wp2_with fail
  generalize hW : w.alloc (.cells #[.slice a k ca, .slice b n cb] 80) = W0 at *
  clear hW
  go_loopw [3] (fun i wr => ∃ j : Nat, j ≤ k ∧ i = .int .i64 j ∧ Hid (allS ss j = true) ∧ Hid (Below W0.heap.size W0 wr)) (fun i _ => k - (intOf i).toNat)
  case atStart => exact ⟨0, by omega, rfl, hide Ri.all_zero, hide (Below.refl _ _)⟩
  case round =>
    obtain ⟨j, hj, rfl, hrl, hbl⟩ := hrel
    have HXr := hide ((unhide HX).below (unhide hbl))
    obtain ⟨z0, z1⟩ := unhide HXr
    by_cases hlt : (j : Int) < (k : Int)
    · have k0 : (0 : Int) ≤ (j : Int) := by omega
      have hlen : j < ss.length := by rw [unhide HK]; omega
      obtain ⟨g, off, rfl⟩ := (unhide HR).form (by omega)
      have hc := fun i (hi : i < ss.length) => ((unhide HR).below (unhide hbl)).at hi
      have HL := hide hlen
      have hA := hc j hlen
      cases hk : okS (ss.getD j So.R.zero)
      · clear hc
        have HST : Hid (A = false) := hide (by rw [← unhide HTA]; exact top_nosrc (Ri.all_no hlen (Ri.step_bad (key := So.R.ad) hk)))
        have HKK := hide hk
        clear hk
        generalize ss.getD j So.R.zero = m at *
        obtain ⟨ad, an, til⟩ := m
        go_wp2_with fail
        refine wp_region_noPanic ?_
        refine wp_region_held_drew (S := fun w' => (So.At w' g (off + j * 3) ⟨ad, an, til⟩ ∧ Bx2 w' w.heap.size (.slice (some ⟨g, off, none⟩) k ca) (.slice b n cb)) ∧ w'.cell? ⟨g, off + j * 3, none⟩ = some (.int .i64 ad) ∧ w'.cell? ⟨g, off + j * 3 + 1, none⟩ = some (.int .i64 an) ∧ w'.cell? ⟨g, off + j * 3 + 2, none⟩ = some (.int .i64 til) ∧ w'.cell? ⟨w.heap.size, 0, none⟩ = some (.slice (some ⟨g, off, none⟩) k ca)) (by kernel_rfl) (sS1 (hA.drew) ((unhide HXr).drew)) (fun hHeld => ?_)
        refine Rg.t 0 14 ?_
        refine Rg.t 1 15 ?_
        refine Rg.t 2 16 ?_
        refine Rg.t 3 17 ?_
        refine Rg.t 4 18 ?_
        (refine Rg.o 5 (fun K hK => ?_); go_simp)
        refine (l09Source ad an til _).mono ?_
        rintro e w4 ⟨rfl, b4⟩
        rw [unhide HKK]
        refine hK.out _ _ (sS1 (hA.drew.below b4) ((unhide HXr).drew.below b4)) (fun hHeld => ?_)
        clear hK K
        (try simp only [Act.put, List.setIfInBounds_toArray, List.set_cons_zero, List.set_cons_succ])
        refine Rg.t 6 20 ?_
        refine Rg.t 7 21 ?_
        refine Rg.s 8 22 ?_
        refine Rg.s 9 23 ?_
        refine Rg.s 10 24 ?_
        refine Rg.s 11 25 ?_
        refine Rg.s 12 26 ?_
        refine Rg.s 13 27 ?_
        refine Rg.s 14 28 ?_
        refine Rg.s 15 29 ?_
        refine Rg.s 16 30 ?_
        refine Rg.s 17 31 ?_
        refine Rg.s 18 32 ?_
        refine Rg.s 19 33 ?_
        refine Rg.s 20 34 ?_
        refine Rg.s 21 35 ?_
        refine Rg.s 22 36 ?_
        refine Rg.s 23 37 ?_
        refine Rg.s 24 38 ?_
        refine Rg.s 25 39 ?_
        refine Rg.t 26 40 ?_
        refine wpAnyH_done (by kernel_rfl) (NoPanic.normal ?_) _
        have hb4 := hide ((unhide hbl).drew.trans (b4.mono (by show W0.heap.size ≤ wr.heap.size; exact (unhide hbl).size)))
        clear b4 hHeld
        obtain ⟨z0, z1⟩ := (unhide HX).below (unhide hb4)
        go_wp2_with fail
        go_ret
        exact ⟨ret_bool (unhide HST).symm, (unhide HA).trans ((unhide hb4).mono (unhide HA).size)⟩
      have HKK := hide hk
      clear hk
      by_cases hj0 : j = 0
      · subst hj0
        clear hc
        rw [Nat.zero_mul, Nat.add_zero] at hA
        have HST := hide (Ri.all_succ (unhide hrl) (Ri.step_zero (key := So.R.ad) (unhide HKK)))
        generalize ss.getD 0 So.R.zero = m at *
        obtain ⟨ad, an, til⟩ := m
        go_wp2_with fail
        refine wp_region_noPanic ?_
        refine wp_region_held_drew (S := fun w' => (So.At w' g off ⟨ad, an, til⟩ ∧ Bx2 w' w.heap.size (.slice (some ⟨g, off, none⟩) k ca) (.slice b n cb)) ∧ w'.cell? ⟨g, off, none⟩ = some (.int .i64 ad) ∧ w'.cell? ⟨g, off + 1, none⟩ = some (.int .i64 an) ∧ w'.cell? ⟨g, off + 2, none⟩ = some (.int .i64 til) ∧ w'.cell? ⟨w.heap.size, 0, none⟩ = some (.slice (some ⟨g, off, none⟩) k ca)) (by kernel_rfl) (sS1 (hA.drew) ((unhide HXr).drew)) (fun hHeld => ?_)
        refine Rg.t 0 14 ?_
        refine Rg.t 1 15 ?_
        refine Rg.t 2 16 ?_
        refine Rg.t 3 17 ?_
        refine Rg.t 4 18 ?_
        (refine Rg.o 5 (fun K hK => ?_); go_simp)
        refine (l09Source ad an til _).mono ?_
        rintro e w4 ⟨rfl, b4⟩
        rw [unhide HKK]
        refine hK.out _ _ (sS1 (hA.drew.below b4) ((unhide HXr).drew.below b4)) (fun hHeld => ?_)
        clear hK K
        (try simp only [Act.put, List.setIfInBounds_toArray, List.set_cons_zero, List.set_cons_succ])
        refine Rg.t 6 20 ?_
        refine Rg.t 7 21 ?_
        refine Rg.t 8 22 ?_
        refine Rg.t 9 23 ?_
        refine Rg.t 10 24 ?_
        refine Rg.s 11 25 ?_
        refine Rg.s 12 26 ?_
        refine Rg.s 13 27 ?_
        refine Rg.s 14 28 ?_
        refine Rg.s 15 29 ?_
        refine Rg.s 16 30 ?_
        refine Rg.s 17 31 ?_
        refine Rg.s 18 32 ?_
        refine Rg.s 19 33 ?_
        refine Rg.s 20 34 ?_
        refine Rg.s 21 35 ?_
        refine Rg.s 22 36 ?_
        refine Rg.s 23 37 ?_
        refine Rg.s 24 38 ?_
        refine Rg.t 25 39 ?_
        refine Rg.t 26 40 ?_
        refine wpAnyH_done (by kernel_rfl) (NoPanic.normal ?_) _
        have hb4 := hide ((unhide hbl).drew.trans (b4.mono (by show W0.heap.size ≤ wr.heap.size; exact (unhide hbl).size)))
        clear b4 hHeld
        obtain ⟨z0, z1⟩ := (unhide HX).below (unhide hb4)
        go_wp2_with fail
        go_roundw
        case rel => exact ⟨0 + 1, by omega, by go_num, HST, hb4⟩
        case measure => simp [intOf]; omega
      · obtain ⟨i, hji⟩ : ∃ i, j = i + 1 := ⟨j - 1, by omega⟩
        have HJ := hide hji
        have e1 : (j : Int) - 1 = (i : Int) := by omega
        have i0 : (0 : Int) ≤ (i : Int) := by omega
        have wi : IntKind.i64.wrap (i : Int) = (i : Int) := by rw [IntKind.wrap_i64]; omega
        have i1 : (i : Int) < (k : Int) := by omega
        have j1 : (0 : Int) < (j : Int) := by omega
        have j2 : 0 < j := by omega
        have hP := hc i (by have := unhide HL; omega)
        have EJ : ss.getD j So.R.zero = ss.getD (i + 1) So.R.zero := by rw [hji]
        clear hc hji
        by_cases hk : (ss.getD i So.R.zero).ad < (ss.getD j So.R.zero).ad
        · have HST : Hid (allS ss (j + 1) = true) := hide (Ri.all_succ (unhide hrl) (by rw [unhide HJ]; exact Ri.step_lt (by rw [← EJ]; exact unhide HKK) (by rw [← EJ]; exact hk)))
          clear EJ
          generalize ss.getD j So.R.zero = m at *
          generalize ss.getD i So.R.zero = m0 at *
          obtain ⟨ad, an, til⟩ := m
          obtain ⟨ad0, an0, til0⟩ := m0
          dsimp only at hk
          go_wp2_with fail
          refine wp_region_noPanic ?_
          refine wp_region_held_drew (S := fun w' => ((So.At w' g (off + j * 3) ⟨ad, an, til⟩ ∧ So.At w' g (off + i * 3) ⟨ad0, an0, til0⟩) ∧ Bx2 w' w.heap.size (.slice (some ⟨g, off, none⟩) k ca) (.slice b n cb)) ∧ w'.cell? ⟨g, off + j * 3, none⟩ = some (.int .i64 ad) ∧ w'.cell? ⟨g, off + j * 3 + 1, none⟩ = some (.int .i64 an) ∧ w'.cell? ⟨g, off + j * 3 + 2, none⟩ = some (.int .i64 til) ∧ w'.cell? ⟨g, off + i * 3, none⟩ = some (.int .i64 ad0) ∧ w'.cell? ⟨w.heap.size, 0, none⟩ = some (.slice (some ⟨g, off, none⟩) k ca)) (by kernel_rfl) (sS2 (hA.drew) (hP.drew) ((unhide HXr).drew)) (fun hHeld => ?_)
          refine Rg.t 0 14 ?_
          refine Rg.t 1 15 ?_
          refine Rg.t 2 16 ?_
          refine Rg.t 3 17 ?_
          refine Rg.t 4 18 ?_
          (refine Rg.o 5 (fun K hK => ?_); go_simp)
          refine (l09Source ad an til _).mono ?_
          rintro e w4 ⟨rfl, b4⟩
          rw [unhide HKK]
          refine hK.out _ _ (sS2 (hA.drew.below b4) (hP.drew.below b4) ((unhide HXr).drew.below b4)) (fun hHeld => ?_)
          clear hK K
          (try simp only [Act.put, List.setIfInBounds_toArray, List.set_cons_zero, List.set_cons_succ])
          refine Rg.t 6 20 ?_
          refine Rg.t 7 21 ?_
          refine Rg.t 8 22 ?_
          refine Rg.t 9 23 ?_
          refine Rg.t 10 24 ?_
          refine Rg.t 11 25 ?_
          refine Rg.t 12 26 ?_
          refine Rg.t 13 27 ?_
          refine Rg.t 14 28 ?_
          refine Rg.t 15 29 ?_
          refine Rg.t 16 30 ?_
          refine Rg.t 17 31 ?_
          refine Rg.t 18 32 ?_
          refine Rg.t 19 33 ?_
          refine Rg.t 20 34 ?_
          refine Rg.t 21 35 ?_
          refine Rg.t 22 36 ?_
          refine Rg.t 23 37 ?_
          refine Rg.t 24 38 ?_
          refine Rg.t 25 39 ?_
          refine Rg.t 26 40 ?_
          refine wpAnyH_done (by kernel_rfl) (NoPanic.normal ?_) _
          have hb4 := hide ((unhide hbl).drew.trans (b4.mono (by show W0.heap.size ≤ wr.heap.size; exact (unhide hbl).size)))
          clear b4 hHeld
          obtain ⟨z0, z1⟩ := (unhide HX).below (unhide hb4)
          go_wp2_with fail
          go_roundw
          case rel => exact ⟨j + 1, by omega, by go_num, HST, hb4⟩
          case measure => simp [intOf]; omega
        · have HST : Hid (A = false) := hide (by rw [← unhide HTA]; exact top_nosrc (Ri.all_no (unhide HL) (show Ri.step So.R.zero okS So.R.ad ss j = false by rw [unhide HJ]; exact Ri.step_ge (by rw [← EJ]; omega))))
          clear EJ
          generalize ss.getD j So.R.zero = m at *
          generalize ss.getD i So.R.zero = m0 at *
          obtain ⟨ad, an, til⟩ := m
          obtain ⟨ad0, an0, til0⟩ := m0
          dsimp only at hk
          go_wp2_with fail
          refine wp_region_noPanic ?_
          refine wp_region_held_drew (S := fun w' => ((So.At w' g (off + j * 3) ⟨ad, an, til⟩ ∧ So.At w' g (off + i * 3) ⟨ad0, an0, til0⟩) ∧ Bx2 w' w.heap.size (.slice (some ⟨g, off, none⟩) k ca) (.slice b n cb)) ∧ w'.cell? ⟨g, off + j * 3, none⟩ = some (.int .i64 ad) ∧ w'.cell? ⟨g, off + j * 3 + 1, none⟩ = some (.int .i64 an) ∧ w'.cell? ⟨g, off + j * 3 + 2, none⟩ = some (.int .i64 til) ∧ w'.cell? ⟨g, off + i * 3, none⟩ = some (.int .i64 ad0) ∧ w'.cell? ⟨w.heap.size, 0, none⟩ = some (.slice (some ⟨g, off, none⟩) k ca)) (by kernel_rfl) (sS2 (hA.drew) (hP.drew) ((unhide HXr).drew)) (fun hHeld => ?_)
          refine Rg.t 0 14 ?_
          refine Rg.t 1 15 ?_
          refine Rg.t 2 16 ?_
          refine Rg.t 3 17 ?_
          refine Rg.t 4 18 ?_
          (refine Rg.o 5 (fun K hK => ?_); go_simp)
          refine (l09Source ad an til _).mono ?_
          rintro e w4 ⟨rfl, b4⟩
          rw [unhide HKK]
          refine hK.out _ _ (sS2 (hA.drew.below b4) (hP.drew.below b4) ((unhide HXr).drew.below b4)) (fun hHeld => ?_)
          clear hK K
          (try simp only [Act.put, List.setIfInBounds_toArray, List.set_cons_zero, List.set_cons_succ])
          refine Rg.t 6 20 ?_
          refine Rg.t 7 21 ?_
          refine Rg.t 8 22 ?_
          refine Rg.t 9 23 ?_
          refine Rg.t 10 24 ?_
          refine Rg.t 11 25 ?_
          refine Rg.t 12 26 ?_
          refine Rg.t 13 27 ?_
          refine Rg.t 14 28 ?_
          refine Rg.t 15 29 ?_
          refine Rg.t 16 30 ?_
          refine Rg.t 17 31 ?_
          refine Rg.t 18 32 ?_
          refine Rg.t 19 33 ?_
          refine Rg.t 20 34 ?_
          refine Rg.t 21 35 ?_
          refine Rg.t 22 36 ?_
          refine Rg.t 23 37 ?_
          refine Rg.t 24 38 ?_
          refine Rg.t 25 39 ?_
          refine Rg.t 26 40 ?_
          refine wpAnyH_done (by kernel_rfl) (NoPanic.normal ?_) _
          have hb4 := hide ((unhide hbl).drew.trans (b4.mono (by show W0.heap.size ≤ wr.heap.size; exact (unhide hbl).size)))
          clear b4 hHeld
          obtain ⟨z0, z1⟩ := (unhide HX).below (unhide hb4)
          go_wp2_with fail
          go_ret
          exact ⟨ret_bool (unhide HST).symm, (unhide HA).trans ((unhide hb4).mono (unhide HA).size)⟩
    · obtain rfl : j = k := by omega
      have hok : srcB ss = true := by unfold srcB; rw [unhide HK]; exact unhide hrl
      have h8 := src_len hok
      have h8' : (j : Int) ≤ 8 := by have := unhide HK; omega
      have HS := hide hok
      clear hok h8 hrl
      have HBX := hide ((unhide HA).trans ((unhide hbl).mono (unhide HA).size))
      have HR1 := hide ((unhide HR).below (unhide hbl))
      have HE1 := hide ((unhide HE).below (unhide hbl))
      clear HR HE HX HA hbl
      generalize hwq : wr = wq at *
      clear hwq
      go_wp2_with fail
      clear z0 z1
      go_loopw [4] (fun i wr => ∃ t : Nat, t ≤ n ∧ i = .int .i64 t ∧ Hid (edgB ss es t = true ∨ twoB es = false) ∧ Hid (Below wq.heap.size wq wr)) (fun i _ => n - (intOf i).toNat)
      case atStart => exact ⟨0, by omega, rfl, hide (.inl (edg_zero ss es)), hide (Below.refl _ _)⟩
      case round =>
        obtain ⟨t, ht, rfl, hed, hbl⟩ := hrel
        have HXr2 := hide ((unhide HXr).below (unhide hbl))
        obtain ⟨z0, z1⟩ := unhide HXr2
        have HBW := hide ((unhide HBX).trans ((unhide hbl).mono (unhide HBX).size))
        by_cases hlt : (t : Int) < (n : Int)
        · have k0 : (0 : Int) ≤ (t : Int) := by omega
          have hlen : t < es.length := by rw [unhide HN]; omega
          obtain ⟨g, off, rfl⟩ := (unhide HE1).form (by omega)
          have hA := ((unhide HE1).below (unhide hbl)).at hlen
          have HAt := hide hA
          have HR2 := hide ((unhide HR1).below (unhide hbl))
          obtain ⟨v, hv'⟩ : ∃ v, IntKind.i64.wrap ((es.getD t R.zero).key.tdiv 100) = v := ⟨_, rfl⟩
          obtain ⟨HF, HC⟩ := edge_check (ss := ss) hlen hv' (unhide hed)
          rw [unhide HTA] at HF
          have HF := hide HF
          have HC := hide HC
          generalize es.getD t R.zero = m at *
          obtain ⟨key, til, val⟩ := m
          obtain ⟨c0, c1, c2⟩ := hA
          dsimp only at c0 c1 c2 hv' HF HC
          obtain ⟨E, hE⟩ : ∃ E, hasS ss v = E := ⟨_, rfl⟩
          have HE2 := hide hE
          rw [hE] at HF HC
          clear hE
          obtain ⟨qa, qn, qt, hq⟩ : ∃ qa qn qt, fS ss v = ⟨qa, qn, qt⟩ := ⟨_, _, _, rfl⟩
          have HQV : Hid ((fS ss v).value = .agg #[.int .i64 qa, .int .i64 qn, .int .i64 qt]) := hide (by rw [hq]; rfl)
          clear hq
          go_wp2_with fail
          go_cut [6] (fun q wx => q = .bool E ∧ Hid (Below wr.heap.size wr wx))
          case first =>
            refine wp_region_noPanic ?_
            refine wp_region_held_drew (S := fun w' => (Tu.At w' g (off + t * 3) ⟨key, til, val⟩ ∧ Bx2 w' w.heap.size (.slice a j ca) (.slice (some ⟨g, off, none⟩) n cb)) ∧ w'.cell? ⟨g, off + t * 3, none⟩ = some (.int .i64 key) ∧ w'.cell? ⟨w.heap.size, 0, none⟩ = some (.slice a j ca) ∧ w'.cell? ⟨w.heap.size, 1, none⟩ = some (.slice (some ⟨g, off, none⟩) n cb)) (by kernel_rfl) (sE1 (unhide HAt).drew (unhide HXr2).drew) (fun hHeld => ?_)
            refine Rg.t 0 49 ?_
            refine Rg.t 1 50 ?_
            refine Rg.t 2 51 ?_
            refine Rg.t 3 52 ?_
            refine Rg.t 4 53 ?_
            refine Rg.t 5 54 ?_
            refine Rg.t 6 55 ?_
            refine Rg.t (v := .int .i64 v) 7 56 ?_
            (refine wpAnyH_ready (rs := [8, 12]) (by kernel_rfl) (by simp) ?_; refine AllReadyH.cons (o := _) rfl (fun K hK => ?_) (AllReadyH.cons (o := _) rfl (fun K hK => ?_) AllReadyH.nil))
            · go_simp
              refine (l09FindL _ ss j ca _ v _ (unhide HK) (by omega) (unhide HR2).drew).mono ?_
              rintro e w4 ⟨rfl, b4_⟩
              rw [unhide HE2, unhide HQV]
              have b4 : Below wr.heap.size wr w4 := (Below.refl _ _).drew.trans b4_
              clear b4_ hHeld
              refine hK.out _ _ (sE1 ((unhide HAt).below b4) ((unhide HXr2).below b4)) (fun hHeld => ?_)
              clear hK K
              (try simp only [Act.put, List.setIfInBounds_toArray, List.set_cons_zero, List.set_cons_succ])
              refine Rg.t 9 48 ?_
              refine Rg.t 10 58 ?_
              refine Rg.t 11 59 ?_
              (refine Rg.o 12 (fun K hK => ?_); go_simp)
              have b5 := b4.alloc b4.size (.cells #[.int .i64 0, .int .i64 0, .int .i64 0] 170)
              clear hHeld
              refine hK.out _ _ (sE1 ((unhide HAt).below b5) ((unhide HXr2).below b5)) (fun hHeld => ?_)
              clear hK K
              (try simp only [Act.put, List.setIfInBounds_toArray, List.set_cons_zero, List.set_cons_succ])
              (refine Rg.o 13 (fun K hK => ?_); go_simp)
              have b6 := b4.alloc b4.size (.cells #[.int .i64 qa, .int .i64 qn, .int .i64 qt] 170)
              clear hHeld
              refine hK.out _ _ (sE1 ((unhide HAt).below b6) ((unhide HXr2).below b6)) (fun hHeld => ?_)
              clear hK K
              (try simp only [Act.put, List.setIfInBounds_toArray, List.set_cons_zero, List.set_cons_succ])
              refine Rg.t 14 6 ?_
              refine wpAnyH_done (by kernel_rfl) (NoPanic.normal ?_) _
              clear hHeld
              go_wp2_with fail
              go_meet
              case rel => exact ⟨rfl, hide b6⟩
            · go_simp
              have b4 : Below wr.heap.size wr (wr.drew.alloc (.cells #[.int .i64 0, .int .i64 0, .int .i64 0] 170)) := (Below.refl _ _).drew.alloc (Nat.le_refl _) _
              have HV4 : Hid (SV (wr.drew.alloc (.cells #[.int .i64 0, .int .i64 0, .int .i64 0] 170)) wr.heap.size So.R.zero) := hide (sv_new wr.drew So.R.zero)
              clear hHeld
              refine hK.out _ _ (sE1 ((unhide HAt).below b4) ((unhide HXr2).below b4)) (fun hHeld => ?_)
              clear hK K
              (try simp only [Act.put, List.setIfInBounds_toArray, List.set_cons_zero, List.set_cons_succ])
              (refine Rg.o 8 (fun K hK => ?_); go_simp)
              refine (l09FindL _ ss j ca _ v _ (unhide HK) (by omega) ((unhide HR2).below b4)).mono ?_
              rintro e w5 ⟨rfl, b5_⟩
              rw [unhide HE2, unhide HQV]
              have b5 := b4.trans (b5_.mono b4.size)
              have HV5 := hide ((unhide HV4).below b5_)
              clear b5_ hHeld
              refine hK.out _ _ (sE1 ((unhide HAt).below b5) ((unhide HXr2).below b5)) (fun hHeld => ?_)
              clear hK K
              (try simp only [Act.put, List.setIfInBounds_toArray, List.set_cons_zero, List.set_cons_succ])
              refine Rg.t 9 48 ?_
              refine Rg.t 10 58 ?_
              refine Rg.t 11 59 ?_
              obtain ⟨x0, x1, x2⟩ := (unhide HV5).cells
              simp only [Nat.zero_add] at x1 x2
              have y0 := (unhide HV5).free 0
              have y1 := (unhide HV5).free 1
              have y2 := (unhide HV5).free 2
              unfold So.R.zero at x0 x1 x2
              dsimp only at x0 x1 x2
              (refine Rg.o 13 (fun K hK => ?_); go_simp)
              have b6 := ((b5.setCell (p := ⟨wr.heap.size, 0, none⟩) (Nat.le_refl _) (.int .i64 qa)).setCell (p := ⟨wr.heap.size, 1, none⟩) (Nat.le_refl _) (.int .i64 qn)).setCell (p := ⟨wr.heap.size, 2, none⟩) (Nat.le_refl _) (.int .i64 qt)
              clear hHeld
              refine hK.out _ _ (sE1 ((unhide HAt).below b6) ((unhide HXr2).below b6)) (fun hHeld => ?_)
              clear hK K
              (try simp only [Act.put, List.setIfInBounds_toArray, List.set_cons_zero, List.set_cons_succ])
              refine Rg.t 14 6 ?_
              refine wpAnyH_done (by kernel_rfl) (NoPanic.normal ?_) _
              clear hHeld x0 x1 x2 y0 y1 y2
              go_wp2_with fail
              go_meet
              case rel => exact ⟨rfl, hide b6⟩
          case rest =>
            obtain ⟨rfl, hbx⟩ := hcut
            rename World => wx
            have HXx := hide ((unhide HXr2).below (unhide hbx))
            obtain ⟨z0, z1⟩ := unhide HXx
            obtain ⟨c0, c1, c2⟩ := (unhide HAt).below (unhide hbx)
            dsimp only at c0 c1 c2
            have HBx := hide ((unhide HBW).trans ((unhide hbx).mono (unhide HBW).size))
            have HBq := hide ((unhide hbl).trans ((unhide hbx).mono (unhide hbl).size))
            cases E
            · have HF0 := hide (unhide HF rfl)
              go_wp2_with fail
              go_ret
              exact ⟨ret_bool (unhide HF0).symm, unhide HBx⟩
            · by_cases hv1 : val < 1
              · have HF0 := hide (unhide HF (by rw [decide_eq_false (by omega)]; rfl))
                go_wp2_with fail
                go_ret
                exact ⟨ret_bool (unhide HF0).symm, unhide HBx⟩
              · have HC0 := hide (unhide HC (by rw [decide_eq_true (by omega)]; rfl))
                go_wp2_with fail
                go_roundw
                case rel => exact ⟨t + 1, by omega, by go_num, HC0, HBq⟩
                case measure => simp [intOf]; omega
        · obtain rfl : t = n := by omega
          have HF : Hid (twoB es = A) := hide (by
            rw [← unhide HTA]
            rcases unhide hed with h | h
            · exact (edg_all (unhide HS) (by rw [unhide HN]; exact h)).symm
            · rw [h, top_notwo h])
          have HE3 := hide ((unhide HE1).below (unhide hbl))
          go_wp2_with fail
          rw [← unhide HN]
          refine (l07OK _ es cb _ (by rw [unhide HN]; omega) (unhide HE3)).mono ?_
          rintro e w4 ⟨rfl, b4⟩
          rw [unhide HF]
          have HB4 := hide ((unhide HBW).trans (b4.mono (unhide HBW).size))
          clear b4
          go_wp2_with fail
          go_ret
          exact ⟨rfl, unhide HB4⟩
end Tp
end Go.Proofs.YtfooahhdikobeaaGreat
namespace Go.Proofs.YtfooahhdikobeaaGreat
open Go.ChangeShapes Go.WideShapes Go.ChangeAt Go.RowKit
set_option linter.unusedVariables false
set_option linter.unusedSimpArgs false
attribute [local go_sem ↓] Go.wp_at_zero Go.wp_at_succ
namespace Ln
open W1 Lk
theorem sOne {w : World} {g o : Nat} {ad hd sy ci co wl : Int} (h : At w g o ⟨ad, hd, sy, ci, co, wl⟩) : At w g o ⟨ad, hd, sy, ci, co, wl⟩ ∧ w.cell? ⟨g, o, none⟩ = some (.int .i64 ad) ∧ w.cell? ⟨g, o + 1, none⟩ = some (.int .i64 hd) ∧ w.cell? ⟨g, o + 2, none⟩ = some (.int .i64 sy) ∧ w.cell? ⟨g, o + 3, none⟩ = some (.int .i64 ci) ∧ w.cell? ⟨g, o + 4, none⟩ = some (.int .i64 co) ∧ w.cell? ⟨g, o + 5, none⟩ = some (.int .i64 wl) := ⟨h, h⟩
theorem sTwo {w : World} {g o p : Nat} {m : R} {ad hd sy ci co wl : Int} (h : At w g o ⟨ad, hd, sy, ci, co, wl⟩) (h' : At w g p m) :
    (At w g o ⟨ad, hd, sy, ci, co, wl⟩ ∧ At w g p m) ∧ w.cell? ⟨g, o, none⟩ = some (.int .i64 ad) ∧ w.cell? ⟨g, o + 1, none⟩ = some (.int .i64 hd) ∧ w.cell? ⟨g, o + 2, none⟩ = some (.int .i64 sy) ∧ w.cell? ⟨g, o + 3, none⟩ = some (.int .i64 ci) ∧ w.cell? ⟨g, o + 4, none⟩ = some (.int .i64 co) ∧ w.cell? ⟨g, o + 5, none⟩ = some (.int .i64 wl) ∧ w.cell? ⟨g, p, none⟩ = some (.int .i64 m.ad) := ⟨⟨h, h'⟩, h.1, h.2.1, h.2.2.1, h.2.2.2.1, h.2.2.2.2.1, h.2.2.2.2.2, h'.1⟩
set_option maxRecDepth 100000 in
set_option maxHeartbeats 4000000 in
theorem specOK (a : Option Addr) (ms : List R) (cap : Nat) (w : World) (hm : ms.length ≤ 1048576) (hr : RM w a ms) :
    Calls Tryz.prog 134 #[.slice a ms.length cap] w fun e w' => e = .returned (.bool (linksB ms)) ∧ Below w.heap.size w w' := by
  by_cases hbig : (4096 : Int) < ms.length
  · have hf : Hid (linksB ms = false) := hide (by cases hh : linksB ms; rfl; have := links_len hh; omega)
    go_enter Tryz.func134, Tryz.ntmps134
    go_wp2
    go_ret
    exact ⟨ret_bool (unhide hf).symm, Below.refl _ _⟩
  have HR := hide hr
  clear hr
  generalize hN : ms.length = n at *
  have HN := hide hN
  clear hN
  go_enter Tryz.func134, Tryz.ntmps134
  go_wp2
  go_loopw [3] (fun i wr => ∃ j : Nat, j ≤ n ∧ i = .int .i64 j ∧ Hid (allL ms j = true) ∧ Hid (Below w.heap.size w wr)) (fun i _ => n - (intOf i).toNat)
  case atStart => exact ⟨0, by omega, rfl, hide (Ri.all_zero), hide (Below.refl _ _)⟩
  case round =>
    obtain ⟨j, hj, rfl, hrl, hbl⟩ := hrel
    by_cases hlt : (j : Int) < (n : Int)
    · have k0 : (0 : Int) ≤ (j : Int) := by omega
      have hlen : j < ms.length := by rw [unhide HN]; omega
      rcases (unhide HR).below (by exact (unhide hbl)) with e0 | ⟨g, off, rfl, hc⟩
      · exfalso; rw [e0] at hlen; simp at hlen
      have HL := hide hlen
      have hA := hc j hlen
      cases hk : okL (ms.getD j R.zero)
      · clear hc
        have HST := hide (Ri.all_no hlen (Ri.step_bad (key := R.ad) hk))
        have HK := hide hk
        clear hk
        generalize ms.getD j R.zero = m at *
        obtain ⟨ad, hd, sy, ci, co, wl⟩ := m
        go_wp2_with fail
        refine wp_region_noPanic ?_
        refine wp_region_held_drew (S := fun w' => At w' g (off + j * 6) ⟨ad, hd, sy, ci, co, wl⟩ ∧ w'.cell? ⟨g, off + j * 6, none⟩ = some (.int .i64 ad) ∧ w'.cell? ⟨g, off + j * 6 + 1, none⟩ = some (.int .i64 hd) ∧ w'.cell? ⟨g, off + j * 6 + 2, none⟩ = some (.int .i64 sy) ∧ w'.cell? ⟨g, off + j * 6 + 3, none⟩ = some (.int .i64 ci) ∧ w'.cell? ⟨g, off + j * 6 + 4, none⟩ = some (.int .i64 co) ∧ w'.cell? ⟨g, off + j * 6 + 5, none⟩ = some (.int .i64 wl)) (by kernel_rfl) (sOne hA.drew) (fun hHeld => ?_)
        refine Rg.t 0 13 ?_
        refine Rg.t 1 14 ?_
        refine Rg.t 2 15 ?_
        refine Rg.t 3 16 ?_
        (refine Rg.o 4 (fun K hK => ?_); go_simp)
        refine (l06Link ad hd sy ci co wl _).mono ?_
        rintro e w1 ⟨rfl, b1⟩
        rw [unhide HK]
        refine hK.out _ _ (sOne (hA.drew.below b1)) (fun hHeld => ?_)
        clear hK K
        (try simp only [Act.put, List.setIfInBounds_toArray, List.set_cons_zero, List.set_cons_succ])
        refine Rg.t 5 18 ?_
        refine Rg.t 6 19 ?_
        refine Rg.s 7 20 ?_
        refine Rg.s 8 21 ?_
        refine Rg.s 9 22 ?_
        refine Rg.s 10 23 ?_
        refine Rg.s 11 24 ?_
        refine Rg.s 12 25 ?_
        refine Rg.s 13 26 ?_
        refine Rg.s 14 27 ?_
        refine Rg.s 15 28 ?_
        refine Rg.s 16 29 ?_
        refine Rg.s 17 30 ?_
        refine Rg.s 18 31 ?_
        refine Rg.s 19 32 ?_
        refine Rg.s 20 33 ?_
        refine Rg.s 21 34 ?_
        refine Rg.s 22 35 ?_
        refine Rg.t 23 36 ?_
        refine wpAnyH_done (by kernel_rfl) (NoPanic.normal ?_) _
        have hb1 := hide ((unhide hbl).drew.trans (b1.mono (by show w.heap.size ≤ wr.heap.size; exact (unhide hbl).size)))
        go_wp2_with fail
        go_ret
        exact ⟨ret_bool (unhide HST).symm, unhide hb1⟩
      have HK := hide hk
      clear hk
      by_cases hj0 : j = 0
      · subst hj0
        clear hc
        rw [Nat.zero_mul, Nat.add_zero] at hA
        have HST := hide (Ri.all_succ (unhide hrl) (Ri.step_zero (key := R.ad) (unhide HK)))
        generalize ms.getD 0 R.zero = m at *
        obtain ⟨ad, hd, sy, ci, co, wl⟩ := m
        go_wp2_with fail
        refine wp_region_noPanic ?_
        refine wp_region_held_drew (S := fun w' => At w' g off ⟨ad, hd, sy, ci, co, wl⟩ ∧ w'.cell? ⟨g, off, none⟩ = some (.int .i64 ad) ∧ w'.cell? ⟨g, off + 1, none⟩ = some (.int .i64 hd) ∧ w'.cell? ⟨g, off + 2, none⟩ = some (.int .i64 sy) ∧ w'.cell? ⟨g, off + 3, none⟩ = some (.int .i64 ci) ∧ w'.cell? ⟨g, off + 4, none⟩ = some (.int .i64 co) ∧ w'.cell? ⟨g, off + 5, none⟩ = some (.int .i64 wl)) (by kernel_rfl) (sOne hA.drew) (fun hHeld => ?_)
        refine Rg.t 0 13 ?_
        refine Rg.t 1 14 ?_
        refine Rg.t 2 15 ?_
        refine Rg.t 3 16 ?_
        (refine Rg.o 4 (fun K hK => ?_); go_simp)
        refine (l06Link ad hd sy ci co wl _).mono ?_
        rintro e w1 ⟨rfl, b1⟩
        rw [unhide HK]
        refine hK.out _ _ (sOne (hA.drew.below b1)) (fun hHeld => ?_)
        clear hK K
        (try simp only [Act.put, List.setIfInBounds_toArray, List.set_cons_zero, List.set_cons_succ])
        refine Rg.t 5 18 ?_
        refine Rg.t 6 19 ?_
        refine Rg.t 7 20 ?_
        refine Rg.t 8 21 ?_
        refine Rg.t 9 22 ?_
        refine Rg.s 10 23 ?_
        refine Rg.s 11 24 ?_
        refine Rg.s 12 25 ?_
        refine Rg.s 13 26 ?_
        refine Rg.s 14 27 ?_
        refine Rg.s 15 28 ?_
        refine Rg.s 16 29 ?_
        refine Rg.s 17 30 ?_
        refine Rg.s 18 31 ?_
        refine Rg.s 19 32 ?_
        refine Rg.s 20 33 ?_
        refine Rg.s 21 34 ?_
        refine Rg.t 22 35 ?_
        refine Rg.t 23 36 ?_
        refine wpAnyH_done (by kernel_rfl) (NoPanic.normal ?_) _
        have hb1 := hide ((unhide hbl).drew.trans (b1.mono (by show w.heap.size ≤ wr.heap.size; exact (unhide hbl).size)))
        go_wp2_with fail
        go_roundw
        case rel => exact ⟨0 + 1, by omega, by go_num, HST, hb1⟩
        case measure => simp [intOf]; omega
      · obtain ⟨i, hji⟩ : ∃ i, j = i + 1 := ⟨j - 1, by omega⟩
        have HJ := hide hji
        have e1 : (j : Int) - 1 = (i : Int) := by omega
        have i0 : (0 : Int) ≤ (i : Int) := by omega
        have wi : IntKind.i64.wrap (i : Int) = (i : Int) := by rw [IntKind.wrap_i64]; omega
        have i1 : (i : Int) < (n : Int) := by omega
        have j1 : (0 : Int) < (j : Int) := by omega
        have j2 : 0 < j := by omega
        have hP := hc i (by omega)
        have EJ : ms.getD j R.zero = ms.getD (i + 1) R.zero := by rw [hji]
        clear hc hji
        by_cases hk : (ms.getD i R.zero).ad < (ms.getD j R.zero).ad
        · have HST : Hid (allL ms (j + 1) = true) := hide (Ri.all_succ (unhide hrl) (by rw [unhide HJ]; exact Ri.step_lt (by rw [← EJ]; exact unhide HK) (by rw [← EJ]; exact hk)))
          clear EJ
          generalize ms.getD j R.zero = m at *
          generalize ms.getD i R.zero = m0 at *
          obtain ⟨ad, hd, sy, ci, co, wl⟩ := m
          obtain ⟨ad0, hd0, sy0, ci0, co0, wl0⟩ := m0
          dsimp only at hk
          go_wp2_with fail
          refine wp_region_noPanic ?_
          refine wp_region_held_drew (S := fun w' => (At w' g (off + j * 6) ⟨ad, hd, sy, ci, co, wl⟩ ∧ At w' g (off + i * 6) ⟨ad0, hd0, sy0, ci0, co0, wl0⟩) ∧ w'.cell? ⟨g, off + j * 6, none⟩ = some (.int .i64 ad) ∧ w'.cell? ⟨g, off + j * 6 + 1, none⟩ = some (.int .i64 hd) ∧ w'.cell? ⟨g, off + j * 6 + 2, none⟩ = some (.int .i64 sy) ∧ w'.cell? ⟨g, off + j * 6 + 3, none⟩ = some (.int .i64 ci) ∧ w'.cell? ⟨g, off + j * 6 + 4, none⟩ = some (.int .i64 co) ∧ w'.cell? ⟨g, off + j * 6 + 5, none⟩ = some (.int .i64 wl) ∧ w'.cell? ⟨g, off + i * 6, none⟩ = some (.int .i64 ad0)) (by kernel_rfl) (sTwo hA.drew hP.drew) (fun hHeld => ?_)
          refine Rg.t 0 13 ?_
          refine Rg.t 1 14 ?_
          refine Rg.t 2 15 ?_
          refine Rg.t 3 16 ?_
          (refine Rg.o 4 (fun K hK => ?_); go_simp)
          refine (l06Link ad hd sy ci co wl _).mono ?_
          rintro e w1 ⟨rfl, b1⟩
          rw [unhide HK]
          refine hK.out _ _ (sTwo (hA.drew.below b1) (hP.drew.below b1)) (fun hHeld => ?_)
          clear hK K
          (try simp only [Act.put, List.setIfInBounds_toArray, List.set_cons_zero, List.set_cons_succ])
          refine Rg.t 5 18 ?_
          refine Rg.t 6 19 ?_
          refine Rg.t 7 20 ?_
          refine Rg.t 8 21 ?_
          refine Rg.t 9 22 ?_
          refine Rg.t 10 23 ?_
          refine Rg.t 11 24 ?_
          refine Rg.t 12 25 ?_
          refine Rg.t 13 26 ?_
          refine Rg.t 14 27 ?_
          refine Rg.t 15 28 ?_
          refine Rg.t 16 29 ?_
          refine Rg.t 17 30 ?_
          refine Rg.t 18 31 ?_
          refine Rg.t 19 32 ?_
          refine Rg.t 20 33 ?_
          refine Rg.t 21 34 ?_
          refine Rg.t 22 35 ?_
          refine Rg.t 23 36 ?_
          refine wpAnyH_done (by kernel_rfl) (NoPanic.normal ?_) _
          have hb1 := hide ((unhide hbl).drew.trans (b1.mono (by show w.heap.size ≤ wr.heap.size; exact (unhide hbl).size)))
          go_wp2_with fail
          go_roundw
          case rel => exact ⟨j + 1, by omega, by go_num, HST, hb1⟩
          case measure => simp [intOf]; omega
        · have HST : Hid (linksB ms = false) := hide (Ri.all_no (unhide HL) (show Ri.step R.zero okL R.ad ms j = false by rw [unhide HJ]; exact Ri.step_ge (by rw [← EJ]; omega)))
          clear EJ
          generalize ms.getD j R.zero = m at *
          generalize ms.getD i R.zero = m0 at *
          obtain ⟨ad, hd, sy, ci, co, wl⟩ := m
          obtain ⟨ad0, hd0, sy0, ci0, co0, wl0⟩ := m0
          dsimp only at hk
          go_wp2_with fail
          refine wp_region_noPanic ?_
          refine wp_region_held_drew (S := fun w' => (At w' g (off + j * 6) ⟨ad, hd, sy, ci, co, wl⟩ ∧ At w' g (off + i * 6) ⟨ad0, hd0, sy0, ci0, co0, wl0⟩) ∧ w'.cell? ⟨g, off + j * 6, none⟩ = some (.int .i64 ad) ∧ w'.cell? ⟨g, off + j * 6 + 1, none⟩ = some (.int .i64 hd) ∧ w'.cell? ⟨g, off + j * 6 + 2, none⟩ = some (.int .i64 sy) ∧ w'.cell? ⟨g, off + j * 6 + 3, none⟩ = some (.int .i64 ci) ∧ w'.cell? ⟨g, off + j * 6 + 4, none⟩ = some (.int .i64 co) ∧ w'.cell? ⟨g, off + j * 6 + 5, none⟩ = some (.int .i64 wl) ∧ w'.cell? ⟨g, off + i * 6, none⟩ = some (.int .i64 ad0)) (by kernel_rfl) (sTwo hA.drew hP.drew) (fun hHeld => ?_)
          refine Rg.t 0 13 ?_
          refine Rg.t 1 14 ?_
          refine Rg.t 2 15 ?_
          refine Rg.t 3 16 ?_
          (refine Rg.o 4 (fun K hK => ?_); go_simp)
          refine (l06Link ad hd sy ci co wl _).mono ?_
          rintro e w1 ⟨rfl, b1⟩
          rw [unhide HK]
          refine hK.out _ _ (sTwo (hA.drew.below b1) (hP.drew.below b1)) (fun hHeld => ?_)
          clear hK K
          (try simp only [Act.put, List.setIfInBounds_toArray, List.set_cons_zero, List.set_cons_succ])
          refine Rg.t 5 18 ?_
          refine Rg.t 6 19 ?_
          refine Rg.t 7 20 ?_
          refine Rg.t 8 21 ?_
          refine Rg.t 9 22 ?_
          refine Rg.t 10 23 ?_
          refine Rg.t 11 24 ?_
          refine Rg.t 12 25 ?_
          refine Rg.t 13 26 ?_
          refine Rg.t 14 27 ?_
          refine Rg.t 15 28 ?_
          refine Rg.t 16 29 ?_
          refine Rg.t 17 30 ?_
          refine Rg.t 18 31 ?_
          refine Rg.t 19 32 ?_
          refine Rg.t 20 33 ?_
          refine Rg.t 21 34 ?_
          refine Rg.t 22 35 ?_
          refine Rg.t 23 36 ?_
          refine wpAnyH_done (by kernel_rfl) (NoPanic.normal ?_) _
          have hb1 := hide ((unhide hbl).drew.trans (b1.mono (by show w.heap.size ≤ wr.heap.size; exact (unhide hbl).size)))
          go_wp2_with fail
          go_ret
          exact ⟨ret_bool (unhide HST).symm, unhide hb1⟩
    · obtain rfl : j = n := by omega
      have hok : linksB ms = true := by unfold linksB; rw [unhide HN]; exact unhide hrl
      have h8 := links_len hok
      have h8' : (j : Int) ≤ 8 := by have := unhide HN; omega
      have HO := hide hok
      clear hok h8
      go_wp2
      go_ret
      exact ⟨ret_bool (unhide HO).symm, unhide hbl⟩
end Ln
end Go.Proofs.YtfooahhdikobeaaGreat
namespace Go.Proofs.YtfooahhdikobeaaGreat
open Go.ChangeShapes Go.WideShapes Go.ChangeAt Go.RowKit
set_option linter.unusedVariables false
set_option linter.unusedSimpArgs false
attribute [local go_sem ↓] Go.wp_at_zero Go.wp_at_succ
namespace St
open W1 Tu
end St
end Go.Proofs.YtfooahhdikobeaaGreat
namespace Go.Proofs.YtfooahhdikobeaaGreat
open Go.ChangeShapes Go.WideShapes Go.ChangeAt Go.RowKit
set_option linter.unusedVariables false
set_option linter.unusedSimpArgs false
attribute [local go_sem ↓] Go.wp_at_zero Go.wp_at_succ
namespace St
open W1 Tu
theorem up_at {ms : List R} (h : setB ms = true) (k : Int) : ∀ i j, i < j → j < ms.length → atKey k (ms.getD i R.zero) = true → atKey k (ms.getD j R.zero) = true := by
  intro i j hij hj hi
  have := rises h j i hij hj
  unfold atKey at *
  exact decide_eq_true (by have := of_decide_eq_true hi; omega)
end St
end Go.Proofs.YtfooahhdikobeaaGreat
namespace Go.Proofs.YtfooahhdikobeaaGreat
open Go.ChangeShapes Go.WideShapes Go.ChangeAt Go.RowKit
set_option linter.unusedVariables false
set_option linter.unusedSimpArgs false
attribute [local go_sem ↓] Go.wp_at_zero Go.wp_at_succ
namespace St
open W1 Tu
theorem there_no {ms : List R} {k : Int} {p : Nat} (e : place ms k = p) (h : ms.length ≤ p) : thereB ms k = false := by unfold thereB; rw [e, decide_eq_false (by omega)]; rfl
theorem there_ne {ms : List R} {k : Int} {p : Nat} (e : place ms k = p) (h : ¬ (ms.getD p R.zero).key = k) : thereB ms k = false := by unfold thereB; rw [e, decide_eq_false h, Bool.and_false]
theorem there_yes {ms : List R} {k : Int} {p : Nat} (e : place ms k = p) (hl : p < ms.length) (h : (ms.getD p R.zero).key = k) : thereB ms k = true := by unfold thereB; rw [e, decide_eq_true hl, decide_eq_true h]; rfl
end St
end Go.Proofs.YtfooahhdikobeaaGreat
namespace Go.Proofs.YtfooahhdikobeaaGreat
open Go.ChangeShapes Go.WideShapes Go.ChangeAt Go.RowKit
set_option linter.unusedVariables false
set_option linter.unusedSimpArgs false
attribute [local go_sem ↓] Go.wp_at_zero Go.wp_at_succ
namespace St
open W1 Tu
end St
end Go.Proofs.YtfooahhdikobeaaGreat
namespace Go.Proofs.YtfooahhdikobeaaGreat
open Go.ChangeShapes Go.WideShapes Go.ChangeAt Go.RowKit
set_option linter.unusedVariables false
set_option linter.unusedSimpArgs false
attribute [local go_sem ↓] Go.wp_at_zero Go.wp_at_succ
namespace St
open W1 Tu
theorem Upto.set {w : World} {g n p : Nat} {ms : List R} (x : R) (h : Upto w g n n ms) (hn : n = ms.length) (hp : p < n) : Upto (put w g (p * 3) x) g n n (ms.set p x) := by
  refine ⟨fun i hi => ?_, fun i hi => ⟨put_some _ _ _ _ _ _ (h.2 i hi).1, by rw [put_frozen]; exact (h.2 i hi).2⟩⟩
  by_cases e : i = p
  · subst e
    have : (ms.set i x).getD i R.zero = x := by rw [List.getD_eq_getElem?_getD, List.getElem?_set_self (by omega)]; rfl
    rw [this]
    exact put_at _ _ _ _ (fun k hk => (h.2 _ (by omega)).1)
  · have : (ms.set p x).getD i R.zero = ms.getD i R.zero := by rw [List.getD_eq_getElem?_getD, List.getD_eq_getElem?_getD, List.getElem?_set_ne (by omega)]
    rw [this]
    obtain ⟨h0, h1, h2⟩ := h.1 i (by omega)
    exact ⟨(put_far _ _ _ _ (by omega)).trans h0, (put_far _ _ _ _ (by omega)).trans h1, (put_far _ _ _ _ (by omega)).trans h2⟩
end St
end Go.Proofs.YtfooahhdikobeaaGreat
namespace Go.Proofs.YtfooahhdikobeaaGreat
open Go.ChangeShapes Go.WideShapes Go.ChangeAt Go.RowKit
set_option linter.unusedVariables false
set_option linter.unusedSimpArgs false
attribute [local go_sem ↓] Go.wp_at_zero Go.wp_at_succ
namespace St
open W1 Tu
/-- What a slice of one's own looks like: its capacity, and where it lies. -/
def Shp (v : Value) : Prop := ∃ a n c, v = .slice a n c ∧ n ≤ c ∧ c ≤ maxLen ∧ (a = none ∨ ∃ g, a = some ⟨g, 0, none⟩)
theorem Shp.at {a : Option Addr} {n c : Nat} (h : Shp (.slice a n c)) : n ≤ c ∧ c ≤ maxLen ∧ (a = none ∨ ∃ g, a = some ⟨g, 0, none⟩) := by
  obtain ⟨a', n', c', e, h⟩ := h
  cases e
  exact h
end St
end Go.Proofs.YtfooahhdikobeaaGreat
namespace Go.Proofs.YtfooahhdikobeaaGreat
open Go.ChangeShapes Go.WideShapes Go.ChangeAt Go.RowKit
set_option linter.unusedVariables false
set_option linter.unusedSimpArgs false
attribute [local go_sem ↓] Go.wp_at_zero Go.wp_at_succ
namespace St
open W1 Tu
end St
end Go.Proofs.YtfooahhdikobeaaGreat
namespace Go.Proofs.YtfooahhdikobeaaGreat
open Go.ChangeShapes Go.WideShapes Go.ChangeAt Go.RowKit
set_option linter.unusedVariables false
set_option linter.unusedSimpArgs false
set_option maxRecDepth 100000
attribute [local go_sem ↓] Go.wp_at_zero Go.wp_at_succ
namespace Gr
open W1 Tu St Tw
/-- A slice that lies somewhere. -/
def Fm (v : Value) (n : Nat) : Prop := ∃ g c, v = .slice (some ⟨g, 0, none⟩) n c
theorem lstV_nil (W : World) (a : Option Addr) (c lo hi : Nat) : LstV W (.slice a 0 c) [] lo hi := ⟨a, c, rfl, .inl rfl⟩
end Gr
end Go.Proofs.YtfooahhdikobeaaGreat
namespace Go.Proofs.YtfooahhdikobeaaGreat
open Go.ChangeShapes Go.WideShapes Go.ChangeAt Go.RowKit
set_option linter.unusedVariables false
set_option linter.unusedSimpArgs false
attribute [local go_sem ↓] Go.wp_at_zero Go.wp_at_succ
namespace Ln
open W1 Lk
/-- A link in a variable's block. -/
def Bx (w : World) (b : Nat) (m : R) : Prop := w.cell? ⟨b, 0, none⟩ = some (.int .i64 m.ad) ∧ w.cell? ⟨b, 1, none⟩ = some (.int .i64 m.hd) ∧ w.cell? ⟨b, 2, none⟩ = some (.int .i64 m.sy) ∧ w.cell? ⟨b, 3, none⟩ = some (.int .i64 m.ci) ∧ w.cell? ⟨b, 4, none⟩ = some (.int .i64 m.co) ∧ w.cell? ⟨b, 5, none⟩ = some (.int .i64 m.wl)
theorem Bx.below {w w' : World} {b : Nat} {m : R} (h : Bx w b m) (hb : Below w.heap.size w w') : Bx w' b m := by
  have hg : b < w.heap.size := World.block_lt_of_cell? _ _ h.1
  obtain ⟨h0, h1, h2, h3, h4, h5⟩ := h
  refine ⟨?_, ?_, ?_, ?_, ?_, ?_⟩ <;> (rw [hb.cell hg]; assumption)
theorem Bx.lt {w : World} {b : Nat} {m : R} (h : Bx w b m) : b < w.heap.size := World.block_lt_of_cell? _ _ h.1
theorem Bx.drew {w : World} {b : Nat} {m : R} (h : Bx w b m) : Bx w.drew b m := h
theorem bx_new (w : World) (m : R) (t : Nat) : Bx (w.alloc (.cells #[.int .i64 m.ad, .int .i64 m.hd, .int .i64 m.sy, .int .i64 m.ci, .int .i64 m.co, .int .i64 m.wl] t)) w.heap.size m := by
  refine ⟨?_, ?_, ?_, ?_, ?_, ?_⟩ <;> simp [World.cell?_alloc_new]
theorem sBox {w : World} {b : Nat} {ad hd sy ci co wl : Int} (h : Bx w b ⟨ad, hd, sy, ci, co, wl⟩) : Bx w b ⟨ad, hd, sy, ci, co, wl⟩ ∧ w.cell? ⟨b, 0, none⟩ = some (.int .i64 ad) ∧ w.cell? ⟨b, 1, none⟩ = some (.int .i64 hd) ∧ w.cell? ⟨b, 2, none⟩ = some (.int .i64 sy) ∧ w.cell? ⟨b, 3, none⟩ = some (.int .i64 ci) ∧ w.cell? ⟨b, 4, none⟩ = some (.int .i64 co) ∧ w.cell? ⟨b, 5, none⟩ = some (.int .i64 wl) := ⟨h, h⟩
theorem sBox2 {w : World} {b g p : Nat} {m : R} {ad hd sy ci co wl : Int} (h : Bx w b ⟨ad, hd, sy, ci, co, wl⟩) (h' : At w g p m) :
    (Bx w b ⟨ad, hd, sy, ci, co, wl⟩ ∧ At w g p m) ∧ w.cell? ⟨b, 0, none⟩ = some (.int .i64 ad) ∧ w.cell? ⟨b, 1, none⟩ = some (.int .i64 hd) ∧ w.cell? ⟨b, 2, none⟩ = some (.int .i64 sy) ∧ w.cell? ⟨b, 3, none⟩ = some (.int .i64 ci) ∧ w.cell? ⟨b, 4, none⟩ = some (.int .i64 co) ∧ w.cell? ⟨b, 5, none⟩ = some (.int .i64 wl) ∧ w.cell? ⟨g, p, none⟩ = some (.int .i64 m.ad) := ⟨⟨h, h'⟩, h.1, h.2.1, h.2.2.1, h.2.2.2.1, h.2.2.2.2.1, h.2.2.2.2.2, h'.1⟩
set_option maxRecDepth 100000 in
set_option maxHeartbeats 4000000 in
theorem implOK (a : Option Addr) (ms : List R) (cap : Nat) (w : World) (hm : ms.length ≤ 1048576) (hr : RM w a ms) :
    Calls Tryz.prog 197 #[.slice a ms.length cap] w fun e w' => e = .returned (.bool (linksB ms)) ∧ Below w.heap.size w w' := by
  have HR := hide hr
  clear hr
  generalize hN : ms.length = n at *
  have HN := hide hN
  clear hN
  go_enter Tryz.func197, Tryz.ntmps197
  go_wp2
  go_loopw [7] (fun i wr => ∃ j : Nat, j ≤ n ∧ i = .int .i64 j ∧ Hid (allL ms j = true) ∧ Hid (Below w.heap.size w wr)) (fun i _ => n - (intOf i).toNat)
  case atStart => exact ⟨0, by omega, rfl, hide Ri.all_zero, hide (Below.refl _ _)⟩
  case round =>
    obtain ⟨j, hj, rfl, hrl, hbl⟩ := hrel
    by_cases hlt : (j : Int) < (n : Int)
    · have k0 : (0 : Int) ≤ (j : Int) := by omega
      have hlen : j < ms.length := by rw [unhide HN]; omega
      rcases (unhide HR).below (by exact (unhide hbl)) with e0 | ⟨g, off, rfl, hc⟩
      · exfalso; rw [e0] at hlen; simp at hlen
      have HL := hide hlen
      have hA := hc j hlen
      have hsz := (unhide hbl).size
      have HBX := hide (bx_new wr (ms.getD j R.zero) 166)
      have HBL := hide ((unhide hbl).alloc hsz (.cells #[.int .i64 (ms.getD j R.zero).ad, .int .i64 (ms.getD j R.zero).hd, .int .i64 (ms.getD j R.zero).sy, .int .i64 (ms.getD j R.zero).ci, .int .i64 (ms.getD j R.zero).co, .int .i64 (ms.getD j R.zero).wl] 166))
      cases hk : okL (ms.getD j R.zero)
      · clear hc
        have HST := hide (Ri.all_no hlen (Ri.step_bad (key := R.ad) hk))
        have HK := hide hk
        clear hk
        generalize ms.getD j R.zero = m at *
        obtain ⟨ad, hd, sy, ci, co, wl⟩ := m
        obtain ⟨c0, c1, c2, c3, c4, c5⟩ := hA
        dsimp only at c0 c1 c2 c3 c4 c5
        go_wp2_with fail
        generalize hW : wr.alloc (.cells #[.int .i64 ad, .int .i64 hd, .int .i64 sy, .int .i64 ci, .int .i64 co, .int .i64 wl] 166) = W0 at *
        clear hW
        refine wp_region_noPanic ?_
        refine wp_region_held_drew (S := fun w' => Bx w' wr.heap.size ⟨ad, hd, sy, ci, co, wl⟩ ∧ w'.cell? ⟨wr.heap.size, 0, none⟩ = some (.int .i64 ad) ∧ w'.cell? ⟨wr.heap.size, 1, none⟩ = some (.int .i64 hd) ∧ w'.cell? ⟨wr.heap.size, 2, none⟩ = some (.int .i64 sy) ∧ w'.cell? ⟨wr.heap.size, 3, none⟩ = some (.int .i64 ci) ∧ w'.cell? ⟨wr.heap.size, 4, none⟩ = some (.int .i64 co) ∧ w'.cell? ⟨wr.heap.size, 5, none⟩ = some (.int .i64 wl)) (by kernel_rfl) (sBox (unhide HBX).drew) (fun hHeld => ?_)
        refine Rg.t 0 12 ?_
        (refine Rg.o 1 (fun K hK => ?_); go_simp)
        refine (isLink ad hd sy ci co wl _).mono ?_
        rintro e w2 ⟨rfl, b2⟩
        rw [unhide HK]
        refine hK.out _ _ (sBox ((unhide HBX).drew.below b2)) (fun hHeld => ?_)
        clear hK K
        (try simp only [Act.put, List.setIfInBounds_toArray, List.set_cons_zero, List.set_cons_succ])
        refine Rg.t 2 14 ?_
        refine Rg.t 3 15 ?_
        refine Rg.s 4 16 ?_
        refine Rg.s 5 17 ?_
        refine Rg.s 6 18 ?_
        refine Rg.s 7 19 ?_
        refine Rg.s 8 20 ?_
        refine Rg.s 9 21 ?_
        refine Rg.s 10 22 ?_
        refine Rg.s 11 23 ?_
        refine Rg.s 12 24 ?_
        refine Rg.s 13 25 ?_
        refine Rg.s 14 26 ?_
        refine Rg.s 15 27 ?_
        refine Rg.s 16 28 ?_
        refine Rg.t 17 29 ?_
        refine wpAnyH_done (by kernel_rfl) (NoPanic.normal ?_) _
        have hb1 := hide ((unhide HBL).drew.trans (b2.mono (by show w.heap.size ≤ W0.heap.size; exact (unhide HBL).size)))
        go_wp2_with fail
        go_ret
        exact ⟨ret_bool (unhide HST).symm, unhide hb1⟩
      have HK := hide hk
      clear hk
      by_cases hj0 : j = 0
      · subst hj0
        clear hc
        rw [Nat.zero_mul, Nat.add_zero] at hA
        have HST := hide (Ri.all_succ (unhide hrl) (Ri.step_zero (key := R.ad) (unhide HK)))
        generalize ms.getD 0 R.zero = m at *
        obtain ⟨ad, hd, sy, ci, co, wl⟩ := m
        obtain ⟨c0, c1, c2, c3, c4, c5⟩ := hA
        dsimp only at c0 c1 c2 c3 c4 c5
        go_wp2_with fail
        generalize hW : wr.alloc (.cells #[.int .i64 ad, .int .i64 hd, .int .i64 sy, .int .i64 ci, .int .i64 co, .int .i64 wl] 166) = W0 at *
        clear hW
        refine wp_region_noPanic ?_
        refine wp_region_held_drew (S := fun w' => Bx w' wr.heap.size ⟨ad, hd, sy, ci, co, wl⟩ ∧ w'.cell? ⟨wr.heap.size, 0, none⟩ = some (.int .i64 ad) ∧ w'.cell? ⟨wr.heap.size, 1, none⟩ = some (.int .i64 hd) ∧ w'.cell? ⟨wr.heap.size, 2, none⟩ = some (.int .i64 sy) ∧ w'.cell? ⟨wr.heap.size, 3, none⟩ = some (.int .i64 ci) ∧ w'.cell? ⟨wr.heap.size, 4, none⟩ = some (.int .i64 co) ∧ w'.cell? ⟨wr.heap.size, 5, none⟩ = some (.int .i64 wl)) (by kernel_rfl) (sBox (unhide HBX).drew) (fun hHeld => ?_)
        refine Rg.t 0 12 ?_
        (refine Rg.o 1 (fun K hK => ?_); go_simp)
        refine (isLink ad hd sy ci co wl _).mono ?_
        rintro e w2 ⟨rfl, b2⟩
        rw [unhide HK]
        refine hK.out _ _ (sBox ((unhide HBX).drew.below b2)) (fun hHeld => ?_)
        clear hK K
        (try simp only [Act.put, List.setIfInBounds_toArray, List.set_cons_zero, List.set_cons_succ])
        refine Rg.t 2 14 ?_
        refine Rg.t 3 15 ?_
        refine Rg.t 4 16 ?_
        refine Rg.t 5 17 ?_
        refine Rg.t 6 18 ?_
        refine Rg.s 7 19 ?_
        refine Rg.s 8 20 ?_
        refine Rg.s 9 21 ?_
        refine Rg.s 10 22 ?_
        refine Rg.s 11 23 ?_
        refine Rg.s 12 24 ?_
        refine Rg.s 13 25 ?_
        refine Rg.s 14 26 ?_
        refine Rg.s 15 27 ?_
        refine Rg.t 16 28 ?_
        refine Rg.t 17 29 ?_
        refine wpAnyH_done (by kernel_rfl) (NoPanic.normal ?_) _
        have hb1 := hide ((unhide HBL).drew.trans (b2.mono (by show w.heap.size ≤ W0.heap.size; exact (unhide HBL).size)))
        go_wp2_with fail
        go_roundw
        case rel => exact ⟨0 + 1, by omega, by go_num, HST, hb1⟩
        case measure => simp [intOf]; omega
      · obtain ⟨i, hji⟩ : ∃ i, j = i + 1 := ⟨j - 1, by omega⟩
        have HJ := hide hji
        have e1 : (j : Int) - 1 = (i : Int) := by omega
        have i0 : (0 : Int) ≤ (i : Int) := by omega
        have wi : IntKind.i64.wrap (i : Int) = (i : Int) := by rw [IntKind.wrap_i64]; omega
        have i1 : (i : Int) < (n : Int) := by omega
        have j1 : (0 : Int) < (j : Int) := by omega
        have j2 : 0 < j := by omega
        have hP := hide ((hc i (by omega)).below ((Below.refl _ _).alloc (Nat.le_refl _) (.cells #[.int .i64 (ms.getD j R.zero).ad, .int .i64 (ms.getD j R.zero).hd, .int .i64 (ms.getD j R.zero).sy, .int .i64 (ms.getD j R.zero).ci, .int .i64 (ms.getD j R.zero).co, .int .i64 (ms.getD j R.zero).wl] 166)))
        have EJ : ms.getD j R.zero = ms.getD (i + 1) R.zero := by rw [hji]
        clear hc hji
        by_cases hk : (ms.getD i R.zero).ad < (ms.getD j R.zero).ad
        · have HST : Hid (allL ms (j + 1) = true) := hide (Ri.all_succ (unhide hrl) (by rw [unhide HJ]; exact Ri.step_lt (by rw [← EJ]; exact unhide HK) (by rw [← EJ]; exact hk)))
          clear EJ
          generalize ms.getD i R.zero = m0 at *
          obtain ⟨ad0, hd0, sy0, ci0, co0, wl0⟩ := m0
          dsimp only at hk
          generalize ms.getD j R.zero = m at *
          obtain ⟨ad, hd, sy, ci, co, wl⟩ := m
          obtain ⟨c0, c1, c2, c3, c4, c5⟩ := hA
          dsimp only at hk c0 c1 c2 c3 c4 c5
          go_wp2_with fail
          generalize hW : wr.alloc (.cells #[.int .i64 ad, .int .i64 hd, .int .i64 sy, .int .i64 ci, .int .i64 co, .int .i64 wl] 166) = W0 at *
          clear hW
          refine wp_region_noPanic ?_
          refine wp_region_held_drew (S := fun w' => (Bx w' wr.heap.size ⟨ad, hd, sy, ci, co, wl⟩ ∧ At w' g (off + i * 6) ⟨ad0, hd0, sy0, ci0, co0, wl0⟩) ∧ w'.cell? ⟨wr.heap.size, 0, none⟩ = some (.int .i64 ad) ∧ w'.cell? ⟨wr.heap.size, 1, none⟩ = some (.int .i64 hd) ∧ w'.cell? ⟨wr.heap.size, 2, none⟩ = some (.int .i64 sy) ∧ w'.cell? ⟨wr.heap.size, 3, none⟩ = some (.int .i64 ci) ∧ w'.cell? ⟨wr.heap.size, 4, none⟩ = some (.int .i64 co) ∧ w'.cell? ⟨wr.heap.size, 5, none⟩ = some (.int .i64 wl) ∧ w'.cell? ⟨g, off + i * 6, none⟩ = some (.int .i64 ad0)) (by kernel_rfl) (sBox2 (unhide HBX).drew (unhide hP).drew) (fun hHeld => ?_)
          refine Rg.t 0 12 ?_
          (refine Rg.o 1 (fun K hK => ?_); go_simp)
          refine (isLink ad hd sy ci co wl _).mono ?_
          rintro e w2 ⟨rfl, b2⟩
          rw [unhide HK]
          refine hK.out _ _ (sBox2 ((unhide HBX).drew.below b2) ((unhide hP).drew.below b2)) (fun hHeld => ?_)
          clear hK K
          (try simp only [Act.put, List.setIfInBounds_toArray, List.set_cons_zero, List.set_cons_succ])
          refine Rg.t 2 14 ?_
          refine Rg.t 3 15 ?_
          refine Rg.t 4 16 ?_
          refine Rg.t 5 17 ?_
          refine Rg.t 6 18 ?_
          refine Rg.t 7 19 ?_
          refine Rg.t 8 20 ?_
          refine Rg.t 9 21 ?_
          refine Rg.t 10 22 ?_
          refine Rg.t 11 23 ?_
          refine Rg.t 12 24 ?_
          refine Rg.t 13 25 ?_
          refine Rg.t 14 26 ?_
          refine Rg.t 15 27 ?_
          refine Rg.t 16 28 ?_
          refine Rg.t 17 29 ?_
          refine wpAnyH_done (by kernel_rfl) (NoPanic.normal ?_) _
          have hb1 := hide ((unhide HBL).drew.trans (b2.mono (by show w.heap.size ≤ W0.heap.size; exact (unhide HBL).size)))
          go_wp2_with fail
          go_roundw
          case rel => exact ⟨j + 1, by omega, by go_num, HST, hb1⟩
          case measure => simp [intOf]; omega
        · have HST : Hid (linksB ms = false) := hide (Ri.all_no (unhide HL) (show Ri.step R.zero okL R.ad ms j = false by rw [unhide HJ]; exact Ri.step_ge (by rw [← EJ]; omega)))
          clear EJ
          generalize ms.getD i R.zero = m0 at *
          obtain ⟨ad0, hd0, sy0, ci0, co0, wl0⟩ := m0
          dsimp only at hk
          generalize ms.getD j R.zero = m at *
          obtain ⟨ad, hd, sy, ci, co, wl⟩ := m
          obtain ⟨c0, c1, c2, c3, c4, c5⟩ := hA
          dsimp only at hk c0 c1 c2 c3 c4 c5
          go_wp2_with fail
          generalize hW : wr.alloc (.cells #[.int .i64 ad, .int .i64 hd, .int .i64 sy, .int .i64 ci, .int .i64 co, .int .i64 wl] 166) = W0 at *
          clear hW
          refine wp_region_noPanic ?_
          refine wp_region_held_drew (S := fun w' => (Bx w' wr.heap.size ⟨ad, hd, sy, ci, co, wl⟩ ∧ At w' g (off + i * 6) ⟨ad0, hd0, sy0, ci0, co0, wl0⟩) ∧ w'.cell? ⟨wr.heap.size, 0, none⟩ = some (.int .i64 ad) ∧ w'.cell? ⟨wr.heap.size, 1, none⟩ = some (.int .i64 hd) ∧ w'.cell? ⟨wr.heap.size, 2, none⟩ = some (.int .i64 sy) ∧ w'.cell? ⟨wr.heap.size, 3, none⟩ = some (.int .i64 ci) ∧ w'.cell? ⟨wr.heap.size, 4, none⟩ = some (.int .i64 co) ∧ w'.cell? ⟨wr.heap.size, 5, none⟩ = some (.int .i64 wl) ∧ w'.cell? ⟨g, off + i * 6, none⟩ = some (.int .i64 ad0)) (by kernel_rfl) (sBox2 (unhide HBX).drew (unhide hP).drew) (fun hHeld => ?_)
          refine Rg.t 0 12 ?_
          (refine Rg.o 1 (fun K hK => ?_); go_simp)
          refine (isLink ad hd sy ci co wl _).mono ?_
          rintro e w2 ⟨rfl, b2⟩
          rw [unhide HK]
          refine hK.out _ _ (sBox2 ((unhide HBX).drew.below b2) ((unhide hP).drew.below b2)) (fun hHeld => ?_)
          clear hK K
          (try simp only [Act.put, List.setIfInBounds_toArray, List.set_cons_zero, List.set_cons_succ])
          refine Rg.t 2 14 ?_
          refine Rg.t 3 15 ?_
          refine Rg.t 4 16 ?_
          refine Rg.t 5 17 ?_
          refine Rg.t 6 18 ?_
          refine Rg.t 7 19 ?_
          refine Rg.t 8 20 ?_
          refine Rg.t 9 21 ?_
          refine Rg.t 10 22 ?_
          refine Rg.t 11 23 ?_
          refine Rg.t 12 24 ?_
          refine Rg.t 13 25 ?_
          refine Rg.t 14 26 ?_
          refine Rg.t 15 27 ?_
          refine Rg.t 16 28 ?_
          refine Rg.t 17 29 ?_
          refine wpAnyH_done (by kernel_rfl) (NoPanic.normal ?_) _
          have hb1 := hide ((unhide HBL).drew.trans (b2.mono (by show w.heap.size ≤ W0.heap.size; exact (unhide HBL).size)))
          go_wp2_with fail
          go_ret
          exact ⟨ret_bool (unhide HST).symm, unhide hb1⟩
    · obtain rfl : j = n := by omega
      have HO : Hid (linksB ms = true) := hide (by unfold linksB; rw [unhide HN]; exact unhide hrl)
      go_wp2
      go_ret
      exact ⟨ret_bool (unhide HO).symm, unhide hbl⟩
end Ln
end Go.Proofs.YtfooahhdikobeaaGreat
namespace Go.Proofs.YtfooahhdikobeaaGreat
open Go.ChangeShapes Go.WideShapes Go.ChangeAt Go.RowKit
set_option linter.unusedVariables false
namespace Mtr
open W1
def met (c : Nat) : Int := (257 + (c % 256 : Nat)) * 2 ^ (c / 256) - 256
theorem met_step (c : Nat) : met c < met (c + 1) := by
  unfold met
  have hp : (0 : Int) < 2 ^ (c / 256) := Int.pow_pos (by decide)
  by_cases h : c % 256 = 255
  · have h1 : (c + 1) % 256 = 0 := by omega
    have h2 : (c + 1) / 256 = c / 256 + 1 := by omega
    rw [h, h1, h2, Int.pow_succ]
    generalize (2 : Int) ^ (c / 256) = p at *
    omega
  · have h1 : (c + 1) % 256 = c % 256 + 1 := by omega
    have h2 : (c + 1) / 256 = c / 256 := by omega
    rw [h1, h2]
    have := Int.mul_lt_mul_of_pos_right (show (257 + ((c % 256 : Nat) : Int)) < 257 + ((c % 256 + 1 : Nat) : Int) by omega) hp
    omega
theorem met_mono {a b : Nat} (h : a ≤ b) : met a ≤ met b := by
  induction h with
  | refl => exact Int.le_refl _
  | step _ ih => exact Int.le_trans ih (Int.le_of_lt (met_step _))
theorem met_lo (a : Nat) : 1 ≤ met a := by
  have h0 : met 0 = 1 := by decide
  have := met_mono (Nat.zero_le a)
  omega
theorem met_hi {a : Nat} (h : a ≤ 4095) : met a ≤ 16776960 := by
  have h0 : met 4095 = 16776960 := by decide
  have := met_mono h
  omega
/-- k is the least code whose metric is n or more. -/
def IsCode (n : Int) (k : Nat) : Prop := k ≤ 4095 ∧ n ≤ met k ∧ (k = 0 ∨ met (k - 1) < n)
theorem arith1 (c : Nat) : ((c + 1) * 256 + 256 - 256 - 1) % 256 = 255 ∧ ((c + 1) * 256 + 256 - 256 - 1) / 256 = c := by omega
theorem arith2 {b q : Nat} (h : 257 ≤ q) (h' : q < 512) : (b * 256 + q - 256 - 1) % 256 = q - 257 ∧ (b * 256 + q - 256 - 1) / 256 = b := by omega
/-- The least code whose metric is n or more. -/
def mcode (n : Int) : Nat := cnt met 4096 n
theorem mcode_of {n : Int} {k : Nat} (h : IsCode n k) : mcode n = k :=
  cnt_of _ _ _ _ (by have := h.1; omega) (fun c hc => by
    rcases h.2.2 with e | e
    · omega
    · have := met_mono (show c ≤ k - 1 by omega); omega) (fun c hc _ => by have := met_mono hc; have := h.2.1; omega)
/-- The program's way to the code. -/
theorem fast {n : Nat} (h1 : 1 ≤ n) (h2 : n ≤ 16776960) :
    9 ≤ Lib.bitLen (n + 255) ∧ Lib.bitLen (n + 255) ≤ 24 ∧ 256 ≤ (n + 255) / 2 ^ (Lib.bitLen (n + 255) - 9) ∧ (n + 255) / 2 ^ (Lib.bitLen (n + 255) - 9) ≤ 511 ∧
    IsCode n ((Lib.bitLen (n + 255) - 9) * 256 + (n + 255) / 2 ^ (Lib.bitLen (n + 255) - 9) - 256) ∧ (n ≤ 256 → met ((Lib.bitLen (n + 255) - 9) * 256 + (n + 255) / 2 ^ (Lib.bitLen (n + 255) - 9) - 256) = n) := by
  obtain ⟨l1, l2, l3⟩ := Lib.bitLenAux_bounds 64 (n + 255) (by omega) (by omega)
  have hb : Lib.bitLen (n + 255) = Lib.bitLenAux 64 (n + 255) := by rw [Lib.bitLen]
  rw [← hb] at l1 l2 l3
  clear hb
  generalize Lib.bitLen (n + 255) = L at *
  have a1 : 9 ≤ L := by
    rcases Nat.lt_or_ge L 9 with h | h
    · have := Nat.pow_le_pow_right (n := 2) (by decide) (show L ≤ 8 by omega); omega
    · exact h
  have a2 : L ≤ 24 := by
    rcases Nat.lt_or_ge 24 L with h | h
    · have := Nat.pow_le_pow_right (n := 2) (by decide) (show 24 ≤ L - 1 by omega); omega
    · exact h
  obtain ⟨b, rfl⟩ : ∃ b, L = b + 9 := ⟨L - 9, by omega⟩
  have e1 : b + 9 - 1 = b + 8 := by omega
  have e2 : b + 9 - 9 = b := by omega
  rw [e1, Nat.pow_add] at l2
  rw [Nat.pow_add] at l3
  rw [e2]
  have hp : 0 < 2 ^ b := Nat.two_pow_pos _
  have q1 : 256 ≤ (n + 255) / 2 ^ b := (Nat.le_div_iff_mul_le hp).2 (by omega)
  have q2 : (n + 255) / 2 ^ b < 512 := (Nat.div_lt_iff_lt_mul hp).2 (by omega)
  have dm := Nat.div_add_mod (n + 255) (2 ^ b)
  have ml := Nat.mod_lt (n + 255) hp
  generalize hq : (n + 255) / 2 ^ b = q at *
  refine ⟨a1, a2, q1, by omega, ?_⟩
  have k1 : (b * 256 + q - 256) % 256 = q - 256 := by omega
  have k2 : (b * 256 + q - 256) / 256 = b := by omega
  have hme : met (b * 256 + q - 256) = ((2 ^ b * q + 2 ^ b : Nat) : Int) - 256 := by
    unfold met
    rw [k1, k2]
    have : (257 + ((q - 256 : Nat) : Int)) = (q : Int) + 1 := by omega
    rw [this, Int.add_mul]
    simp [Int.mul_comm]
  refine ⟨⟨by omega, by rw [hme]; omega, ?_⟩, ?_⟩
  · by_cases hz : b * 256 + q - 256 = 0
    · exact .inl hz
    · right
      have hm2 : met (b * 256 + q - 256 - 1) = ((2 ^ b * q : Nat) : Int) - 256 := by
        unfold met
        by_cases hq0 : q = 256
        · subst hq0
          obtain ⟨c, rfl⟩ : ∃ c, b = c + 1 := ⟨b - 1, by omega⟩
          obtain ⟨k3, k4⟩ := arith1 c
          rw [k3, k4, Nat.pow_succ]
          simp
          generalize (2 : Int) ^ c = p
          omega
        · obtain ⟨k3, k4⟩ := arith2 (b := b) (show 257 ≤ q by omega) q2
          rw [k3, k4]
          have : (257 + ((q - 257 : Nat) : Int)) = (q : Int) := by omega
          rw [this]
          simp [Int.mul_comm]
      rw [hm2]
      generalize 2 ^ b * q = pq at *
      omega
  · intro hn
    have hb : b = 0 := by
      rcases Nat.eq_zero_or_pos b with h | h
      · exact h
      · have : 2 ^ 1 ≤ 2 ^ b := Nat.pow_le_pow_right (by decide) h
        omega
    subst hb
    rw [hme]
    simp at *
    omega
theorem mcode_is {n : Int} (h0 : 1 ≤ n) (h1 : n ≤ 16776960) : IsCode n (mcode n) := by
  obtain ⟨c, rfl⟩ := Int.eq_ofNat_of_zero_le (show 0 ≤ n by omega)
  obtain ⟨_, _, _, _, hc, _⟩ := fast (n := c) (by omega) (by omega)
  rw [mcode_of hc]; exact hc
theorem and_mask (j : Nat) (hj : j ≤ 16) (x m : Int) (hm : m = ((2 ^ j - 1 : Nat) : Int)) : bits BinOp.and IntKind.i64 x m = x % ((2 ^ j : Nat) : Int) := by
  subst hm
  have hp : 2 ^ j ≤ 2 ^ 16 := Nat.pow_le_pow_right (by decide) hj
  have hp1 : 0 < 2 ^ j := Nat.two_pow_pos j
  have hd : 2 ^ j ∣ 2 ^ 64 := Nat.pow_dvd_pow 2 (by omega)
  show IntKind.i64.wrap ((BitVec.ofInt 64 x &&& BitVec.ofInt 64 ((2 ^ j - 1 : Nat) : Int)).toNat : Int) = _
  rw [BitVec.toNat_and, ofInt_u64 (2 ^ j - 1) (by omega), Nat.and_two_pow_sub_one_eq_mod, BitVec.toNat_ofInt, IntWalk.i64_left]
  have h1 : (((x % ((2 ^ 64 : Nat) : Int)).toNat % 2 ^ j : Nat) : Int) = x % ((2 ^ j : Nat) : Int) := by
    rw [Int.natCast_emod, Int.toNat_of_nonneg (Int.emod_nonneg _ (by decide)), Int.emod_emod_of_dvd _ (Int.natCast_dvd_natCast.2 hd)]
  rw [h1]
  have h2 := Int.emod_nonneg x (show ((2 ^ j : Nat) : Int) ≠ 0 by omega)
  have h3 := Int.emod_lt_of_pos x (show (0 : Int) < ((2 ^ j : Nat) : Int) by omega)
  unfold wrap64
  generalize x % ((2 ^ j : Nat) : Int) = y at *
  omega
theorem and_255 (x : Int) : bits BinOp.and IntKind.i64 x 255 = x % 256 := and_mask 8 (by decide) x 255 rfl
theorem met_wrap {c : Nat} (hc : c ≤ 4095) : wrap64 (wrap64 ((257 + (c : Int) % 256) * 2 ^ (c / 256)) - 256) = met c := by
  have h0 := met_lo c
  have h1 := met_hi hc
  have e : (257 + (c : Int) % 256) * 2 ^ (c / 256) = met c + 256 := by unfold met; simp
  rw [e]
  unfold wrap64
  omega
set_option maxHeartbeats 400000 in
theorem metricAt (c : Nat) (hc : c ≤ 4095) (w : World) : Calls Tryz.prog 220 #[.int .i64 c] w fun e w' => e = .returned (.int .i64 (met c)) ∧ w' = w := by
  go_enter Tryz.func220, Tryz.ntmps220
  go_wp2
  go_ret
  exact ⟨ret_int (met_wrap hc), rfl⟩
theorem met_wrap2 {c : Nat} (hc : c ≤ 4095) : wrap64 (wrap64 (wrap64 (257 + bits BinOp.and IntKind.i64 c 255) * 2 ^ (c / 256)) - 256) = met c := by
  have e : wrap64 (257 + bits BinOp.and IntKind.i64 c 255) = 257 + (c : Int) % 256 := by rw [and_255]; unfold wrap64; omega
  rw [e]; exact met_wrap hc
set_option maxHeartbeats 400000 in
theorem l02Metric (c : Nat) (hc : c ≤ 4095) (w : World) : Calls Tryz.prog 180 #[.int .i64 c] w fun e w' => e = .returned (.int .i64 (met c)) ∧ w' = w := by
  go_enter Tryz.func180, Tryz.ntmps180
  go_wp2
  go_ret
  exact ⟨ret_int (met_wrap2 hc), rfl⟩
set_option maxHeartbeats 400000 in
theorem leastMetric (n : Int) (h0 : 1 ≤ n) (h1 : n ≤ 16776960) (w : World) : Calls Tryz.prog 221 #[.int .i64 n] w fun e w' => e = .returned (.int .i64 (mcode n)) ∧ w' = w := by
  obtain ⟨c, rfl⟩ := Int.eq_ofNat_of_zero_le (show 0 ≤ n by omega)
  obtain ⟨l1, l2, q1, q2, hc, hx⟩ := fast (n := c) (by omega) (by omega)
  obtain ⟨b, hb⟩ : ∃ b, Lib.bitLen (c + 255) = b + 9 := ⟨_, (Nat.sub_add_cancel l1).symm⟩
  have hL : ((Lib.bitLen ((c : Int) + 256 - 1).toNat : Nat) : Int) = (b : Int) + 9 := by
    rw [show ((c : Int) + 256 - 1).toNat = c + 255 by omega, hb]; rfl
  rw [hb, Nat.add_sub_cancel] at hc q1 q2
  rw [hb] at l2
  clear hb l1 hx
  have HC := hide (mcode_of hc)
  clear hc
  have hd : ((c : Int) + 256 - 1) / 2 ^ b = (((c + 255) / 2 ^ b : Nat) : Int) := by
    rw [show (c : Int) + 256 - 1 = ((c + 255 : Nat) : Int) by omega]; simp
  generalize (c + 255) / 2 ^ b = q at *
  go_enter Tryz.func221, Tryz.ntmps221
  go_wp2_with (go_at_call 224; refine (Tryz.bits_Len ((c : Int) + 256 - 1) _ (by omega) (by omega)).mono ?_; rintro e w' ⟨rfl, rfl⟩; rw [hL])
  go_ret
  exact ⟨ret_int (by rw [unhide HC]; omega), rfl⟩
set_option maxHeartbeats 400000 in
theorem l02MetricCode (n : Int) (h0 : 1 ≤ n) (h1 : n ≤ 16776960) (w : World) : Calls Tryz.prog 181 #[.int .i64 n] w fun e w' => (∃ k : Nat, e = .returned (.int .i64 k) ∧ IsCode n k) ∧ w' = w := by
  go_enter Tryz.func181, Tryz.ntmps181
  go_wp2
  go_loop [3, 4] (fun l h => ∃ a b : Nat, l = .int .i64 a ∧ h = .int .i64 b ∧ a ≤ b ∧ b ≤ 4095 ∧ n ≤ met b ∧ (a = 0 ∨ met (a - 1) < n)) (fun l h => (intOf h - intOf l).toNat)
  case atStart => exact ⟨0, 4095, rfl, rfl, by omega, by omega, by rw [show met 4095 = 16776960 by decide]; exact h1, .inl rfl⟩
  case round =>
    obtain ⟨a, b, rfl, rfl, hab, hb, hm, ha⟩ := hrel
    have HM := hide hm
    have HA := hide ha
    clear hm ha
    by_cases hlt : a < b
    · obtain ⟨m, hm1, hm2⟩ : ∃ m : Nat, a ≤ m ∧ m < b ∧ Hid (((a : Int) + b) / 2 = m) := ⟨(a + b) / 2, by omega, by omega, hide (by omega)⟩
      obtain ⟨hm2, HQ⟩ := hm2
      by_cases hge : n ≤ met m
      · go_wp2_with (go_at_call 180; rw [unhide HQ]; refine (l02Metric m (by omega) _).mono ?_; rintro e w' ⟨rfl, rfl⟩)
        go_round
        case rel => exact ⟨a, m, rfl, rfl, by omega, by omega, hge, unhide HA⟩
        case measure => simp [intOf]; omega
      · go_wp2_with (go_at_call 180; rw [unhide HQ]; refine (l02Metric m (by omega) _).mono ?_; rintro e w' ⟨rfl, rfl⟩)
        go_round
        case rel => exact ⟨m + 1, b, by rfl, rfl, by omega, by omega, unhide HM, .inr (by rw [Nat.add_sub_cancel]; exact hge)⟩
        case measure => simp [intOf]; omega
    · have hab' : a = b := by omega
      subst hab'
      go_wp2
      go_ret
      exact ⟨⟨a, rfl, by omega, unhide HM, unhide HA⟩, rfl⟩
theorem l02MetricCodeE (n : Int) (h0 : 1 ≤ n) (h1 : n ≤ 16776960) (w : World) : Calls Tryz.prog 181 #[.int .i64 n] w fun e w' => e = .returned (.int .i64 (mcode n)) ∧ w' = w :=
  (l02MetricCode n h0 h1 w).mono fun e w' ⟨⟨k, he, hk⟩, hw⟩ => ⟨by rw [mcode_of hk]; exact he, hw⟩
end Mtr
end Go.Proofs.YtfooahhdikobeaaGreat
namespace Go.Proofs.YtfooahhdikobeaaGreat
open Go.ChangeShapes Go.WideShapes Go.ChangeAt Go.RowKit
set_option linter.unusedVariables false
namespace Tim
open W1
/-- The time of a code. -/
def tim (c : Nat) : Int := (8 + (c % 8 : Nat)) * 2 ^ (c / 8) / 8
theorem and_mask (j : Nat) (hj : j ≤ 16) (x m : Int) (hm : m = ((2 ^ j - 1 : Nat) : Int)) : bits BinOp.and IntKind.i64 x m = x % ((2 ^ j : Nat) : Int) := by
  subst hm
  have hp : 2 ^ j ≤ 2 ^ 16 := Nat.pow_le_pow_right (by decide) hj
  have hp1 : 0 < 2 ^ j := Nat.two_pow_pos j
  have hd : 2 ^ j ∣ 2 ^ 64 := Nat.pow_dvd_pow 2 (by omega)
  show IntKind.i64.wrap ((BitVec.ofInt 64 x &&& BitVec.ofInt 64 ((2 ^ j - 1 : Nat) : Int)).toNat : Int) = _
  rw [BitVec.toNat_and, ofInt_u64 (2 ^ j - 1) (by omega), Nat.and_two_pow_sub_one_eq_mod, BitVec.toNat_ofInt, IntWalk.i64_left]
  have h1 : (((x % ((2 ^ 64 : Nat) : Int)).toNat % 2 ^ j : Nat) : Int) = x % ((2 ^ j : Nat) : Int) := by
    rw [Int.natCast_emod, Int.toNat_of_nonneg (Int.emod_nonneg _ (by decide)), Int.emod_emod_of_dvd _ (Int.natCast_dvd_natCast.2 hd)]
  rw [h1]
  have h2 := Int.emod_nonneg x (show ((2 ^ j : Nat) : Int) ≠ 0 by omega)
  have h3 := Int.emod_lt_of_pos x (show (0 : Int) < ((2 ^ j : Nat) : Int) by omega)
  unfold wrap64
  generalize x % ((2 ^ j : Nat) : Int) = y at *
  omega
theorem big {c : Nat} (hc : c ≤ 223) : wrap64 ((8 + (c : Int) % 8) * 2 ^ (c / 8)) = (8 + (c : Int) % 8) * 2 ^ (c / 8) := by
  have h1 : (2 : Int) ^ (c / 8) ≤ 134217728 := by
    have hN : (2 : Nat) ^ (c / 8) ≤ 134217728 := Nat.le_trans (Nat.pow_le_pow_right (n := 2) (by omega) (by omega : c / 8 ≤ 27)) (by decide)
    have h := Int.ofNat_le.2 hN
    rw [Int.natCast_pow] at h
    exact h
  have h0 : (0 : Int) < 2 ^ (c / 8) := Int.pow_pos (by omega)
  have h2 : (8 + (c : Int) % 8) * 2 ^ (c / 8) ≤ 15 * 2 ^ (c / 8) := Int.mul_le_mul_of_nonneg_right (by omega) (by omega)
  have h3 : 0 ≤ (8 + (c : Int) % 8) * 2 ^ (c / 8) := Int.mul_nonneg (by omega) (by omega)
  generalize (8 + (c : Int) % 8) * 2 ^ (c / 8) = x at *
  unfold wrap64
  omega
theorem tim_step (c : Nat) : tim c ≤ tim (c + 1) := by
  unfold tim
  have hp : (0 : Int) < 2 ^ (c / 8) := Int.pow_pos (by decide)
  refine Int.ediv_le_ediv (by decide) ?_
  by_cases h : c % 8 = 7
  · have h1 : (c + 1) % 8 = 0 := by omega
    have h2 : (c + 1) / 8 = c / 8 + 1 := by omega
    rw [h, h1, h2, Int.pow_succ]
    generalize (2 : Int) ^ (c / 8) = p at *
    omega
  · have h1 : (c + 1) % 8 = c % 8 + 1 := by omega
    have h2 : (c + 1) / 8 = c / 8 := by omega
    rw [h1, h2]
    exact Int.mul_le_mul_of_nonneg_right (by omega) (by omega)
theorem tim_mono {a b : Nat} (h : a ≤ b) : tim a ≤ tim b := by
  induction h with
  | refl => exact Int.le_refl _
  | step _ ih => exact Int.le_trans ih (tim_step _)
/-- k is the least code whose time is n or more. -/
def IsTime (n : Int) (k : Nat) : Prop := k ≤ 223 ∧ n ≤ tim k ∧ (k = 0 ∨ tim (k - 1) < n)
/-- The least code whose time is n or more. -/
def tcode (n : Int) : Nat := cnt tim 224 n
theorem tcode_of {n : Int} {k : Nat} (h : IsTime n k) : tcode n = k :=
  cnt_of _ _ _ _ (by have := h.1; omega) (fun c hc => by
    rcases h.2.2 with e | e
    · omega
    · have := tim_mono (show c ≤ k - 1 by omega); omega) (fun c hc _ => by have := tim_mono hc; have := h.2.1; omega)
theorem tcode_ex {n : Int} (h1 : n ≤ 251658240) : ∃ k, k ≤ 223 ∧ (∀ c, c < k → tim c < n) ∧ n ≤ tim k := by
  refine Classical.byContradiction fun hno => ?_
  have hall : ∀ k, k ≤ 224 → ∀ c, c < k → tim c < n := by
    intro k
    induction k with
    | zero => intro _ c hc; omega
    | succ k ih =>
      intro hk c hc
      have ih' := ih (by omega)
      by_cases ek : c = k
      · subst ek
        rcases Int.lt_or_le (tim c) n with hh | hh
        · exact hh
        · exact absurd ⟨c, by omega, ih', hh⟩ hno
      · exact ih' c (by omega)
  have := hall 224 (by omega) 223 (by omega)
  rw [show tim 223 = 251658240 by decide] at this
  omega
theorem tcode_is {n : Int} (h1 : n ≤ 251658240) : IsTime n (tcode n) := by
  obtain ⟨k, hk1, hk2, hk3⟩ := tcode_ex h1
  have h : IsTime n k := ⟨hk1, hk3, by
    by_cases e : k = 0
    · exact .inl e
    · exact .inr (hk2 _ (by omega))⟩
  rw [tcode_of h]; exact h
theorem tcode_lt {n : Int} (h1 : n ≤ 251658240) : tcode n ≤ 223 := (tcode_is h1).1
/-- Whether a time is exact. -/
def exTB (n : Int) : Bool := tim (tcode n) == n
/-- Whether a time may be a hello's. -/
def valB (n : Int) : Bool := inB n 1 10000 && exTB n
set_option maxHeartbeats 400000 in
theorem timeAt (c : Nat) (hc : c ≤ 223) (w : World) : Calls Tryz.prog 223 #[.int .i64 c] w fun e w' => e = .returned (.int .i64 (tim c)) ∧ w' = w := by
  go_enter Tryz.func223, Tryz.ntmps223
  go_wp2
  go_ret
  refine ⟨ret_int ?_, rfl⟩
  have := big hc
  unfold tim
  simp [this]
theorem below_drewN {B : Nat} {w w' : World} (h : Below B w w') (q : Nat) : Below B w (w'.drewN q) := ⟨h.os, h.tape, h.output, h.size, h.block⟩
set_option maxHeartbeats 400000 in
theorem cloT (i : Nat) (hi : i ≤ 223) (n : Int) (b : Nat) (w : World) (hc : w.cell? ⟨b, 0, none⟩ = some (.int .i64 n)) :
    Calls Tryz.prog 226 #[.int .i64 i, .pointer (some ⟨b, 0, none⟩)] w fun e w' => e = .returned (.bool (decide (n ≤ tim i))) ∧ Below w.heap.size w w' := by
  by_cases h : n ≤ tim i
  all_goals
    go_enter Tryz.func226, Tryz.ntmps226
    go_wp2_with fail
    go_quiet ((go_at_call 223; exact Calls.quiet_of_same (timeAt i hi _)))
    go_wp2_with fail
    go_ret
    exact ⟨ret_bool (by simp [h]), below_drewN (Below.refl _ _) _⟩
set_option maxHeartbeats 1000000 in
theorem search (b : Nat) (n : Int) (h1 : n ≤ tim 223) (w : World) (hb : w.cell? ⟨b, 0, none⟩ = some (.int .i64 n)) :
    Calls Tryz.prog 225 #[.int .i64 224, .func (.func 226) #[] #[.pointer (some ⟨b, 0, none⟩)]] w fun e w' => e = .returned (.int .i64 (tcode n)) ∧ Below w.heap.size w w' := by
  have HB := hide hb
  have hblt := World.block_lt_of_cell? _ _ hb
  clear hb
  have H1 := hide h1
  clear h1
  go_enter Tryz.func225, Tryz.ntmps225
  go_wp2
  go_loopw [5, 6] (fun lo hi wr => ∃ low high : Nat, low ≤ high ∧ high ≤ 224 ∧ lo = .int .i64 low ∧ hi = .int .i64 high ∧ Hid (∀ i, i < low → tim i < n) ∧ Hid (∀ i, high ≤ i → i < 224 → n ≤ tim i) ∧ Hid (Below w.heap.size w wr)) (fun lo hi _ => (intOf hi - intOf lo).toNat)
  case atStart => exact ⟨0, 224, by omega, by omega, rfl, rfl, hide (fun i hi => by omega), hide (fun i hi h2 => by omega), hide (Below.refl _ _)⟩
  case round =>
    obtain ⟨low, high, hlh, hhn, rfl, rfl, h1, h2, hbl⟩ := hrel
    by_cases hlt : (low : Int) < (high : Int)
    · obtain ⟨mid, hmid⟩ : ∃ mid : Nat, mid = (low + high) / 2 := ⟨_, rfl⟩
      have hm1 : low ≤ mid := by omega
      have hm2 : mid < high := by omega
      have em : ((low : Int) + (high : Int)) / 2 = (mid : Int) := by omega
      have HC := hide ((unhide hbl).cell (p := ⟨b, 0, none⟩) hblt)
      clear hmid
      go_wp2_with fail
      refine (cloT mid (by omega) n b _ ((unhide HC).trans (unhide HB))).mono ?_
      rintro e w1 ⟨rfl, b1⟩
      have hb1 := hide ((unhide hbl).trans (b1.mono (unhide hbl).size))
      clear b1
      by_cases hp : n ≤ tim mid
      · have HST : Hid (∀ i, mid ≤ i → i < 224 → n ≤ tim i) := hide (fun i hi _ => Int.le_trans hp (tim_mono hi))
        rw [decide_eq_true hp]
        go_wp2_with fail
        exact ⟨⟨low, mid, by omega, by omega, rfl, rfl, h1, HST, hb1⟩, by simp [intOf]; omega⟩
      · have HST : Hid (∀ i, i < mid + 1 → tim i < n) := hide (fun i hi => by have := tim_mono (show i ≤ mid by omega); omega)
        rw [decide_eq_false hp]
        go_wp2_with fail
        exact ⟨⟨mid + 1, high, by omega, by omega, by go_num, rfl, HST, h2, hb1⟩, by simp [intOf]; omega⟩
    · obtain rfl : low = high := by omega
      have HT : Hid (tcode n = low) := hide (cnt_of _ _ _ _ hhn (unhide h1) (unhide h2))
      go_wp2_with fail
      go_ret
      exact ⟨ret_int (by rw [unhide HT]), unhide hbl⟩
set_option maxHeartbeats 400000 in
theorem leastTime (n : Int) (h1 : n ≤ 251658240) (w : World) :
    Calls Tryz.prog 222 #[.int .i64 n] w fun e w' => e = .returned (.int .i64 (tcode n)) ∧ Below w.heap.size w w' := by
  go_enter Tryz.func222, Tryz.ntmps222
  go_wp2_with fail
  refine (search w.heap.size n (by rw [show tim 223 = 251658240 by decide]; exact h1) _ (by simp [World.cell?_alloc_new])).mono ?_
  rintro e w1 ⟨rfl, b1⟩
  go_wp2_with fail
  go_ret
  exact ⟨rfl, ((Below.refl _ _).alloc (Nat.le_refl _) _).trans (b1.mono (by simp))⟩
set_option maxHeartbeats 400000 in
theorem isExactTime (n : Int) (h1 : n ≤ 251658240) (w : World) :
    Calls Tryz.prog 217 #[.int .i64 n] w fun e w' => e = .returned (.bool (exTB n)) ∧ Below w.heap.size w w' := by
  have hlt := tcode_lt h1
  have hlt' : ((tcode n : Nat) : Int) < 224 := by omega
  cases hx : tim (tcode n) == n
  all_goals
    have HX := hide hx
    go_enter Tryz.func217, Tryz.ntmps217
    go_wp2_with fail
    refine (leastTime n h1 _).mono ?_
    rintro e w1 ⟨rfl, b1⟩
    have B1 := hide b1
    clear b1
    generalize hk : tcode n = k at *
    have HK := hide hk
    clear hk
    go_wp2_with (go_at_call 223; refine (timeAt k hlt _).mono ?_; rintro e w' ⟨rfl, rfl⟩)
    go_ret
    exact ⟨ret_bool (by unfold exTB; rw [unhide HK, unhide HX]), unhide B1⟩
set_option maxHeartbeats 400000 in
theorem isValid (n : Int) (w : World) : Calls Tryz.prog 202 #[.int .i64 n] w fun e w' => e = .returned (.bool (valB n)) ∧ Below w.heap.size w w' := by
  cases h : inB n 1 10000
  · go_enter Tryz.func202, Tryz.ntmps202
    go_wp2_with (go_at_call 88; refine (within _ _ _ _).mono ?_; rintro e w' ⟨rfl, rfl⟩)
    go_ret
    exact ⟨ret_bool (by simp [valB, h]), Below.refl _ _⟩
  · have h0 : 1 ≤ n ∧ n ≤ 10000 := by simpa [inB] using h
    have HH := hide h
    go_enter Tryz.func202, Tryz.ntmps202
    go_wp2_with (first | (go_at_call 88; refine (within _ _ _ _).mono ?_; rintro e w' ⟨rfl, rfl⟩) | (go_at_call 217; refine (isExactTime n (by omega) _).mono ?_; rintro e w' ⟨rfl, b1⟩))
    go_ret
    exact ⟨ret_bool (by simp [valB, unhide HH]), b1⟩
end Tim
end Go.Proofs.YtfooahhdikobeaaGreat
namespace Go.Proofs.YtfooahhdikobeaaGreat
open Go.ChangeShapes Go.WideShapes Go.ChangeAt Go.RowKit
set_option linter.unusedVariables false
set_option linter.unusedSimpArgs false
attribute [local go_sem ↓] Go.wp_at_zero Go.wp_at_succ
namespace Av
open W1 Ed
/-- A metric that has a code of its own. -/
def exM (n : Int) : Bool := Mtr.met (Mtr.mcode n) == n
def toldB (n : Int) : Bool := inB n 1 16744192 && exM n
def okN (m : R) : Bool := inB m.ad 1 8 && toldB m.mt
abbrev allN (ms : List R) (j : Nat) : Bool := Ri.all R.zero okN R.ad ms j
/-- Whether an advertisement is right. -/
def tcB (ansn valid : Int) (ms : List R) : Bool := inB ansn 0 65535 && (Tim.valB valid && allN ms ms.length)
theorem ok_ad {m : R} (h : okN m = true) : 1 ≤ m.ad ∧ m.ad ≤ 8 := by
  unfold okN inB at h; simp at h; exact h.1
theorem all_len {ms : List R} (h : allN ms ms.length = true) : ms.length ≤ 8 := by
  have := Ri.all_long (lo := 1) (hi := 8) (fun m hm => ok_ad hm) h; omega
theorem tc_all {ansn valid : Int} {ms : List R} (h : tcB ansn valid ms = true) : allN ms ms.length = true := by
  unfold tcB at h; simp at h; exact h.2.2
set_option maxHeartbeats 400000 in
theorem isTold (n : Int) (w : World) : Calls Tryz.prog 213 #[.int .i64 n] w fun e w' => e = .returned (.bool (toldB n)) ∧ w' = w := by
  cases h : inB n 1 16744192
  · go_enter Tryz.func213, Tryz.ntmps213
    go_wp2_with (go_at_call 88; refine (within _ _ _ _).mono ?_; rintro e w' ⟨rfl, rfl⟩)
    go_ret
    exact ⟨ret_bool (by simp [toldB, h]), rfl⟩
  · have h0 : 1 ≤ n ∧ n ≤ 16744192 := by simpa [inB] using h
    have HH := hide h
    have hk := (Mtr.mcode_is (n := n) (by omega) (by omega)).1
    have E : Hid (toldB n = (Mtr.met (Mtr.mcode n) == n)) := hide (by unfold toldB exM; rw [h]; rfl)
    generalize hq : Mtr.mcode n = k at *
    have HQ := hide hq
    clear hq
    cases hx : Mtr.met k == n
    all_goals
      go_enter Tryz.func213, Tryz.ntmps213
      go_wp2_with (first | (go_at_call 88; refine (within _ _ _ _).mono ?_; rintro e w' ⟨rfl, rfl⟩) | (go_at_call 221; refine (Mtr.leastMetric n (by omega) (by omega) _).mono ?_; rintro e w' ⟨rfl, rfl⟩; rw [unhide HQ]) | (go_at_call 220; refine (Mtr.metricAt k hk _).mono ?_; rintro e w' ⟨rfl, rfl⟩))
      go_ret
      exact ⟨ret_bool (by rw [unhide E, hx]), rfl⟩
set_option maxHeartbeats 1000000 in
theorem isEdge (ad mt : Int) (w : World) :
    Calls Tryz.prog 203 #[.agg #[.int .i64 ad, .int .i64 mt]] w fun e w' => e = .returned (.bool (okN ⟨ad, mt⟩)) ∧ Below w.heap.size w w' := by
  have E : Hid (okN ⟨ad, mt⟩ = (inB ad 1 8 && toldB mt)) := hide rfl
  cases h1 : inB ad 1 8
  rotate_left
  cases h3 : toldB mt
  all_goals
    go_enter Tryz.func203, Tryz.ntmps203
    go_wp2_with (first | (go_at_call 109; refine (isAddress _ _).mono ?_; rintro e w' ⟨rfl, rfl⟩) | (go_at_call 213; refine (isTold _ _).mono ?_; rintro e w' ⟨rfl, rfl⟩))
    go_ret
    exact ⟨ret_bool (by rw [unhide E]; simp [*]), (Below.refl _ _).alloc (Nat.le_refl _) _⟩
set_option maxHeartbeats 400000 in
theorem l04Ex (n : Int) (h0 : 1 ≤ n) (h1 : n ≤ 16744192) (w : World) : Calls Tryz.prog 141 #[.int .i64 n] w fun e w' => e = .returned (.bool (exM n)) ∧ w' = w := by
  have hk := (Mtr.mcode_is (n := n) (by omega) (by omega)).1
  have E : Hid (exM n = (Mtr.met (Mtr.mcode n) == n)) := hide rfl
  generalize hq : Mtr.mcode n = k at *
  have HQ := hide hq
  clear hq
  cases hx : Mtr.met k == n
  all_goals
    go_enter Tryz.func141, Tryz.ntmps141
    go_wp2_with (first | (go_at_call 181; refine (Mtr.l02MetricCodeE n (by omega) (by omega) _).mono ?_; rintro e w' ⟨rfl, rfl⟩; rw [unhide HQ]) | (go_at_call 180; refine (Mtr.l02Metric k hk _).mono ?_; rintro e w' ⟨rfl, rfl⟩))
    go_ret
    exact ⟨ret_bool (by rw [unhide E, hx]), rfl⟩
end Av
end Go.Proofs.YtfooahhdikobeaaGreat
namespace Go.Proofs.YtfooahhdikobeaaGreat
open Go.ChangeShapes Go.WideShapes Go.ChangeAt Go.RowKit
set_option linter.unusedVariables false
set_option linter.unusedSimpArgs false
attribute [local go_sem ↓] Go.wp_at_zero Go.wp_at_succ
namespace Av
open W1 Ed
/-- An edge in a variable's block. -/
def Bx (w : World) (b : Nat) (m : R) : Prop := w.cell? ⟨b, 0, none⟩ = some (.int .i64 m.ad) ∧ w.cell? ⟨b, 1, none⟩ = some (.int .i64 m.mt)
theorem Bx.below {w w' : World} {b : Nat} {m : R} (h : Bx w b m) (hb : Below w.heap.size w w') : Bx w' b m := by
  have hg : b < w.heap.size := World.block_lt_of_cell? _ _ h.1
  obtain ⟨h0, h1⟩ := h
  refine ⟨?_, ?_⟩ <;> (rw [hb.cell hg]; assumption)
theorem Bx.drew {w : World} {b : Nat} {m : R} (h : Bx w b m) : Bx w.drew b m := h
theorem bx_new (w : World) (m : R) (t : Nat) : Bx (w.alloc (.cells #[.int .i64 m.ad, .int .i64 m.mt] t)) w.heap.size m := by
  refine ⟨?_, ?_⟩ <;> simp [World.cell?_alloc_new]
theorem sBox {w : World} {b : Nat} {ad mt : Int} (h : Bx w b ⟨ad, mt⟩) : Bx w b ⟨ad, mt⟩ ∧ w.cell? ⟨b, 0, none⟩ = some (.int .i64 ad) ∧ w.cell? ⟨b, 1, none⟩ = some (.int .i64 mt) := ⟨h, h⟩
theorem sBox2 {w : World} {b g p B : Nat} {m : R} {ad mt will valid : Int} {v : Value} (h : Bx w b ⟨ad, mt⟩) (h' : At w g p m) (hB : Bx3 w B will valid v) :
    (Bx w b ⟨ad, mt⟩ ∧ At w g p m ∧ Bx3 w B will valid v) ∧ w.cell? ⟨b, 0, none⟩ = some (.int .i64 ad) ∧ w.cell? ⟨b, 1, none⟩ = some (.int .i64 mt) ∧ w.cell? ⟨g, p, none⟩ = some (.int .i64 m.ad) ∧ w.cell? ⟨B, 2, none⟩ = some v := ⟨⟨h, h', hB⟩, h.1, h.2, h'.1, hB.2.2⟩
set_option maxRecDepth 100000 in
set_option maxHeartbeats 4000000 in
theorem implOK (will valid : Int) (a : Option Addr) (ms : List R) (cap : Nat) (w : World) (hm : ms.length ≤ 1048576) (hr : RM w a ms) :
    Calls Tryz.prog 170 #[.agg #[.int .i64 will, .int .i64 valid, .slice a ms.length cap]] w fun e w' => e = .returned (.bool (tcB will valid ms)) ∧ Below w.heap.size w w' := by
  cases h1 : inB will 0 65535
  · have HF := hide (show tcB will valid ms = false by unfold tcB; rw [h1]; rfl)
    go_enter Tryz.func170, Tryz.ntmps170
    go_wp2_with (go_at_call 111; refine (isSeq _ _).mono ?_; rintro e w' ⟨rfl, rfl⟩)
    go_ret
    exact ⟨ret_bool (unhide HF).symm, (Below.refl _ _).alloc (Nat.le_refl _) _⟩
  cases h2 : Tim.valB valid
  · have HF := hide (show tcB will valid ms = false by unfold tcB; rw [h1, h2]; rfl)
    go_enter Tryz.func170, Tryz.ntmps170
    go_wp2_with (go_at_call 111; refine (isSeq _ _).mono ?_; rintro e w' ⟨rfl, rfl⟩)
    refine (Tim.isValid valid _).mono ?_
    rintro e w1 ⟨rfl, b1⟩
    have HB1 : Hid (Below w.heap.size w w1) := hide (((Below.refl _ _).alloc (Nat.le_refl _) _).trans (b1.mono (by simp)))
    clear b1
    go_wp2_with fail
    go_ret
    exact ⟨ret_bool (unhide HF).symm, unhide HB1⟩
  have HT : Hid (allN ms ms.length = true → tcB will valid ms = true) := hide (fun h => by unfold tcB; rw [h1, h2, h]; rfl)
  have HF : Hid (allN ms ms.length = false → tcB will valid ms = false) := hide (fun h => by unfold tcB; rw [h1, h2, h]; rfl)
  have HR := hide hr
  clear hr
  generalize hN : ms.length = n at *
  have HN := hide hN
  clear hN
  go_enter Tryz.func170, Tryz.ntmps170
  go_wp2_with (go_at_call 111; refine (isSeq _ _).mono ?_; rintro e w' ⟨rfl, rfl⟩)
  refine (Tim.isValid valid _).mono ?_
  rintro e w1 ⟨rfl, b1⟩
  have HB1 : Hid (Below w.heap.size w w1) := hide (((Below.refl _ _).alloc (Nat.le_refl _) _).trans (b1.mono (by simp)))
  have HX1 := hide ((bx3_new w will valid (.slice a n cap) 203).below b1)
  have hbx := (unhide HX1).2.2
  have HR1 := hide ((unhide HR).below (unhide HB1))
  clear b1 HR
  go_wp2
  clear hbx
  go_loopw [18] (fun i wr => ∃ j : Nat, j ≤ n ∧ i = .int .i64 j ∧ Hid (allN ms j = true) ∧ Hid (Below w1.heap.size w1 wr)) (fun i _ => n - (intOf i).toNat)
  case atStart => exact ⟨0, by omega, rfl, hide Ri.all_zero, hide (Below.refl _ _)⟩
  case round =>
    obtain ⟨j, hj, rfl, hrl, hbl⟩ := hrel
    by_cases hlt : (j : Int) < (n : Int)
    · have k0 : (0 : Int) ≤ (j : Int) := by omega
      have hlen : j < ms.length := by rw [unhide HN]; omega
      have HX := hide ((unhide HX1).below (unhide hbl))
      rcases (unhide HR1).below (by exact (unhide hbl)) with e0 | ⟨g, off, rfl, hc⟩
      · exfalso; rw [e0] at hlen; simp at hlen
      have HL := hide hlen
      have hA := hc j hlen
      have hsz := (unhide hbl).size
      have HBX := hide (bx_new wr (ms.getD j R.zero) 183)
      have HBL := hide ((unhide hbl).alloc hsz (.cells #[.int .i64 (ms.getD j R.zero).ad, .int .i64 (ms.getD j R.zero).mt] 183))
      have HXA := hide ((unhide HX).below ((Below.refl _ _).alloc (Nat.le_refl _) (.cells #[.int .i64 (ms.getD j R.zero).ad, .int .i64 (ms.getD j R.zero).mt] 183)))
      clear HX
      cases hk : okN (ms.getD j R.zero)
      · clear hc
        have HST := hide (unhide HF (by have := Ri.all_no hlen (Ri.step_bad (key := R.ad) hk); exact (unhide HN) ▸ this))
        have HK := hide hk
        clear hk
        generalize ms.getD j R.zero = m at *
        obtain ⟨ad, mt⟩ := m
        obtain ⟨c0, c1⟩ := hA
        dsimp only at c0 c1
        go_wp2_with fail
        generalize hW : wr.alloc (.cells #[.int .i64 ad, .int .i64 mt] 183) = W0 at *
        clear hW
        refine wp_region_noPanic ?_
        refine wp_region_held_drew (S := fun w' => Bx w' wr.heap.size ⟨ad, mt⟩ ∧ w'.cell? ⟨wr.heap.size, 0, none⟩ = some (.int .i64 ad) ∧ w'.cell? ⟨wr.heap.size, 1, none⟩ = some (.int .i64 mt)) (by kernel_rfl) (sBox (unhide HBX).drew) (fun hHeld => ?_)
        refine Rg.t 0 23 ?_
        (refine Rg.o 1 (fun K hK => ?_); go_simp)
        refine (isEdge ad mt _).mono ?_
        rintro e w2 ⟨rfl, b2⟩
        rw [unhide HK]
        refine hK.out _ _ (sBox ((unhide HBX).drew.below b2)) (fun hHeld => ?_)
        clear hK K
        (try simp only [Act.put, List.setIfInBounds_toArray, List.set_cons_zero, List.set_cons_succ])
        refine Rg.t 2 25 ?_
        refine Rg.t 3 26 ?_
        refine Rg.s 4 27 ?_
        refine Rg.s 5 28 ?_
        refine Rg.s 6 29 ?_
        refine Rg.s 7 30 ?_
        refine Rg.s 8 31 ?_
        refine Rg.s 9 32 ?_
        refine Rg.s 10 33 ?_
        refine Rg.s 11 34 ?_
        refine Rg.s 12 35 ?_
        refine Rg.s 13 36 ?_
        refine Rg.s 14 37 ?_
        refine Rg.s 15 38 ?_
        refine Rg.s 16 39 ?_
        refine Rg.s 17 40 ?_
        refine Rg.t 18 41 ?_
        refine wpAnyH_done (by kernel_rfl) (NoPanic.normal ?_) _
        have hb1 := hide ((unhide HB1).trans (((unhide HBL).drew.trans (b2.mono (by show w1.heap.size ≤ W0.heap.size; exact (unhide HBL).size))).mono (unhide HB1).size))
        go_wp2_with fail
        go_ret
        exact ⟨ret_bool (unhide HST).symm, unhide hb1⟩
      have HK := hide hk
      clear hk
      by_cases hj0 : j = 0
      · subst hj0
        clear hc
        rw [Nat.zero_mul, Nat.add_zero] at hA
        have HST := hide (Ri.all_succ (unhide hrl) (Ri.step_zero (key := R.ad) (unhide HK)))
        generalize ms.getD 0 R.zero = m at *
        obtain ⟨ad, mt⟩ := m
        obtain ⟨c0, c1⟩ := hA
        dsimp only at c0 c1
        go_wp2_with fail
        generalize hW : wr.alloc (.cells #[.int .i64 ad, .int .i64 mt] 183) = W0 at *
        clear hW
        refine wp_region_noPanic ?_
        refine wp_region_held_drew (S := fun w' => Bx w' wr.heap.size ⟨ad, mt⟩ ∧ w'.cell? ⟨wr.heap.size, 0, none⟩ = some (.int .i64 ad) ∧ w'.cell? ⟨wr.heap.size, 1, none⟩ = some (.int .i64 mt)) (by kernel_rfl) (sBox (unhide HBX).drew) (fun hHeld => ?_)
        refine Rg.t 0 23 ?_
        (refine Rg.o 1 (fun K hK => ?_); go_simp)
        refine (isEdge ad mt _).mono ?_
        rintro e w2 ⟨rfl, b2⟩
        rw [unhide HK]
        refine hK.out _ _ (sBox ((unhide HBX).drew.below b2)) (fun hHeld => ?_)
        clear hK K
        (try simp only [Act.put, List.setIfInBounds_toArray, List.set_cons_zero, List.set_cons_succ])
        refine Rg.t 2 25 ?_
        refine Rg.t 3 26 ?_
        refine Rg.t 4 27 ?_
        refine Rg.t 5 28 ?_
        refine Rg.t 6 29 ?_
        refine Rg.s 7 30 ?_
        refine Rg.s 8 31 ?_
        refine Rg.s 9 32 ?_
        refine Rg.s 10 33 ?_
        refine Rg.s 11 34 ?_
        refine Rg.s 12 35 ?_
        refine Rg.s 13 36 ?_
        refine Rg.s 14 37 ?_
        refine Rg.s 15 38 ?_
        refine Rg.s 16 39 ?_
        refine Rg.t 17 40 ?_
        refine Rg.t 18 41 ?_
        refine wpAnyH_done (by kernel_rfl) (NoPanic.normal ?_) _
        have hb1 := hide ((unhide HBL).drew.trans (b2.mono (by show w1.heap.size ≤ W0.heap.size; exact (unhide HBL).size)))
        go_wp2_with fail
        go_roundw
        case rel => exact ⟨0 + 1, by omega, by go_num, HST, hb1⟩
        case measure => simp [intOf]; omega
      · obtain ⟨i, hji⟩ : ∃ i, j = i + 1 := ⟨j - 1, by omega⟩
        have HJ := hide hji
        have e1 : (j : Int) - 1 = (i : Int) := by omega
        have i0 : (0 : Int) ≤ (i : Int) := by omega
        have wi : IntKind.i64.wrap (i : Int) = (i : Int) := by rw [IntKind.wrap_i64]; omega
        have i1 : (i : Int) < (n : Int) := by omega
        have j1 : (0 : Int) < (j : Int) := by omega
        have j2 : 0 < j := by omega
        have hP := hide ((hc i (by omega)).below ((Below.refl _ _).alloc (Nat.le_refl _) (.cells #[.int .i64 (ms.getD j R.zero).ad, .int .i64 (ms.getD j R.zero).mt] 183)))
        have EJ : ms.getD j R.zero = ms.getD (i + 1) R.zero := by rw [hji]
        clear hc hji
        by_cases hk : (ms.getD i R.zero).ad < (ms.getD j R.zero).ad
        · have HST : Hid (allN ms (j + 1) = true) := hide (Ri.all_succ (unhide hrl) (by rw [unhide HJ]; exact Ri.step_lt (by rw [← EJ]; exact unhide HK) (by rw [← EJ]; exact hk)))
          clear EJ
          generalize ms.getD j R.zero = m at *
          generalize ms.getD i R.zero = m0 at *
          obtain ⟨ad, mt⟩ := m
          obtain ⟨ad0, mt0⟩ := m0
          dsimp only at hk
          obtain ⟨c0, c1⟩ := hA
          dsimp only at c0 c1
          go_wp2_with fail
          generalize hW : wr.alloc (.cells #[.int .i64 ad, .int .i64 mt] 183) = W0 at *
          clear hW
          refine wp_region_noPanic ?_
          refine wp_region_held_drew (S := fun w' => (Bx w' wr.heap.size ⟨ad, mt⟩ ∧ At w' g (off + i * 2) ⟨ad0, mt0⟩ ∧ Bx3 w' w.heap.size will valid (.slice (some ⟨g, off, none⟩) n cap)) ∧ w'.cell? ⟨wr.heap.size, 0, none⟩ = some (.int .i64 ad) ∧ w'.cell? ⟨wr.heap.size, 1, none⟩ = some (.int .i64 mt) ∧ w'.cell? ⟨g, off + i * 2, none⟩ = some (.int .i64 ad0) ∧ w'.cell? ⟨w.heap.size, 2, none⟩ = some (.slice (some ⟨g, off, none⟩) n cap)) (by kernel_rfl) (sBox2 (unhide HBX).drew (unhide hP).drew (unhide HXA).drew) (fun hHeld => ?_)
          refine Rg.t 0 23 ?_
          (refine Rg.o 1 (fun K hK => ?_); go_simp)
          refine (isEdge ad mt _).mono ?_
          rintro e w2 ⟨rfl, b2⟩
          rw [unhide HK]
          refine hK.out _ _ (sBox2 ((unhide HBX).drew.below b2) ((unhide hP).drew.below b2) ((unhide HXA).drew.below b2)) (fun hHeld => ?_)
          clear hK K
          (try simp only [Act.put, List.setIfInBounds_toArray, List.set_cons_zero, List.set_cons_succ])
          refine Rg.t 2 25 ?_
          refine Rg.t 3 26 ?_
          refine Rg.t 4 27 ?_
          refine Rg.t 5 28 ?_
          refine Rg.t 6 29 ?_
          refine Rg.t 7 30 ?_
          refine Rg.t 8 31 ?_
          refine Rg.t 9 32 ?_
          refine Rg.t 10 33 ?_
          refine Rg.t 11 34 ?_
          refine Rg.t 12 35 ?_
          refine Rg.t 13 36 ?_
          refine Rg.t 14 37 ?_
          refine Rg.t 15 38 ?_
          refine Rg.t 16 39 ?_
          refine Rg.t 17 40 ?_
          refine Rg.t 18 41 ?_
          refine wpAnyH_done (by kernel_rfl) (NoPanic.normal ?_) _
          have hb1 := hide ((unhide HBL).drew.trans (b2.mono (by show w1.heap.size ≤ W0.heap.size; exact (unhide HBL).size)))
          go_wp2_with fail
          go_roundw
          case rel => exact ⟨j + 1, by omega, by go_num, HST, hb1⟩
          case measure => simp [intOf]; omega
        · have HST : Hid (tcB will valid ms = false) := hide (unhide HF (by have := Ri.all_no (unhide HL) (show Ri.step R.zero okN R.ad ms j = false by rw [unhide HJ]; exact Ri.step_ge (by rw [← EJ]; omega)); exact (unhide HN) ▸ this))
          clear EJ
          generalize ms.getD j R.zero = m at *
          generalize ms.getD i R.zero = m0 at *
          obtain ⟨ad, mt⟩ := m
          obtain ⟨ad0, mt0⟩ := m0
          dsimp only at hk
          obtain ⟨c0, c1⟩ := hA
          dsimp only at c0 c1
          go_wp2_with fail
          generalize hW : wr.alloc (.cells #[.int .i64 ad, .int .i64 mt] 183) = W0 at *
          clear hW
          refine wp_region_noPanic ?_
          refine wp_region_held_drew (S := fun w' => (Bx w' wr.heap.size ⟨ad, mt⟩ ∧ At w' g (off + i * 2) ⟨ad0, mt0⟩ ∧ Bx3 w' w.heap.size will valid (.slice (some ⟨g, off, none⟩) n cap)) ∧ w'.cell? ⟨wr.heap.size, 0, none⟩ = some (.int .i64 ad) ∧ w'.cell? ⟨wr.heap.size, 1, none⟩ = some (.int .i64 mt) ∧ w'.cell? ⟨g, off + i * 2, none⟩ = some (.int .i64 ad0) ∧ w'.cell? ⟨w.heap.size, 2, none⟩ = some (.slice (some ⟨g, off, none⟩) n cap)) (by kernel_rfl) (sBox2 (unhide HBX).drew (unhide hP).drew (unhide HXA).drew) (fun hHeld => ?_)
          refine Rg.t 0 23 ?_
          (refine Rg.o 1 (fun K hK => ?_); go_simp)
          refine (isEdge ad mt _).mono ?_
          rintro e w2 ⟨rfl, b2⟩
          rw [unhide HK]
          refine hK.out _ _ (sBox2 ((unhide HBX).drew.below b2) ((unhide hP).drew.below b2) ((unhide HXA).drew.below b2)) (fun hHeld => ?_)
          clear hK K
          (try simp only [Act.put, List.setIfInBounds_toArray, List.set_cons_zero, List.set_cons_succ])
          refine Rg.t 2 25 ?_
          refine Rg.t 3 26 ?_
          refine Rg.t 4 27 ?_
          refine Rg.t 5 28 ?_
          refine Rg.t 6 29 ?_
          refine Rg.t 7 30 ?_
          refine Rg.t 8 31 ?_
          refine Rg.t 9 32 ?_
          refine Rg.t 10 33 ?_
          refine Rg.t 11 34 ?_
          refine Rg.t 12 35 ?_
          refine Rg.t 13 36 ?_
          refine Rg.t 14 37 ?_
          refine Rg.t 15 38 ?_
          refine Rg.t 16 39 ?_
          refine Rg.t 17 40 ?_
          refine Rg.t 18 41 ?_
          refine wpAnyH_done (by kernel_rfl) (NoPanic.normal ?_) _
          have hb1 := hide ((unhide HB1).trans (((unhide HBL).drew.trans (b2.mono (by show w1.heap.size ≤ W0.heap.size; exact (unhide HBL).size))).mono (unhide HB1).size))
          go_wp2_with fail
          go_ret
          exact ⟨ret_bool (unhide HST).symm, unhide hb1⟩
    · obtain rfl : j = n := by omega
      go_wp2
      go_ret
      exact ⟨ret_bool (unhide HT (unhide hrl)).symm, (unhide HB1).trans ((unhide hbl).mono (unhide HB1).size)⟩
set_option maxRecDepth 100000 in
set_option maxHeartbeats 4000000 in
theorem l05Edges (a : Option Addr) (ms : List R) (cap : Nat) (w : World) (hm : ms.length ≤ 1048576) (hr : RM w a ms) :
    Calls Tryz.prog 138 #[.slice a ms.length cap] w fun e w' => e = .returned (.bool (allN ms ms.length)) ∧ ∃ q, w' = w.drewN q := by
  have HT : Hid (allN ms ms.length = true → ms.length ≤ 8) := hide all_len
  have HR := hide hr
  clear hr
  obtain ⟨A, hA⟩ : ∃ A, allN ms ms.length = A := ⟨_, rfl⟩
  have HA := hide hA
  rw [hA]
  clear hA
  generalize hN : ms.length = n at *
  have HN := hide hN
  clear hN
  go_enter Tryz.func138, Tryz.ntmps138
  go_wp2_with fail
  go_loopw [3] (fun i wr => ∃ j : Nat, j ≤ n ∧ i = .int .i64 j ∧ Hid (allN ms j = true) ∧ Hid (∃ q, wr = w.drewN q)) (fun i _ => n - (intOf i).toNat)
  case atStart => exact ⟨0, by omega, rfl, hide Ri.all_zero, hide ⟨0, rfl⟩⟩
  case round =>
    obtain ⟨j, hj, rfl, hrl, hq⟩ := hrel
    have HRr : Hid (RM wr a ms) := hide (by obtain ⟨q, e⟩ := unhide hq; rw [e]; exact unhide HR)
    have HD : Hid (∀ m, ∃ q, wr.drewN m = w.drewN q) := hide (fun m => by obtain ⟨q, e⟩ := unhide hq; exact ⟨_, by rw [e, World.drewN_drewN]⟩)
    by_cases hlt : (j : Int) < (n : Int)
    · have k0 : (0 : Int) ≤ (j : Int) := by omega
      have hlen : j < ms.length := by rw [unhide HN]; omega
      rcases unhide HRr with e0 | ⟨g, off, rfl, hc⟩
      · exfalso; rw [e0] at hlen; simp at hlen
      have HL := hide hlen
      have hA := hc j hlen
      cases hk : okN (ms.getD j R.zero)
      · clear hc
        have HST : Hid (A = false) := hide (by rw [← unhide HA, ← unhide HN]; exact Ri.all_no hlen (Ri.step_bad (key := R.ad) hk))
        generalize ms.getD j R.zero = m at *
        obtain ⟨ad, mt⟩ := m
        obtain ⟨c0, c1⟩ := hA
        dsimp only at c0 c1
        have hk' : (inB ad 1 8 && (inB mt 1 16744192 && exM mt)) = false := hk
        clear hk
        cases h1 : inB ad 1 8
        rotate_left
        cases h2 : inB mt 1 16744192
        rotate_left
        have hmt : 1 ≤ mt ∧ mt ≤ 16744192 := by simpa [inB] using h2
        have h3 : exM mt = false := by rw [h1, h2] at hk'; simpa using hk'
        all_goals
          clear hk'
          go_wp2_with fail
          go_quiet ((first | (go_at_call 124; exact Calls.quiet_of_same (l01Addr _ _)) | (go_at_call 43; exact Calls.quiet_of_same (l01In _ _ _ _)) | (go_at_call 141; exact Calls.quiet_of_same (l04Ex mt (by omega) (by omega) _))))
          go_wp2_with fail
          go_ret
          exact ⟨ret_bool (unhide HST).symm, unhide HD _⟩
      have hk' : (inB (ms.getD j R.zero).ad 1 8 && (inB (ms.getD j R.zero).mt 1 16744192 && exM (ms.getD j R.zero).mt)) = true := hk
      simp only [Bool.and_eq_true] at hk'
      obtain ⟨h1, h2, h3⟩ := hk'
      have hmt : 1 ≤ (ms.getD j R.zero).mt ∧ (ms.getD j R.zero).mt ≤ 16744192 := by simpa [inB] using h2
      have HO := hide hk
      clear hk
      by_cases hj0 : j = 0
      · subst hj0
        clear hc
        rw [Nat.zero_mul, Nat.add_zero] at hA
        have HST := hide (Ri.all_succ (unhide hrl) (Ri.step_zero (key := R.ad) (unhide HO)))
        generalize ms.getD 0 R.zero = m at *
        obtain ⟨ad, mt⟩ := m
        obtain ⟨c0, c1⟩ := hA
        dsimp only at c0 c1 h1 h2 h3 hmt
        go_wp2_with fail
        go_quiet ((first | (go_at_call 124; exact Calls.quiet_of_same (l01Addr _ _)) | (go_at_call 43; exact Calls.quiet_of_same (l01In _ _ _ _)) | (go_at_call 141; exact Calls.quiet_of_same (l04Ex mt (by omega) (by omega) _))))
        go_wp2_with fail
        go_roundw
        case rel => exact ⟨0 + 1, by omega, by go_num, HST, hide (unhide HD _)⟩
        case measure => simp [intOf]; omega
      · obtain ⟨i, hji⟩ : ∃ i, j = i + 1 := ⟨j - 1, by omega⟩
        have HJ := hide hji
        have e1 : (j : Int) - 1 = (i : Int) := by omega
        have i0 : (0 : Int) ≤ (i : Int) := by omega
        have wi : IntKind.i64.wrap (i : Int) = (i : Int) := by rw [IntKind.wrap_i64]; omega
        have i1 : (i : Int) < (n : Int) := by omega
        have j1 : (0 : Int) < (j : Int) := by omega
        have j2 : 0 < j := by omega
        have hP := hc i (by omega)
        have EJ : ms.getD j R.zero = ms.getD (i + 1) R.zero := by rw [hji]
        clear hc hji
        by_cases hk : (ms.getD i R.zero).ad < (ms.getD j R.zero).ad
        · have HST : Hid (allN ms (j + 1) = true) := hide (Ri.all_succ (unhide hrl) (by rw [unhide HJ]; exact Ri.step_lt (by rw [← EJ]; exact unhide HO) (by rw [← EJ]; exact hk)))
          clear EJ
          generalize ms.getD j R.zero = m at *
          generalize ms.getD i R.zero = m0 at *
          obtain ⟨ad, mt⟩ := m
          obtain ⟨ad0, mt0⟩ := m0
          obtain ⟨c0, c1⟩ := hA
          obtain ⟨d0, d1⟩ := hP
          dsimp only at hk c0 c1 d0 d1 h1 h2 h3 hmt
          go_wp2_with fail
          go_quiet ((first | (go_at_call 124; exact Calls.quiet_of_same (l01Addr _ _)) | (go_at_call 43; exact Calls.quiet_of_same (l01In _ _ _ _)) | (go_at_call 141; exact Calls.quiet_of_same (l04Ex mt (by omega) (by omega) _))))
          go_wp2_with fail
          go_roundw
          case rel => exact ⟨j + 1, by omega, by go_num, HST, hide (unhide HD _)⟩
          case measure => simp [intOf]; omega
        · have HST : Hid (A = false) := hide (by rw [← unhide HA, ← unhide HN]; exact Ri.all_no (unhide HL) (show Ri.step R.zero okN R.ad ms j = false by rw [unhide HJ]; exact Ri.step_ge (by rw [← EJ]; omega)))
          clear EJ
          generalize ms.getD j R.zero = m at *
          generalize ms.getD i R.zero = m0 at *
          obtain ⟨ad, mt⟩ := m
          obtain ⟨ad0, mt0⟩ := m0
          obtain ⟨c0, c1⟩ := hA
          obtain ⟨d0, d1⟩ := hP
          dsimp only at hk c0 c1 d0 d1 h1 h2 h3 hmt
          go_wp2_with fail
          go_quiet ((first | (go_at_call 124; exact Calls.quiet_of_same (l01Addr _ _)) | (go_at_call 43; exact Calls.quiet_of_same (l01In _ _ _ _)) | (go_at_call 141; exact Calls.quiet_of_same (l04Ex mt (by omega) (by omega) _))))
          go_wp2_with fail
          go_ret
          exact ⟨ret_bool (unhide HST).symm, unhide HD _⟩
    · obtain rfl : j = n := by omega
      have ht : A = true := by rw [← unhide HA, ← unhide hrl]
      have h8 := unhide HT (unhide hrl)
      have h8' : (j : Int) ≤ 8 := by omega
      have HST := hide ht
      clear ht
      go_wp2
      go_ret
      exact ⟨ret_bool (unhide HST).symm, unhide hq⟩
end Av
end Go.Proofs.YtfooahhdikobeaaGreat
namespace Go.Proofs.YtfooahhdikobeaaGreat
open Go.ChangeShapes Go.WideShapes Go.ChangeAt Go.RowKit
set_option linter.unusedVariables false
set_option linter.unusedSimpArgs false
set_option maxRecDepth 100000
attribute [local go_sem ↓] Go.wp_at_zero Go.wp_at_succ
namespace Rt
open W1
/-- Whether what a router keeps of a link can be advertised. -/
def outB (co sy : Int) : Bool := if (co == 0) = true then sy == 0 else Av.toldB co
def lkB (me : Int) (x : Lk.R) : Bool := !(x.ad == me) && outB x.co x.sy
def twB (me : Int) (m : Tu.R) : Bool := !(Tw.hv m == me) && !(Tw.ha m == me)
def lksB (me : Int) (ls : List Lk.R) : Bool := Ln.linksB ls && ls.all (lkB me)
def twoOf (me : Int) (tw : List Tu.R) : Bool := Tw.twoB tw && tw.all (twB me)
def rtrB (x1 x2 x3 x4 x5 x6 : Int) (ls : List Lk.R) (tw se du : List Tu.R) (ss : List So.R) (es : List Tu.R) (la : List Ed.R) : Bool :=
  inB x1 1 8 && (inB x2 0 7 && (inB x3 0 65535 && (inB x4 0 65535 && (inB x5 0 100000 && (inB x6 0 1000000 && (lksB x1 ls && (twoOf x1 tw && (St.setB se && (St.setB du && (Tp.topB ss es && (!(Tp.hasS ss x1) && Av.allN la la.length)))))))))))
theorem all_no {α : Type} {p : α → Bool} {z : α} {ms : List α} {j : Nat} (h : j < ms.length) (hp : p (ms.getD j z) = false) : ms.all p = false := by
  rw [List.all_eq_false]
  refine ⟨ms.getD j z, ?_, by rw [hp]; simp⟩
  rw [List.getD_eq_getElem?_getD, List.getElem?_eq_getElem h]; exact List.getElem_mem h
theorem all_step {α : Type} {p : α → Bool} {z : α} {ms : List α} {j : Nat} (h : j < ms.length) (ha : (ms.take j).all p = true) (hp : p (ms.getD j z) = true) : (ms.take (j + 1)).all p = true := by
  rw [List.take_add_one, List.getElem?_eq_getElem h, List.all_append, ha]
  rw [List.getD_eq_getElem?_getD, List.getElem?_eq_getElem h] at hp
  simpa using hp
set_option maxHeartbeats 2000000 in
theorem isOutOf (ad hd sy ci co wl : Int) (w : World) :
    Calls Tryz.prog 198 #[.agg #[.int .i64 ad, .int .i64 hd, .int .i64 sy, .int .i64 ci, .int .i64 co, .int .i64 wl]] w fun e w' => e = .returned (.bool (outB co sy)) ∧ Below w.heap.size w w' := by
  have E : Hid (outB co sy = if (co == 0) = true then sy == 0 else Av.toldB co) := hide rfl
  cases h1 : (co == 0)
  · go_enter Tryz.func198, Tryz.ntmps198
    go_wp2_with (go_at_call 213; refine (Av.isTold _ _).mono ?_; rintro e w' ⟨rfl, rfl⟩)
    go_ret
    exact ⟨ret_bool (by rw [unhide E, h1]; simp), (Below.refl _ _).alloc (Nat.le_refl _) _⟩
  · go_enter Tryz.func198, Tryz.ntmps198
    go_wp2_with fail
    go_ret
    exact ⟨ret_bool (by rw [unhide E, h1]; simp), (Below.refl _ _).alloc (Nat.le_refl _) _⟩
set_option maxHeartbeats 4000000 in
theorem areLinksOf (me : Int) (a : Option Addr) (ls : List Lk.R) (cap : Nat) (w : World) (hm : ls.length ≤ 1048576) (hr : Lk.RM w a ls) :
    Calls Tryz.prog 165 #[.int .i64 me, .slice a ls.length cap] w fun e w' => e = .returned (.bool (lksB me ls)) ∧ Below w.heap.size w w' := by
  have HR := hide hr
  clear hr
  have E : Hid (lksB me ls = (Ln.linksB ls && ls.all (lkB me))) := hide rfl
  have KL := hide (fun W => Ln.implOK a ls cap W hm)
  cases hl : Ln.linksB ls
  · have hv : lksB me ls = false := by rw [unhide E, hl]; rfl
    rw [hv]
    rw [hl] at KL
    clear hv hl
    go_enter Tryz.func165, Tryz.ntmps165
    go_wp2_with fail
    refine (unhide KL _ (unhide HR)).mono ?_
    rintro e w1 ⟨rfl, b1⟩
    have HB1 := hide b1
    clear b1
    go_wp2_with fail
    go_ret
    exact ⟨rfl, unhide HB1⟩
  have h8 := Ln.links_len hl
  have HE : Hid (lksB me ls = ls.all (lkB me)) := hide (by rw [unhide E, hl]; rfl)
  rw [hl] at KL
  clear hl E
  obtain ⟨A, hA⟩ : ∃ A, lksB me ls = A := ⟨_, rfl⟩
  rw [hA] at HE ⊢
  clear hA
  generalize hN : ls.length = n at *
  have HN := hide hN
  clear hN
  go_enter Tryz.func165, Tryz.ntmps165
  go_wp2_with fail
  refine (unhide KL _ (unhide HR)).mono ?_
  rintro e w1 ⟨rfl, b1⟩
  have HB1 := hide b1
  clear b1
  go_wp2_with fail
  go_loopw [12] (fun i wr => ∃ j : Nat, j ≤ n ∧ i = .int .i64 j ∧ Hid ((ls.take j).all (lkB me) = true) ∧ Hid (Below w.heap.size w wr)) (fun i _ => n - (intOf i).toNat)
  case atStart => exact ⟨0, by omega, rfl, hide rfl, HB1⟩
  case round =>
    obtain ⟨j, hj, rfl, hal, hbl⟩ := hrel
    have hbs := (unhide hbl).size
    by_cases hlt : (j : Int) < (n : Int)
    · have k0 : (0 : Int) ≤ (j : Int) := by omega
      have hlen : j < ls.length := by rw [unhide HN]; omega
      obtain ⟨g, off, rfl⟩ := (unhide HR).form (by omega)
      have hA := ((unhide HR).below (unhide hbl)).at hlen
      have HY : Hid (lkB me (ls.getD j Lk.R.zero) = true → (ls.take (j + 1)).all (lkB me) = true) := hide (fun h => all_step hlen (unhide hal) h)
      have HZ : Hid (lkB me (ls.getD j Lk.R.zero) = false → A = false) := hide (fun h => by rw [unhide HE]; exact all_no hlen h)
      generalize ls.getD j Lk.R.zero = m at *
      obtain ⟨ad, hd, sy, ci, co, wl⟩ := m
      obtain ⟨c0, c1, c2, c3, c4, c5⟩ := hA
      dsimp only at c0 c1 c2 c3 c4 c5
      have EK : Hid (lkB me ⟨ad, hd, sy, ci, co, wl⟩ = (!(ad == me) && outB co sy)) := hide rfl
      have HB2 := hide ((unhide hbl).alloc hbs (.cells #[.int .i64 ad, .int .i64 hd, .int .i64 sy, .int .i64 ci, .int .i64 co, .int .i64 wl] 166))
      cases q1 : (ad == me)
      · have KO := hide (isOutOf ad hd sy ci co wl)
        cases q2 : outB co sy
        · have hf := unhide HZ (by rw [unhide EK, q1, q2]; rfl)
          rw [q2] at KO
          clear q2 HY HZ EK
          go_wp2_with fail
          generalize hWW : wr.alloc (.cells #[.int .i64 ad, .int .i64 hd, .int .i64 sy, .int .i64 ci, .int .i64 co, .int .i64 wl] 166) = WW at *
          clear hWW c0 c1 c2 c3 c4 c5
          refine (unhide KO _).mono ?_
          rintro e w3 ⟨rfl, b3⟩
          have HB3 := hide ((unhide HB2).trans (b3.mono (unhide HB2).size))
          clear b3
          go_wp2_with fail
          go_ret
          exact ⟨ret_bool hf.symm, unhide HB3⟩
        · have hy := hide (unhide HY (by rw [unhide EK, q1, q2]; rfl))
          rw [q2] at KO
          clear q2 HY HZ EK
          go_wp2_with fail
          generalize hWW : wr.alloc (.cells #[.int .i64 ad, .int .i64 hd, .int .i64 sy, .int .i64 ci, .int .i64 co, .int .i64 wl] 166) = WW at *
          clear hWW c0 c1 c2 c3 c4 c5
          refine (unhide KO _).mono ?_
          rintro e w3 ⟨rfl, b3⟩
          have HB3 := hide ((unhide HB2).trans (b3.mono (unhide HB2).size))
          clear b3
          go_wp2_with fail
          go_roundw
          case rel => exact ⟨j + 1, by omega, by go_num, hy, HB3⟩
          case measure => simp [intOf]; omega
      · have hf := unhide HZ (by rw [unhide EK, q1]; rfl)
        clear HY HZ EK
        go_wp2_with fail
        go_ret
        exact ⟨ret_bool hf.symm, unhide HB2⟩
    · obtain rfl : j = n := by omega
      have e : ls.take j = ls := List.take_of_length_le (by rw [unhide HN]; exact Nat.le_refl _)
      have ht : A = true := by rw [unhide HE, ← e]; exact unhide hal
      have HT := hide ht
      clear e ht
      go_wp2_with fail
      go_ret
      exact ⟨ret_bool (unhide HT).symm, unhide hbl⟩
set_option maxHeartbeats 4000000 in
theorem areTwoOf (me : Int) (a : Option Addr) (tw : List Tu.R) (cap : Nat) (w : World) (hm : tw.length ≤ 1048576) (hr : Tu.RM w a tw) :
    Calls Tryz.prog 166 #[.int .i64 me, .slice a tw.length cap] w fun e w' => e = .returned (.bool (twoOf me tw)) ∧ Below w.heap.size w w' := by
  have HR := hide hr
  clear hr
  have E : Hid (twoOf me tw = (Tw.twoB tw && tw.all (twB me))) := hide rfl
  have KL := hide (fun W => Tw.areHops a tw cap W hm)
  cases hl : Tw.twoB tw
  · have hv : twoOf me tw = false := by rw [unhide E, hl]; rfl
    rw [hv]
    rw [hl] at KL
    clear hv hl
    go_enter Tryz.func166, Tryz.ntmps166
    go_wp2_with fail
    refine (unhide KL _ (unhide HR)).mono ?_
    rintro e w1 ⟨rfl, b1⟩
    have HB1 := hide b1
    clear b1
    go_wp2_with fail
    go_ret
    exact ⟨rfl, unhide HB1⟩
  have h62 := Tw.two_len hl
  have HTW := hide hl
  have HE : Hid (twoOf me tw = tw.all (twB me)) := hide (by rw [unhide E, hl]; rfl)
  rw [hl] at KL
  clear hl E
  obtain ⟨A, hA⟩ : ∃ A, twoOf me tw = A := ⟨_, rfl⟩
  rw [hA] at HE ⊢
  clear hA
  generalize hN : tw.length = n at *
  have HN := hide hN
  clear hN
  go_enter Tryz.func166, Tryz.ntmps166
  go_wp2_with fail
  refine (unhide KL _ (unhide HR)).mono ?_
  rintro e w1 ⟨rfl, b1⟩
  have HB1 := hide b1
  clear b1
  go_wp2_with fail
  go_loopw [13] (fun i wr => ∃ j : Nat, j ≤ n ∧ i = .int .i64 j ∧ Hid ((tw.take j).all (twB me) = true) ∧ Hid (Below w.heap.size w wr)) (fun i _ => n - (intOf i).toNat)
  case atStart => exact ⟨0, by omega, rfl, hide rfl, HB1⟩
  case round =>
    obtain ⟨j, hj, rfl, hal, hbl⟩ := hrel
    have hbs := (unhide hbl).size
    by_cases hlt : (j : Int) < (n : Int)
    · have k0 : (0 : Int) ≤ (j : Int) := by omega
      have hlen : j < tw.length := by rw [unhide HN]; omega
      obtain ⟨g, off, rfl⟩ := (unhide HR).form (by omega)
      have hA := ((unhide HR).below (unhide hbl)).at hlen
      have HY : Hid (twB me (tw.getD j Tu.R.zero) = true → (tw.take (j + 1)).all (twB me) = true) := hide (fun h => all_step hlen (unhide hal) h)
      have HZ : Hid (twB me (tw.getD j Tu.R.zero) = false → A = false) := hide (fun h => by rw [unhide HE]; exact all_no hlen h)
      have hbd := St.ok_bounds (St.setB_ok (Tw.two_set (unhide HTW)) hlen)
      generalize tw.getD j Tu.R.zero = m at *
      obtain ⟨key, til, val⟩ := m
      obtain ⟨c0, c1, c2⟩ := hA
      dsimp only at c0 c1 c2 hbd
      have EK : Hid (twB me ⟨key, til, val⟩ = (!(key.tdiv 100 == me) && !(key.tmod 100 == me))) := hide rfl
      have KH := hide (fun W => Tw.hopOfKey key W (by omega) (by omega))
      obtain ⟨kd, hkd⟩ : ∃ kd, key.tdiv 100 = kd := ⟨_, rfl⟩
      obtain ⟨km, hkm⟩ : ∃ km, key.tmod 100 = km := ⟨_, rfl⟩
      rw [hkd, hkm] at EK KH
      clear hkd hkm hbd
      have HB2 := hide ((unhide hbl).alloc hbs (.cells #[.int .i64 key, .int .i64 til, .int .i64 val] 99))
      go_wp2_with fail
      generalize hWW : wr.alloc (.cells #[.int .i64 key, .int .i64 til, .int .i64 val] 99) = WW at *
      clear hWW c0 c1 c2
      refine (unhide KH _).mono ?_
      rintro e w3 ⟨rfl, b3⟩
      have HB3 := hide (((unhide HB2).trans (b3.mono (unhide HB2).size)).alloc (Nat.le_trans (unhide HB2).size b3.size) (.cells #[.int .i64 kd, .int .i64 km] 145))
      clear b3
      cases q1 : (kd == me)
      · cases q2 : (km == me)
        · have hy := hide (unhide HY (by rw [unhide EK, q1, q2]; rfl))
          clear HY HZ EK
          go_wp2_with fail
          go_roundw
          case rel => exact ⟨j + 1, by omega, by go_num, hy, HB3⟩
          case measure => simp [intOf]; omega
        · have hf := unhide HZ (by rw [unhide EK, q1, q2]; rfl)
          clear HY HZ EK
          go_wp2_with fail
          go_ret
          exact ⟨ret_bool hf.symm, unhide HB3⟩
      · have hf := unhide HZ (by rw [unhide EK, q1]; rfl)
        clear HY HZ EK
        go_wp2_with fail
        go_ret
        exact ⟨ret_bool hf.symm, unhide HB3⟩
    · obtain rfl : j = n := by omega
      have e : tw.take j = tw := List.take_of_length_le (by rw [unhide HN]; exact Nat.le_refl _)
      have ht : A = true := by rw [unhide HE, ← e]; exact unhide hal
      have HT := hide ht
      clear e ht
      go_wp2_with fail
      go_ret
      exact ⟨ret_bool (unhide HT).symm, unhide hbl⟩
end Rt
end Go.Proofs.YtfooahhdikobeaaGreat
namespace Go.Proofs.YtfooahhdikobeaaGreat
open Go.ChangeShapes Go.WideShapes Go.ChangeAt Go.RowKit
set_option linter.unusedVariables false
set_option linter.unusedSimpArgs false
set_option maxRecDepth 100000
attribute [local go_sem ↓] Go.wp_at_zero Go.wp_at_succ
namespace Nt
open W1 Rt
/-- All places below n. -/
def allI (n : Nat) (p : Nat → Bool) : Bool := (List.range n).all p
theorem allI_no {n : Nat} {p : Nat → Bool} {j : Nat} (h : j < n) (hp : p j = false) : allI n p = false := by
  unfold allI
  rw [List.all_eq_false]
  exact ⟨j, List.mem_range.2 h, by rw [hp]; simp⟩
theorem allI_yes {n : Nat} {p : Nat → Bool} (h : ∀ i, i < n → p i = true) : allI n p = true := by
  unfold allI
  rw [List.all_eq_true]
  exact fun i hi => h i (List.mem_range.1 hi)
theorem up_to {p : Nat → Bool} {j : Nat} (h : ∀ i, i < j → p i = true) (hj : p j = true) : ∀ i, i < j + 1 → p i = true := fun i hi => by
  by_cases e : i = j
  · subst e; exact hj
  · exact h i (by omega)
/-- A cost at a place of n routers' rows. -/
def cok (cs : List Int) (n i : Nat) : Bool := inB (cs.getD i 0) 0 256 && (!(decide (i / n = i % n)) || cs.getD i 0 == 0)
def costB (cs : List Int) (n : Nat) : Bool := cs.length == n * n && allI cs.length (cok cs n)
theorem diag {n i : Nat} (h1 : 1 ≤ n) (h6 : n ≤ 6) (hi : i < n * n) : (i % (n + 1) = 0) ↔ (i / n = i % n) := by
  have key : ∀ n, n < 7 → 1 ≤ n → ∀ i, i < 36 → i < n * n → ((i % (n + 1) = 0) ↔ (i / n = i % n)) := by decide +kernel
  exact key n (by omega) h1 i (Nat.lt_of_lt_of_le hi (Nat.mul_le_mul h6 h6)) hi
/-- A frame of n routers at a time. -/
def fok (f : Fm.R) (n : Nat) (t : Int) : Bool := inB f.fr 1 n && (inB f.tt 1 n && (!(f.fr == f.tt) && (inB f.ti t (t + 1) && decide ((f.bs.size : Int) ≤ 900))))
def airB (fs : List Fm.R) (n : Nat) (t : Int) : Bool := decide (fs.length ≤ 200) && allI fs.length fun i => fok (fs.getD i Fm.R.zero) n t
def okM (m : Rm) : Bool := rtrB m.x1 m.x2 m.x3 m.x4 m.x5 m.x6 m.ls m.tw m.se m.du m.ss m.es m.la
def rok (m : Rm) (i : Nat) (t : Int) : Bool := okM m && (m.x1 == (i : Int) + 1 && decide (m.x5 ≤ t))
def rtsB (ms : List Rm) (t : Int) : Bool := allI ms.length fun i => rok (ms.getD i Rm.zero) i t
/-- Whether a net is right. -/
def netB (ms : List Rm) (cs : List Int) (fs : List Fm.R) (t : Int) : Bool := inB t 0 100000 && (inB ms.length 1 6 && (rtsB ms t && (costB cs ms.length && airB fs ms.length t)))
end Nt
end Go.Proofs.YtfooahhdikobeaaGreat
namespace Go.Proofs.YtfooahhdikobeaaGreat
open Go.ChangeShapes Go.WideShapes Go.ChangeAt Go.RowKit
set_option linter.unusedVariables false
set_option linter.unusedSimpArgs false
set_option maxRecDepth 100000
attribute [local go_sem ↓] Go.wp_at_zero Go.wp_at_succ
namespace Rt
open W1
theorem RA.but {w w' : World} {b : Nat} {cs : List Value} (h : RA w b cs) (hb : w'.heap[b]? = w.heap[b]?) : RA w' b cs := by
  have c : ∀ q, w'.cell? ⟨b, q, none⟩ = w.cell? ⟨b, q, none⟩ := fun q => World.cell?_of_block (a := ⟨b, q, none⟩) hb
  have f : ∀ q, w'.frozen? ⟨b, q, none⟩ = w.frozen? ⟨b, q, none⟩ := fun q => World.frozen?_of_block (a := ⟨b, q, none⟩) hb
  exact ⟨fun j u hu => (c _).trans (h.1 j u hu), fun j hj => ⟨by rw [c]; exact (h.2.1 j hj).1, by rw [f]; exact (h.2.1 j hj).2⟩, h.2.2⟩
theorem cells13 : Tryz.prog.cellsOf 114 = 13 := by kernel_rfl
theorem cells_int : Tryz.prog.cellsOf 3 = 1 := by kernel_rfl
theorem cells_lk : Tryz.prog.cellsOf 107 = 1 := by kernel_rfl
theorem cells_tu : Tryz.prog.cellsOf 108 = 1 := by kernel_rfl
theorem cells_so : Tryz.prog.cellsOf 109 = 1 := by kernel_rfl
theorem cells_ed : Tryz.prog.cellsOf 112 = 1 := by kernel_rfl
theorem cells_top : Tryz.prog.cellsOf 111 = 2 := by kernel_rfl
theorem list13 {α : Type} {l : List α} (h : l.length = 13) : ∃ c0 c1 c2 c3 c4 c5 c6 c7 c8 c9 c10 c11 c12, l = [c0, c1, c2, c3, c4, c5, c6, c7, c8, c9, c10, c11, c12] := by
  match l, h with
  | [c0, c1, c2, c3, c4, c5, c6, c7, c8, c9, c10, c11, c12], _ => exact ⟨c0, c1, c2, c3, c4, c5, c6, c7, c8, c9, c10, c11, c12, rfl⟩
theorem list12 {α : Type} {l : List α} (h : l.length = 12) : ∃ x0 x1 x2 x3 x4 x5 x6 x7 x8 x9 x10 x11, l = [x0, x1, x2, x3, x4, x5, x6, x7, x8, x9, x10, x11] := by
  match l, h with
  | [x0, x1, x2, x3, x4, x5, x6, x7, x8, x9, x10, x11], _ => exact ⟨x0, x1, x2, x3, x4, x5, x6, x7, x8, x9, x10, x11, rfl⟩
end Rt
end Go.Proofs.YtfooahhdikobeaaGreat
namespace Go.Proofs.YtfooahhdikobeaaGreat
open Go.ChangeShapes Go.WideShapes Go.ChangeAt Go.RowKit
set_option linter.unusedVariables false
set_option linter.unusedSimpArgs false
set_option maxRecDepth 100000
namespace Rt
open W1
/-- Seven lists that lie one behind the other between two bounds of the heap. -/
def RL (W : World) (lo hi : Nat) (a1 a2 a3 a4 a5 a6 a7 : Option Addr) (ls : List Lk.R) (tw : List Tu.R) (se : List Tu.R) (du : List Tu.R) (ss : List So.R) (es : List Tu.R) (la : List Ed.R) : Prop :=
  ∃ b1 b2 b3 b4 b5 b6 : Nat, (lo ≤ b1 ∧ b1 ≤ b2 ∧ b2 ≤ b3 ∧ b3 ≤ b4 ∧ b4 ≤ b5 ∧ b5 ≤ b6 ∧ b6 ≤ hi) ∧ Lk.Lst W a1 (ls) lo b1 ∧ Tu.Lst W a2 (tw) b1 b2 ∧ Tu.Lst W a3 (se) b2 b3 ∧ Tu.Lst W a4 (du) b3 b4 ∧ So.Lst W a5 (ss) b4 b5 ∧ Tu.Lst W a6 (es) b5 b6 ∧ Ed.Lst W a7 (la) b6 hi
theorem RL.below {W W' : World} {lo hi : Nat} {a1 a2 a3 a4 a5 a6 a7 : Option Addr} {ls : List Lk.R} {tw : List Tu.R} {se : List Tu.R} {du : List Tu.R} {ss : List So.R} {es : List Tu.R} {la : List Ed.R} (h : RL W lo hi a1 a2 a3 a4 a5 a6 a7 ls tw se du ss es la) (hb : Below W.heap.size W W') : RL W' lo hi a1 a2 a3 a4 a5 a6 a7 ls tw se du ss es la := by
  obtain ⟨b1, b2, b3, b4, b5, b6, ⟨o0, o1, o2, o3, o4, o5, o6⟩, h1, h2, h3, h4, h5, h6, h7⟩ := h
  exact ⟨b1, b2, b3, b4, b5, b6, ⟨o0, o1, o2, o3, o4, o5, o6⟩, h1.below hb, h2.below hb, h3.below hb, h4.below hb, h5.below hb, h6.below hb, h7.below hb⟩
theorem RL.but {W W' : World} {lo hi L H : Nat} {a1 a2 a3 a4 a5 a6 a7 : Option Addr} {ls : List Lk.R} {tw : List Tu.R} {se : List Tu.R} {du : List Tu.R} {ss : List So.R} {es : List Tu.R} {la : List Ed.R} (h : RL W lo hi a1 a2 a3 a4 a5 a6 a7 ls tw se du ss es la) (hs : W.heap.size ≤ W'.heap.size) (hb : ∀ k, k < W.heap.size → (k < L ∨ H ≤ k) → W'.heap[k]? = W.heap[k]?) (hd : hi ≤ L ∨ H ≤ lo) : RL W' lo hi a1 a2 a3 a4 a5 a6 a7 ls tw se du ss es la := by
  obtain ⟨b1, b2, b3, b4, b5, b6, ⟨o0, o1, o2, o3, o4, o5, o6⟩, h1, h2, h3, h4, h5, h6, h7⟩ := h
  exact ⟨b1, b2, b3, b4, b5, b6, ⟨o0, o1, o2, o3, o4, o5, o6⟩, h1.but (p := fun k => k < L ∨ H ≤ k) hs (fun k hk h => hb k hk h) (fun k h1 h2 => by omega), h2.but (p := fun k => k < L ∨ H ≤ k) hs (fun k hk h => hb k hk h) (fun k h1 h2 => by omega), h3.but (p := fun k => k < L ∨ H ≤ k) hs (fun k hk h => hb k hk h) (fun k h1 h2 => by omega), h4.but (p := fun k => k < L ∨ H ≤ k) hs (fun k hk h => hb k hk h) (fun k h1 h2 => by omega), h5.but (p := fun k => k < L ∨ H ≤ k) hs (fun k hk h => hb k hk h) (fun k h1 h2 => by omega), h6.but (p := fun k => k < L ∨ H ≤ k) hs (fun k hk h => hb k hk h) (fun k h1 h2 => by omega), h7.but (p := fun k => k < L ∨ H ≤ k) hs (fun k hk h => hb k hk h) (fun k h1 h2 => by omega)⟩
theorem RL.r1 {W : World} {lo hi : Nat} {a1 a2 a3 a4 a5 a6 a7 : Option Addr} {ls : List Lk.R} {tw : List Tu.R} {se : List Tu.R} {du : List Tu.R} {ss : List So.R} {es : List Tu.R} {la : List Ed.R} (h : RL W lo hi a1 a2 a3 a4 a5 a6 a7 ls tw se du ss es la) : Lk.RM W a1 ls := by obtain ⟨b1, b2, b3, b4, b5, b6, ⟨o0, o1, o2, o3, o4, o5, o6⟩, h1, h2, h3, h4, h5, h6, h7⟩ := h; exact h1.rm
theorem RL.r2 {W : World} {lo hi : Nat} {a1 a2 a3 a4 a5 a6 a7 : Option Addr} {ls : List Lk.R} {tw : List Tu.R} {se : List Tu.R} {du : List Tu.R} {ss : List So.R} {es : List Tu.R} {la : List Ed.R} (h : RL W lo hi a1 a2 a3 a4 a5 a6 a7 ls tw se du ss es la) : Tu.RM W a2 tw := by obtain ⟨b1, b2, b3, b4, b5, b6, ⟨o0, o1, o2, o3, o4, o5, o6⟩, h1, h2, h3, h4, h5, h6, h7⟩ := h; exact h2.rm
theorem RL.r3 {W : World} {lo hi : Nat} {a1 a2 a3 a4 a5 a6 a7 : Option Addr} {ls : List Lk.R} {tw : List Tu.R} {se : List Tu.R} {du : List Tu.R} {ss : List So.R} {es : List Tu.R} {la : List Ed.R} (h : RL W lo hi a1 a2 a3 a4 a5 a6 a7 ls tw se du ss es la) : Tu.RM W a3 se := by obtain ⟨b1, b2, b3, b4, b5, b6, ⟨o0, o1, o2, o3, o4, o5, o6⟩, h1, h2, h3, h4, h5, h6, h7⟩ := h; exact h3.rm
theorem RL.r4 {W : World} {lo hi : Nat} {a1 a2 a3 a4 a5 a6 a7 : Option Addr} {ls : List Lk.R} {tw : List Tu.R} {se : List Tu.R} {du : List Tu.R} {ss : List So.R} {es : List Tu.R} {la : List Ed.R} (h : RL W lo hi a1 a2 a3 a4 a5 a6 a7 ls tw se du ss es la) : Tu.RM W a4 du := by obtain ⟨b1, b2, b3, b4, b5, b6, ⟨o0, o1, o2, o3, o4, o5, o6⟩, h1, h2, h3, h4, h5, h6, h7⟩ := h; exact h4.rm
theorem RL.r5 {W : World} {lo hi : Nat} {a1 a2 a3 a4 a5 a6 a7 : Option Addr} {ls : List Lk.R} {tw : List Tu.R} {se : List Tu.R} {du : List Tu.R} {ss : List So.R} {es : List Tu.R} {la : List Ed.R} (h : RL W lo hi a1 a2 a3 a4 a5 a6 a7 ls tw se du ss es la) : So.RM W a5 ss := by obtain ⟨b1, b2, b3, b4, b5, b6, ⟨o0, o1, o2, o3, o4, o5, o6⟩, h1, h2, h3, h4, h5, h6, h7⟩ := h; exact h5.rm
theorem RL.r6 {W : World} {lo hi : Nat} {a1 a2 a3 a4 a5 a6 a7 : Option Addr} {ls : List Lk.R} {tw : List Tu.R} {se : List Tu.R} {du : List Tu.R} {ss : List So.R} {es : List Tu.R} {la : List Ed.R} (h : RL W lo hi a1 a2 a3 a4 a5 a6 a7 ls tw se du ss es la) : Tu.RM W a6 es := by obtain ⟨b1, b2, b3, b4, b5, b6, ⟨o0, o1, o2, o3, o4, o5, o6⟩, h1, h2, h3, h4, h5, h6, h7⟩ := h; exact h6.rm
theorem RL.r7 {W : World} {lo hi : Nat} {a1 a2 a3 a4 a5 a6 a7 : Option Addr} {ls : List Lk.R} {tw : List Tu.R} {se : List Tu.R} {du : List Tu.R} {ss : List So.R} {es : List Tu.R} {la : List Ed.R} (h : RL W lo hi a1 a2 a3 a4 a5 a6 a7 ls tw se du ss es la) : Ed.RM W a7 la := by obtain ⟨b1, b2, b3, b4, b5, b6, ⟨o0, o1, o2, o3, o4, o5, o6⟩, h1, h2, h3, h4, h5, h6, h7⟩ := h; exact h7.rm
theorem RL.le {W : World} {lo hi : Nat} {a1 a2 a3 a4 a5 a6 a7 : Option Addr} {ls : List Lk.R} {tw : List Tu.R} {se : List Tu.R} {du : List Tu.R} {ss : List So.R} {es : List Tu.R} {la : List Ed.R} (h : RL W lo hi a1 a2 a3 a4 a5 a6 a7 ls tw se du ss es la) : lo ≤ hi := by obtain ⟨b1, b2, b3, b4, b5, b6, ⟨o0, o1, o2, o3, o4, o5, o6⟩, h1, h2, h3, h4, h5, h6, h7⟩ := h; omega
theorem toRL (x1 x2 x3 x4 x5 x6 : Int) (a1 a2 a3 a4 a5 a6 a7 : Option Addr) (c1 c2 c3 c4 c5 c6 c7 : Nat) (ls : List Lk.R) (tw : List Tu.R) (se : List Tu.R) (du : List Tu.R) (ss : List So.R) (es : List Tu.R) (la : List Ed.R) (w : World) (hm1 : ls.length ≤ 1048576) (hm2 : tw.length ≤ 1048576) (hm3 : se.length ≤ 1048576) (hm4 : du.length ≤ 1048576) (hm5 : ss.length ≤ 1048576) (hm6 : es.length ≤ 1048576) (hm7 : la.length ≤ 1048576) (hr1 : Lk.RM w a1 ls) (hr2 : Tu.RM w a2 tw) (hr3 : Tu.RM w a3 se) (hr4 : Tu.RM w a4 du) (hr5 : So.RM w a5 ss) (hr6 : Tu.RM w a6 es) (hr7 : Ed.RM w a7 la) :
    Calls Tryz.prog 86 #[.agg #[.int .i64 x1, .int .i64 x2, .int .i64 x3, .int .i64 x4, .int .i64 x5, .slice a1 ls.length c1, .slice a2 tw.length c2, .slice a3 se.length c3, .slice a4 du.length c4, .slice a5 ss.length c5, .slice a6 es.length c6, .slice a7 la.length c7, .int .i64 x6]] w fun e w' => ∃ g1 g2 g3 g4 g5 g6 g7, e = .returned (.agg (rC x1 x2 x3 x4 x5 (.slice (some ⟨g1, 0, none⟩) ls.length ls.length) (.slice (some ⟨g2, 0, none⟩) tw.length tw.length) (.slice (some ⟨g3, 0, none⟩) se.length se.length) (.slice (some ⟨g4, 0, none⟩) du.length du.length) (.slice (some ⟨g5, 0, none⟩) ss.length ss.length) (.slice (some ⟨g6, 0, none⟩) es.length es.length) (.slice (some ⟨g7, 0, none⟩) la.length la.length) x6).toArray) ∧ Below w.heap.size w w' ∧ RL w' w.heap.size w'.heap.size (some ⟨g1, 0, none⟩) (some ⟨g2, 0, none⟩) (some ⟨g3, 0, none⟩) (some ⟨g4, 0, none⟩) (some ⟨g5, 0, none⟩) (some ⟨g6, 0, none⟩) (some ⟨g7, 0, none⟩) ls tw se du ss es la := by
  refine (toR x1 x2 x3 x4 x5 x6 a1 a2 a3 a4 a5 a6 a7 c1 c2 c3 c4 c5 c6 c7 ls tw se du ss es la w hm1 hm2 hm3 hm4 hm5 hm6 hm7 hr1 hr2 hr3 hr4 hr5 hr6 hr7).mono ?_
  rintro e w' ⟨g1, g2, g3, g4, g5, g6, g7, rfl, hb, ⟨o0, o1, o2, o3, o4, o5, o6, o7⟩, u1, u2, u3, u4, u5, u6, u7⟩
  refine ⟨g1, g2, g3, g4, g5, g6, g7, rfl, hb, g2, g3, g4, g5, g6, g7, ⟨by omega, by omega, by omega, by omega, by omega, by omega, by omega⟩, .inr ⟨g1, rfl, by omega, by omega, by omega, u1⟩, .inr ⟨g2, rfl, by omega, by omega, by omega, u2⟩, .inr ⟨g3, rfl, by omega, by omega, by omega, u3⟩, .inr ⟨g4, rfl, by omega, by omega, by omega, u4⟩, .inr ⟨g5, rfl, by omega, by omega, by omega, u5⟩, .inr ⟨g6, rfl, by omega, by omega, by omega, u6⟩, .inr ⟨g7, rfl, by omega, by omega, by omega, u7⟩⟩
end Rt
end Go.Proofs.YtfooahhdikobeaaGreat
namespace Go.Proofs.YtfooahhdikobeaaGreat
open Go.ChangeShapes Go.WideShapes Go.ChangeAt Go.RowKit
set_option linter.unusedVariables false
set_option linter.unusedSimpArgs false
set_option maxRecDepth 100000
attribute [local go_sem ↓] Go.wp_at_zero Go.wp_at_succ
namespace Nt
open W1 Rt
theorem szN (m : Rm) (p : Pl) (L : Int) (w : World) (hL : 0 ≤ L) (hL1 : L ≤ 1048576) (hs : Sx m) :
    Calls Tryz.prog 81 #[.agg (cl m p).toArray, .int .i64 L] w fun e w' => ∃ r : Int, e = .returned (.int .i64 r) ∧ Below w.heap.size w w' ∧ (r < 0 ∨ (0 ≤ r ∧ r = L - cnt m)) := by
  obtain ⟨s1, s2, s3, s4, s5, s6, s7⟩ := hs
  refine (szR m.x1 m.x2 m.x3 m.x4 m.x5 m.x6 p.a1 p.a2 p.a3 p.a4 p.a5 p.a6 p.a7 m.ls.length m.tw.length m.se.length m.du.length m.ss.length m.es.length m.la.length p.c1 p.c2 p.c3 p.c4 p.c5 p.c6 p.c7 L w hL hL1 s1 s2 s3 s4 s5 s6 s7).mono ?_
  rintro e w' ⟨r, rfl, hb, h⟩
  exact ⟨r, rfl, hb, by unfold cnt; omega⟩
theorem eqN (m : Rm) (p q : Pl) (w : World) (hs : Sm m) (hr : Rd w m p) (hq : Rd w m q) :
    Calls Tryz.prog 96 #[.agg (cl m p).toArray, .agg (cl m q).toArray] w fun e w' => e = .returned (.bool true) ∧ Below w.heap.size w w' := by
  obtain ⟨s1, s2, s3, s4, s5, s6, s7⟩ := hs
  obtain ⟨r1, r2, r3, r4, r5, r6, r7⟩ := hr
  obtain ⟨q1, q2, q3, q4, q5, q6, q7⟩ := hq
  exact eqR m.x1 m.x2 m.x3 m.x4 m.x5 m.x6 p.a1 p.a2 p.a3 p.a4 p.a5 p.a6 p.a7 p.c1 p.c2 p.c3 p.c4 p.c5 p.c6 p.c7 q.a1 q.a2 q.a3 q.a4 q.a5 q.a6 q.a7 q.c1 q.c2 q.c3 q.c4 q.c5 q.c6 q.c7 m.ls m.tw m.se m.du m.ss m.es m.la w s1 s2 s3 s4 s5 s6 s7 r1 r2 r3 r4 r5 r6 r7 q1 q2 q3 q4 q5 q6 q7
/-- Lists that may be written, one behind the other between two bounds. -/
def Ow (w : World) (lo hi : Nat) (m : Rm) (p : Pl) : Prop := RL w lo hi p.a1 p.a2 p.a3 p.a4 p.a5 p.a6 p.a7 m.ls m.tw m.se m.du m.ss m.es m.la
theorem Ow.rd {w : World} {lo hi : Nat} {m : Rm} {p : Pl} (h : Ow w lo hi m p) : Rd w m p := ⟨RL.r1 h, RL.r2 h, RL.r3 h, RL.r4 h, RL.r5 h, RL.r6 h, RL.r7 h⟩
theorem Ow.below {w w' : World} {lo hi : Nat} {m : Rm} {p : Pl} (h : Ow w lo hi m p) (hb : Below w.heap.size w w') : Ow w' lo hi m p := RL.below h hb
theorem Ow.but {w w' : World} {lo hi Lo Hi : Nat} {m : Rm} {p : Pl} (h : Ow w lo hi m p) (hs : w.heap.size ≤ w'.heap.size) (hb : ∀ k, k < w.heap.size → (k < Lo ∨ Hi ≤ k) → w'.heap[k]? = w.heap[k]?) (hd : hi ≤ Lo ∨ Hi ≤ lo) : Ow w' lo hi m p := RL.but h hs hb hd
theorem toN (m : Rm) (p : Pl) (w : World) (hs : Sm m) (hr : Rd w m p) :
    Calls Tryz.prog 86 #[.agg (cl m p).toArray] w fun e w' => ∃ q : Pl, e = .returned (.agg (cl m q).toArray) ∧ Below w.heap.size w w' ∧ Ow w' w.heap.size w'.heap.size m q ∧ Ad q := by
  obtain ⟨s1, s2, s3, s4, s5, s6, s7⟩ := hs
  obtain ⟨r1, r2, r3, r4, r5, r6, r7⟩ := hr
  refine (toRL m.x1 m.x2 m.x3 m.x4 m.x5 m.x6 p.a1 p.a2 p.a3 p.a4 p.a5 p.a6 p.a7 p.c1 p.c2 p.c3 p.c4 p.c5 p.c6 p.c7 m.ls m.tw m.se m.du m.ss m.es m.la w s1 s2 s3 s4 s5 s6 s7 r1 r2 r3 r4 r5 r6 r7).mono ?_
  rintro e w' ⟨g1, g2, g3, g4, g5, g6, g7, rfl, hb, h⟩
  exact ⟨⟨some ⟨g1, 0, none⟩, some ⟨g2, 0, none⟩, some ⟨g3, 0, none⟩, some ⟨g4, 0, none⟩, some ⟨g5, 0, none⟩, some ⟨g6, 0, none⟩, some ⟨g7, 0, none⟩, m.ls.length, m.tw.length, m.se.length, m.du.length, m.ss.length, m.es.length, m.la.length⟩, rfl, hb, h, ⟨g1, rfl⟩, ⟨g2, rfl⟩, ⟨g3, rfl⟩, ⟨g4, rfl⟩, ⟨g5, rfl⟩, ⟨g6, rfl⟩, ⟨g7, rfl⟩⟩
/-- A net in a variable's block. -/
def NB (w : World) (b : Nat) (v1 v2 v3 : Value) (t : Int) : Prop := w.cell? ⟨b, 0, none⟩ = some v1 ∧ w.cell? ⟨b, 1, none⟩ = some v2 ∧ w.cell? ⟨b, 2, none⟩ = some v3 ∧ w.cell? ⟨b, 3, none⟩ = some (.int .i64 t)
theorem NB.lt {w : World} {b : Nat} {v1 v2 v3 : Value} {t : Int} (h : NB w b v1 v2 v3 t) : b < w.heap.size := World.block_lt_of_cell? _ _ h.1
theorem NB.below {w w' : World} {b : Nat} {v1 v2 v3 : Value} {t : Int} (h : NB w b v1 v2 v3 t) (hb : Below w.heap.size w w') : NB w' b v1 v2 v3 t := by
  have hg := h.lt
  obtain ⟨h0, h1, h2, h3⟩ := h
  refine ⟨?_, ?_, ?_, ?_⟩ <;> (rw [hb.cell hg]; assumption)
theorem NB.drew {w : World} {b : Nat} {v1 v2 v3 : Value} {t : Int} (h : NB w b v1 v2 v3 t) : NB w.drew b v1 v2 v3 t := h
theorem nb_new (w : World) (v1 v2 v3 : Value) (t : Int) (ty : Nat) : NB (w.alloc (.cells #[v1, v2, v3, .int .i64 t] ty)) w.heap.size v1 v2 v3 t := by
  refine ⟨?_, ?_, ?_, ?_⟩ <;> simp [World.cell?_alloc_new]
theorem bel_new (w : World) (ob : Obj) : Below w.heap.size w (w.alloc ob) := (Below.refl _ _).alloc (Nat.le_refl _) ob
end Nt
end Go.Proofs.YtfooahhdikobeaaGreat
