/-
  Of the texts TopC, TopW, RtrU, NetOw, NetHb, LnkM, GraM, LnkC, SetP, SetK, SetX, SetY, SetYc, GraS: what this claim needs of them. (put together by mkprune.py)
-/
import Derived.Test.YthfcigfgpimimaaGreatQb5
import Derived.Deep.DeepCutAuto
import Derived.Laws.AppendOwn
import Derived.Laws.OwnMore
import Derived.Deep.AppendLies
import Derived.Deep.Cut
import Derived.Deep.QuietTactic
import Derived.BigQuiet
import Derived.Laws.NewBlocks
namespace Go.Proofs.YthfcigfgpimimaaGreat
open Go.ChangeShapes Go.WideShapes Go.ChangeAt Go.RowKit
set_option linter.unusedVariables false
set_option linter.unusedSimpArgs false
set_option maxRecDepth 100000
attribute [local go_sem ↓] Go.wp_at_zero Go.wp_at_succ
namespace Tp
open W1 Tu St Tw
theorem sS1 {w : World} {g o B : Nat} {ad an til : Int} {x y : Value} (h : So.At w g o ⟨ad, an, til⟩) (hB : Bx2 w B x y) : (So.At w g o ⟨ad, an, til⟩ ∧ Bx2 w B x y) ∧ w.cell? ⟨g, o, none⟩ = some (.int .i64 ad) ∧ w.cell? ⟨g, o + 1, none⟩ = some (.int .i64 an) ∧ w.cell? ⟨g, o + 2, none⟩ = some (.int .i64 til) ∧ w.cell? ⟨B, 0, none⟩ = some x := ⟨⟨h, hB⟩, h.1, h.2.1, h.2.2, hB.1⟩
theorem sS2 {w : World} {g o p B : Nat} {ad an til : Int} {m : So.R} {x y : Value} (h : So.At w g o ⟨ad, an, til⟩) (h' : So.At w g p m) (hB : Bx2 w B x y) : ((So.At w g o ⟨ad, an, til⟩ ∧ So.At w g p m) ∧ Bx2 w B x y) ∧ w.cell? ⟨g, o, none⟩ = some (.int .i64 ad) ∧ w.cell? ⟨g, o + 1, none⟩ = some (.int .i64 an) ∧ w.cell? ⟨g, o + 2, none⟩ = some (.int .i64 til) ∧ w.cell? ⟨g, p, none⟩ = some (.int .i64 m.ad) ∧ w.cell? ⟨B, 0, none⟩ = some x := ⟨⟨⟨h, h'⟩, hB⟩, h.1, h.2.1, h.2.2, h'.1, hB.1⟩
theorem sE1 {w : World} {g o B : Nat} {m : R} {x y : Value} (h : Tu.At w g o m) (hB : Bx2 w B x y) : (Tu.At w g o m ∧ Bx2 w B x y) ∧ w.cell? ⟨g, o, none⟩ = some (.int .i64 m.key) ∧ w.cell? ⟨B, 0, none⟩ = some x ∧ w.cell? ⟨B, 1, none⟩ = some y := ⟨⟨h, hB⟩, h.1, hB.1, hB.2⟩
set_option maxHeartbeats 8000000 in
theorem specOK (a : Option Addr) (ss : List So.R) (ca : Nat) (b : Option Addr) (es : List R) (cb : Nat) (w : World) (hm : ss.length ≤ 1048576) (hl : es.length ≤ 1048576) (hr : So.RM w a ss) (hr' : RM w b es) :
    Calls Tryz.prog 68 #[.agg #[.slice a ss.length ca, .slice b es.length cb]] w fun e w' => e = .returned (.bool (topB ss es)) ∧ Below w.heap.size w w' := by
  obtain ⟨A, hA⟩ : ∃ A, topB ss es = A := ⟨_, rfl⟩
  have HTA := hide hA
  rw [hA]
  clear hA
  obtain ⟨n, hN⟩ : ∃ n, es.length = n := ⟨_, rfl⟩
  have HN := hide hN
  obtain ⟨k, hK⟩ : ∃ k, ss.length = k := ⟨_, rfl⟩
  have HK := hide hK
  rw [hN, hK]
  rw [hN] at hl
  rw [hK] at hm
  clear hN hK
  have HA : Hid (Below w.heap.size w (w.alloc (.cells #[.slice a k ca, .slice b n cb] 77))) := hide ((Below.refl _ _).alloc (Nat.le_refl _) _)
  have HX : Hid (Bx2 (w.alloc (.cells #[.slice a k ca, .slice b n cb] 77)) w.heap.size (.slice a k ca) (.slice b n cb)) := hide (bx2_new w _ _ _)
  have HR := hide (hr.below (unhide HA))
  have HE := hide (hr'.below (unhide HA))
  have hxw : w.heap.size < (w.alloc (.cells #[.slice a k ca, .slice b n cb] 77)).heap.size := by simp
  clear hr hr'
  go_enter Tryz.func68, Tryz.ntmps68
  go_wp2_with fail
  generalize hW : w.alloc (.cells #[.slice a k ca, .slice b n cb] 77) = W0 at *
  clear hW
  go_loopw [3] (fun i wr => ∃ j : Nat, j ≤ k ∧ i = .int .i64 j ∧ Hid (allS ss j = true) ∧ Hid (Below W0.heap.size W0 wr)) (fun i _ => k - (intOf i).toNat)
  case atStart => exact ⟨0, by omega, rfl, hide Ri.all_zero, hide (Below.refl _ _)⟩
  case round =>
    obtain ⟨j, hj, rfl, hrl, hbl⟩ := hrel
    have HXr := hide ((unhide HX).below (unhide hbl))
    obtain ⟨z0, z1⟩ := unhide HXr
    by_cases hlt : (j : Int) < (k : Int)
    · have k0 : (0 : Int) ≤ (j : Int) := by omega
      have hlen : j < ss.length := by rw [unhide HK]; omega
      obtain ⟨g, off, rfl⟩ := (unhide HR).form (by omega)
      have hc := fun i (hi : i < ss.length) => ((unhide HR).below (unhide hbl)).at hi
      have HL := hide hlen
      have hA := hc j hlen
      cases hk : okS (ss.getD j So.R.zero)
      · clear hc
        have HST : Hid (A = false) := hide (by rw [← unhide HTA]; exact top_nosrc (Ri.all_no hlen (Ri.step_bad (key := So.R.ad) hk)))
        have HKK := hide hk
        clear hk
        generalize ss.getD j So.R.zero = m at *
        obtain ⟨ad, an, til⟩ := m
        go_wp2_with fail
        refine wp_region_noPanic ?_
        refine wp_region_held_drew (S := fun w' => (So.At w' g (off + j * 3) ⟨ad, an, til⟩ ∧ Bx2 w' w.heap.size (.slice (some ⟨g, off, none⟩) k ca) (.slice b n cb)) ∧ w'.cell? ⟨g, off + j * 3, none⟩ = some (.int .i64 ad) ∧ w'.cell? ⟨g, off + j * 3 + 1, none⟩ = some (.int .i64 an) ∧ w'.cell? ⟨g, off + j * 3 + 2, none⟩ = some (.int .i64 til) ∧ w'.cell? ⟨w.heap.size, 0, none⟩ = some (.slice (some ⟨g, off, none⟩) k ca)) (by kernel_rfl) (sS1 (hA.drew) ((unhide HXr).drew)) (fun hHeld => ?_)
        refine Rg.t 0 14 ?_
        refine Rg.t 1 15 ?_
        refine Rg.t 2 16 ?_
        refine Rg.t 3 17 ?_
        refine Rg.t 4 18 ?_
        (refine Rg.o 5 (fun K hK => ?_); go_simp)
        refine (l09Source ad an til _).mono ?_
        rintro e w4 ⟨rfl, b4⟩
        rw [unhide HKK]
        refine hK.out _ _ (sS1 (hA.drew.below b4) ((unhide HXr).drew.below b4)) (fun hHeld => ?_)
        clear hK K
        (try simp only [Act.put, List.setIfInBounds_toArray, List.set_cons_zero, List.set_cons_succ])
        refine Rg.t 6 20 ?_
        refine Rg.t 7 21 ?_
        refine Rg.s 8 22 ?_
        refine Rg.s 9 23 ?_
        refine Rg.s 10 24 ?_
        refine Rg.s 11 25 ?_
        refine Rg.s 12 26 ?_
        refine Rg.s 13 27 ?_
        refine Rg.s 14 28 ?_
        refine Rg.s 15 29 ?_
        refine Rg.s 16 30 ?_
        refine Rg.s 17 31 ?_
        refine Rg.s 18 32 ?_
        refine Rg.s 19 33 ?_
        refine Rg.s 20 34 ?_
        refine Rg.s 21 35 ?_
        refine Rg.s 22 36 ?_
        refine Rg.s 23 37 ?_
        refine Rg.s 24 38 ?_
        refine Rg.s 25 39 ?_
        refine Rg.t 26 40 ?_
        refine wpAnyH_done (by kernel_rfl) (NoPanic.normal ?_) _
        have hb4 := hide ((unhide hbl).drew.trans (b4.mono (by show W0.heap.size ≤ wr.heap.size; exact (unhide hbl).size)))
        clear b4 hHeld
        obtain ⟨z0, z1⟩ := (unhide HX).below (unhide hb4)
        go_wp2_with fail
        go_ret
        exact ⟨ret_bool (unhide HST).symm, (unhide HA).trans ((unhide hb4).mono (unhide HA).size)⟩
      have HKK := hide hk
      clear hk
      by_cases hj0 : j = 0
      · subst hj0
        clear hc
        rw [Nat.zero_mul, Nat.add_zero] at hA
        have HST := hide (Ri.all_succ (unhide hrl) (Ri.step_zero (key := So.R.ad) (unhide HKK)))
        generalize ss.getD 0 So.R.zero = m at *
        obtain ⟨ad, an, til⟩ := m
        go_wp2_with fail
        refine wp_region_noPanic ?_
        refine wp_region_held_drew (S := fun w' => (So.At w' g off ⟨ad, an, til⟩ ∧ Bx2 w' w.heap.size (.slice (some ⟨g, off, none⟩) k ca) (.slice b n cb)) ∧ w'.cell? ⟨g, off, none⟩ = some (.int .i64 ad) ∧ w'.cell? ⟨g, off + 1, none⟩ = some (.int .i64 an) ∧ w'.cell? ⟨g, off + 2, none⟩ = some (.int .i64 til) ∧ w'.cell? ⟨w.heap.size, 0, none⟩ = some (.slice (some ⟨g, off, none⟩) k ca)) (by kernel_rfl) (sS1 (hA.drew) ((unhide HXr).drew)) (fun hHeld => ?_)
        refine Rg.t 0 14 ?_
        refine Rg.t 1 15 ?_
        refine Rg.t 2 16 ?_
        refine Rg.t 3 17 ?_
        refine Rg.t 4 18 ?_
        (refine Rg.o 5 (fun K hK => ?_); go_simp)
        refine (l09Source ad an til _).mono ?_
        rintro e w4 ⟨rfl, b4⟩
        rw [unhide HKK]
        refine hK.out _ _ (sS1 (hA.drew.below b4) ((unhide HXr).drew.below b4)) (fun hHeld => ?_)
        clear hK K
        (try simp only [Act.put, List.setIfInBounds_toArray, List.set_cons_zero, List.set_cons_succ])
        refine Rg.t 6 20 ?_
        refine Rg.t 7 21 ?_
        refine Rg.t 8 22 ?_
        refine Rg.t 9 23 ?_
        refine Rg.t 10 24 ?_
        refine Rg.s 11 25 ?_
        refine Rg.s 12 26 ?_
        refine Rg.s 13 27 ?_
        refine Rg.s 14 28 ?_
        refine Rg.s 15 29 ?_
        refine Rg.s 16 30 ?_
        refine Rg.s 17 31 ?_
        refine Rg.s 18 32 ?_
        refine Rg.s 19 33 ?_
        refine Rg.s 20 34 ?_
        refine Rg.s 21 35 ?_
        refine Rg.s 22 36 ?_
        refine Rg.s 23 37 ?_
        refine Rg.s 24 38 ?_
        refine Rg.t 25 39 ?_
        refine Rg.t 26 40 ?_
        refine wpAnyH_done (by kernel_rfl) (NoPanic.normal ?_) _
        have hb4 := hide ((unhide hbl).drew.trans (b4.mono (by show W0.heap.size ≤ wr.heap.size; exact (unhide hbl).size)))
        clear b4 hHeld
        obtain ⟨z0, z1⟩ := (unhide HX).below (unhide hb4)
        go_wp2_with fail
        go_roundw
        case rel => exact ⟨0 + 1, by omega, by go_num, HST, hb4⟩
        case measure => simp [intOf]; omega
      · obtain ⟨i, hji⟩ : ∃ i, j = i + 1 := ⟨j - 1, by omega⟩
        have HJ := hide hji
        have e1 : (j : Int) - 1 = (i : Int) := by omega
        have i0 : (0 : Int) ≤ (i : Int) := by omega
        have wi : IntKind.i64.wrap (i : Int) = (i : Int) := by rw [IntKind.wrap_i64]; omega
        have i1 : (i : Int) < (k : Int) := by omega
        have j1 : (0 : Int) < (j : Int) := by omega
        have j2 : 0 < j := by omega
        have hP := hc i (by have := unhide HL; omega)
        have EJ : ss.getD j So.R.zero = ss.getD (i + 1) So.R.zero := by rw [hji]
        clear hc hji
        by_cases hk : (ss.getD i So.R.zero).ad < (ss.getD j So.R.zero).ad
        · have HST : Hid (allS ss (j + 1) = true) := hide (Ri.all_succ (unhide hrl) (by rw [unhide HJ]; exact Ri.step_lt (by rw [← EJ]; exact unhide HKK) (by rw [← EJ]; exact hk)))
          clear EJ
          generalize ss.getD j So.R.zero = m at *
          generalize ss.getD i So.R.zero = m0 at *
          obtain ⟨ad, an, til⟩ := m
          obtain ⟨ad0, an0, til0⟩ := m0
          dsimp only at hk
          go_wp2_with fail
          refine wp_region_noPanic ?_
          refine wp_region_held_drew (S := fun w' => ((So.At w' g (off + j * 3) ⟨ad, an, til⟩ ∧ So.At w' g (off + i * 3) ⟨ad0, an0, til0⟩) ∧ Bx2 w' w.heap.size (.slice (some ⟨g, off, none⟩) k ca) (.slice b n cb)) ∧ w'.cell? ⟨g, off + j * 3, none⟩ = some (.int .i64 ad) ∧ w'.cell? ⟨g, off + j * 3 + 1, none⟩ = some (.int .i64 an) ∧ w'.cell? ⟨g, off + j * 3 + 2, none⟩ = some (.int .i64 til) ∧ w'.cell? ⟨g, off + i * 3, none⟩ = some (.int .i64 ad0) ∧ w'.cell? ⟨w.heap.size, 0, none⟩ = some (.slice (some ⟨g, off, none⟩) k ca)) (by kernel_rfl) (sS2 (hA.drew) (hP.drew) ((unhide HXr).drew)) (fun hHeld => ?_)
          refine Rg.t 0 14 ?_
          refine Rg.t 1 15 ?_
          refine Rg.t 2 16 ?_
          refine Rg.t 3 17 ?_
          refine Rg.t 4 18 ?_
          (refine Rg.o 5 (fun K hK => ?_); go_simp)
          refine (l09Source ad an til _).mono ?_
          rintro e w4 ⟨rfl, b4⟩
          rw [unhide HKK]
          refine hK.out _ _ (sS2 (hA.drew.below b4) (hP.drew.below b4) ((unhide HXr).drew.below b4)) (fun hHeld => ?_)
          clear hK K
          (try simp only [Act.put, List.setIfInBounds_toArray, List.set_cons_zero, List.set_cons_succ])
          refine Rg.t 6 20 ?_
          refine Rg.t 7 21 ?_
          refine Rg.t 8 22 ?_
          refine Rg.t 9 23 ?_
          refine Rg.t 10 24 ?_
          refine Rg.t 11 25 ?_
          refine Rg.t 12 26 ?_
          refine Rg.t 13 27 ?_
          refine Rg.t 14 28 ?_
          refine Rg.t 15 29 ?_
          refine Rg.t 16 30 ?_
          refine Rg.t 17 31 ?_
          refine Rg.t 18 32 ?_
          refine Rg.t 19 33 ?_
          refine Rg.t 20 34 ?_
          refine Rg.t 21 35 ?_
          refine Rg.t 22 36 ?_
          refine Rg.t 23 37 ?_
          refine Rg.t 24 38 ?_
          refine Rg.t 25 39 ?_
          refine Rg.t 26 40 ?_
          refine wpAnyH_done (by kernel_rfl) (NoPanic.normal ?_) _
          have hb4 := hide ((unhide hbl).drew.trans (b4.mono (by show W0.heap.size ≤ wr.heap.size; exact (unhide hbl).size)))
          clear b4 hHeld
          obtain ⟨z0, z1⟩ := (unhide HX).below (unhide hb4)
          go_wp2_with fail
          go_roundw
          case rel => exact ⟨j + 1, by omega, by go_num, HST, hb4⟩
          case measure => simp [intOf]; omega
        · have HST : Hid (A = false) := hide (by rw [← unhide HTA]; exact top_nosrc (Ri.all_no (unhide HL) (show Ri.step So.R.zero okS So.R.ad ss j = false by rw [unhide HJ]; exact Ri.step_ge (by rw [← EJ]; omega))))
          clear EJ
          generalize ss.getD j So.R.zero = m at *
          generalize ss.getD i So.R.zero = m0 at *
          obtain ⟨ad, an, til⟩ := m
          obtain ⟨ad0, an0, til0⟩ := m0
          dsimp only at hk
          go_wp2_with fail
          refine wp_region_noPanic ?_
          refine wp_region_held_drew (S := fun w' => ((So.At w' g (off + j * 3) ⟨ad, an, til⟩ ∧ So.At w' g (off + i * 3) ⟨ad0, an0, til0⟩) ∧ Bx2 w' w.heap.size (.slice (some ⟨g, off, none⟩) k ca) (.slice b n cb)) ∧ w'.cell? ⟨g, off + j * 3, none⟩ = some (.int .i64 ad) ∧ w'.cell? ⟨g, off + j * 3 + 1, none⟩ = some (.int .i64 an) ∧ w'.cell? ⟨g, off + j * 3 + 2, none⟩ = some (.int .i64 til) ∧ w'.cell? ⟨g, off + i * 3, none⟩ = some (.int .i64 ad0) ∧ w'.cell? ⟨w.heap.size, 0, none⟩ = some (.slice (some ⟨g, off, none⟩) k ca)) (by kernel_rfl) (sS2 (hA.drew) (hP.drew) ((unhide HXr).drew)) (fun hHeld => ?_)
          refine Rg.t 0 14 ?_
          refine Rg.t 1 15 ?_
          refine Rg.t 2 16 ?_
          refine Rg.t 3 17 ?_
          refine Rg.t 4 18 ?_
          (refine Rg.o 5 (fun K hK => ?_); go_simp)
          refine (l09Source ad an til _).mono ?_
          rintro e w4 ⟨rfl, b4⟩
          rw [unhide HKK]
          refine hK.out _ _ (sS2 (hA.drew.below b4) (hP.drew.below b4) ((unhide HXr).drew.below b4)) (fun hHeld => ?_)
          clear hK K
          (try simp only [Act.put, List.setIfInBounds_toArray, List.set_cons_zero, List.set_cons_succ])
          refine Rg.t 6 20 ?_
          refine Rg.t 7 21 ?_
          refine Rg.t 8 22 ?_
          refine Rg.t 9 23 ?_
          refine Rg.t 10 24 ?_
          refine Rg.t 11 25 ?_
          refine Rg.t 12 26 ?_
          refine Rg.t 13 27 ?_
          refine Rg.t 14 28 ?_
          refine Rg.t 15 29 ?_
          refine Rg.t 16 30 ?_
          refine Rg.t 17 31 ?_
          refine Rg.t 18 32 ?_
          refine Rg.t 19 33 ?_
          refine Rg.t 20 34 ?_
          refine Rg.t 21 35 ?_
          refine Rg.t 22 36 ?_
          refine Rg.t 23 37 ?_
          refine Rg.t 24 38 ?_
          refine Rg.t 25 39 ?_
          refine Rg.t 26 40 ?_
          refine wpAnyH_done (by kernel_rfl) (NoPanic.normal ?_) _
          have hb4 := hide ((unhide hbl).drew.trans (b4.mono (by show W0.heap.size ≤ wr.heap.size; exact (unhide hbl).size)))
          clear b4 hHeld
          obtain ⟨z0, z1⟩ := (unhide HX).below (unhide hb4)
          go_wp2_with fail
          go_ret
          exact ⟨ret_bool (unhide HST).symm, (unhide HA).trans ((unhide hb4).mono (unhide HA).size)⟩
    · obtain rfl : j = k := by omega
      have hok : srcB ss = true := by unfold srcB; rw [unhide HK]; exact unhide hrl
      have h8 := src_len hok
      have h8' : (j : Int) ≤ 8 := by have := unhide HK; omega
      have HS := hide hok
      clear hok h8 hrl
      have HBX := hide ((unhide HA).trans ((unhide hbl).mono (unhide HA).size))
      have HR1 := hide ((unhide HR).below (unhide hbl))
      have HE1 := hide ((unhide HE).below (unhide hbl))
      clear HR HE HX HA hbl
      generalize hwq : wr = wq at *
      clear hwq
      go_wp2_with fail
      clear z0 z1
      go_loopw [4] (fun i wr => ∃ t : Nat, t ≤ n ∧ i = .int .i64 t ∧ Hid (edgB ss es t = true ∨ twoB es = false) ∧ Hid (Below wq.heap.size wq wr)) (fun i _ => n - (intOf i).toNat)
      case atStart => exact ⟨0, by omega, rfl, hide (.inl (edg_zero ss es)), hide (Below.refl _ _)⟩
      case round =>
        obtain ⟨t, ht, rfl, hed, hbl⟩ := hrel
        have HXr2 := hide ((unhide HXr).below (unhide hbl))
        obtain ⟨z0, z1⟩ := unhide HXr2
        have HBW := hide ((unhide HBX).trans ((unhide hbl).mono (unhide HBX).size))
        by_cases hlt : (t : Int) < (n : Int)
        · have k0 : (0 : Int) ≤ (t : Int) := by omega
          have hlen : t < es.length := by rw [unhide HN]; omega
          obtain ⟨g, off, rfl⟩ := (unhide HE1).form (by omega)
          have hA := ((unhide HE1).below (unhide hbl)).at hlen
          have HAt := hide hA
          have HR2 := hide ((unhide HR1).below (unhide hbl))
          obtain ⟨v, hv'⟩ : ∃ v, IntKind.i64.wrap ((es.getD t R.zero).key.tdiv 100) = v := ⟨_, rfl⟩
          obtain ⟨HF, HC⟩ := edge_check (ss := ss) hlen hv' (unhide hed)
          rw [unhide HTA] at HF
          have HF := hide HF
          have HC := hide HC
          generalize es.getD t R.zero = m at *
          obtain ⟨key, til, val⟩ := m
          obtain ⟨c0, c1, c2⟩ := hA
          dsimp only at c0 c1 c2 hv' HF HC
          obtain ⟨E, hE⟩ : ∃ E, hasS ss v = E := ⟨_, rfl⟩
          have HE2 := hide hE
          rw [hE] at HF HC
          clear hE
          obtain ⟨qa, qn, qt, hq⟩ : ∃ qa qn qt, fS ss v = ⟨qa, qn, qt⟩ := ⟨_, _, _, rfl⟩
          have HQV : Hid ((fS ss v).value = .agg #[.int .i64 qa, .int .i64 qn, .int .i64 qt]) := hide (by rw [hq]; rfl)
          clear hq
          go_wp2_with fail
          go_cut [6] (fun q wx => q = .bool E ∧ Hid (Below wr.heap.size wr wx))
          case first =>
            refine wp_region_noPanic ?_
            refine wp_region_held_drew (S := fun w' => (Tu.At w' g (off + t * 3) ⟨key, til, val⟩ ∧ Bx2 w' w.heap.size (.slice a j ca) (.slice (some ⟨g, off, none⟩) n cb)) ∧ w'.cell? ⟨g, off + t * 3, none⟩ = some (.int .i64 key) ∧ w'.cell? ⟨w.heap.size, 0, none⟩ = some (.slice a j ca) ∧ w'.cell? ⟨w.heap.size, 1, none⟩ = some (.slice (some ⟨g, off, none⟩) n cb)) (by kernel_rfl) (sE1 (unhide HAt).drew (unhide HXr2).drew) (fun hHeld => ?_)
            refine Rg.t 0 49 ?_
            refine Rg.t 1 50 ?_
            refine Rg.t 2 51 ?_
            refine Rg.t 3 52 ?_
            refine Rg.t 4 53 ?_
            refine Rg.t 5 54 ?_
            refine Rg.t 6 55 ?_
            refine Rg.t (v := .int .i64 v) 7 56 ?_
            (refine wpAnyH_ready (rs := [8, 12]) (by kernel_rfl) (by simp) ?_; refine AllReadyH.cons (o := _) rfl (fun K hK => ?_) (AllReadyH.cons (o := _) rfl (fun K hK => ?_) AllReadyH.nil))
            · go_simp
              refine (l09FindL _ ss j ca _ v _ (unhide HK) (by omega) (unhide HR2).drew).mono ?_
              rintro e w4 ⟨rfl, b4_⟩
              rw [unhide HE2, unhide HQV]
              have b4 : Below wr.heap.size wr w4 := (Below.refl _ _).drew.trans b4_
              clear b4_ hHeld
              refine hK.out _ _ (sE1 ((unhide HAt).below b4) ((unhide HXr2).below b4)) (fun hHeld => ?_)
              clear hK K
              (try simp only [Act.put, List.setIfInBounds_toArray, List.set_cons_zero, List.set_cons_succ])
              refine Rg.t 9 48 ?_
              refine Rg.t 10 58 ?_
              refine Rg.t 11 59 ?_
              (refine Rg.o 12 (fun K hK => ?_); go_simp)
              have b5 := b4.alloc b4.size (.cells #[.int .i64 0, .int .i64 0, .int .i64 0] 107)
              clear hHeld
              refine hK.out _ _ (sE1 ((unhide HAt).below b5) ((unhide HXr2).below b5)) (fun hHeld => ?_)
              clear hK K
              (try simp only [Act.put, List.setIfInBounds_toArray, List.set_cons_zero, List.set_cons_succ])
              (refine Rg.o 13 (fun K hK => ?_); go_simp)
              have b6 := b4.alloc b4.size (.cells #[.int .i64 qa, .int .i64 qn, .int .i64 qt] 107)
              clear hHeld
              refine hK.out _ _ (sE1 ((unhide HAt).below b6) ((unhide HXr2).below b6)) (fun hHeld => ?_)
              clear hK K
              (try simp only [Act.put, List.setIfInBounds_toArray, List.set_cons_zero, List.set_cons_succ])
              refine Rg.t 14 6 ?_
              refine wpAnyH_done (by kernel_rfl) (NoPanic.normal ?_) _
              clear hHeld
              go_wp2_with fail
              go_meet
              case rel => exact ⟨rfl, hide b6⟩
            · go_simp
              have b4 : Below wr.heap.size wr (wr.drew.alloc (.cells #[.int .i64 0, .int .i64 0, .int .i64 0] 107)) := (Below.refl _ _).drew.alloc (Nat.le_refl _) _
              have HV4 : Hid (SV (wr.drew.alloc (.cells #[.int .i64 0, .int .i64 0, .int .i64 0] 107)) wr.heap.size So.R.zero) := hide (sv_new wr.drew So.R.zero)
              clear hHeld
              refine hK.out _ _ (sE1 ((unhide HAt).below b4) ((unhide HXr2).below b4)) (fun hHeld => ?_)
              clear hK K
              (try simp only [Act.put, List.setIfInBounds_toArray, List.set_cons_zero, List.set_cons_succ])
              (refine Rg.o 8 (fun K hK => ?_); go_simp)
              refine (l09FindL _ ss j ca _ v _ (unhide HK) (by omega) ((unhide HR2).below b4)).mono ?_
              rintro e w5 ⟨rfl, b5_⟩
              rw [unhide HE2, unhide HQV]
              have b5 := b4.trans (b5_.mono b4.size)
              have HV5 := hide ((unhide HV4).below b5_)
              clear b5_ hHeld
              refine hK.out _ _ (sE1 ((unhide HAt).below b5) ((unhide HXr2).below b5)) (fun hHeld => ?_)
              clear hK K
              (try simp only [Act.put, List.setIfInBounds_toArray, List.set_cons_zero, List.set_cons_succ])
              refine Rg.t 9 48 ?_
              refine Rg.t 10 58 ?_
              refine Rg.t 11 59 ?_
              obtain ⟨x0, x1, x2⟩ := (unhide HV5).cells
              simp only [Nat.zero_add] at x1 x2
              have y0 := (unhide HV5).free 0
              have y1 := (unhide HV5).free 1
              have y2 := (unhide HV5).free 2
              unfold So.R.zero at x0 x1 x2
              dsimp only at x0 x1 x2
              (refine Rg.o 13 (fun K hK => ?_); go_simp)
              have b6 := ((b5.setCell (p := ⟨wr.heap.size, 0, none⟩) (Nat.le_refl _) (.int .i64 qa)).setCell (p := ⟨wr.heap.size, 1, none⟩) (Nat.le_refl _) (.int .i64 qn)).setCell (p := ⟨wr.heap.size, 2, none⟩) (Nat.le_refl _) (.int .i64 qt)
              clear hHeld
              refine hK.out _ _ (sE1 ((unhide HAt).below b6) ((unhide HXr2).below b6)) (fun hHeld => ?_)
              clear hK K
              (try simp only [Act.put, List.setIfInBounds_toArray, List.set_cons_zero, List.set_cons_succ])
              refine Rg.t 14 6 ?_
              refine wpAnyH_done (by kernel_rfl) (NoPanic.normal ?_) _
              clear hHeld x0 x1 x2 y0 y1 y2
              go_wp2_with fail
              go_meet
              case rel => exact ⟨rfl, hide b6⟩
          case rest =>
            obtain ⟨rfl, hbx⟩ := hcut
            rename World => wx
            have HXx := hide ((unhide HXr2).below (unhide hbx))
            obtain ⟨z0, z1⟩ := unhide HXx
            obtain ⟨c0, c1, c2⟩ := (unhide HAt).below (unhide hbx)
            dsimp only at c0 c1 c2
            have HBx := hide ((unhide HBW).trans ((unhide hbx).mono (unhide HBW).size))
            have HBq := hide ((unhide hbl).trans ((unhide hbx).mono (unhide hbl).size))
            cases E
            · have HF0 := hide (unhide HF rfl)
              go_wp2_with fail
              go_ret
              exact ⟨ret_bool (unhide HF0).symm, unhide HBx⟩
            · by_cases hv1 : val < 1
              · have HF0 := hide (unhide HF (by rw [decide_eq_false (by omega)]; rfl))
                go_wp2_with fail
                go_ret
                exact ⟨ret_bool (unhide HF0).symm, unhide HBx⟩
              · have HC0 := hide (unhide HC (by rw [decide_eq_true (by omega)]; rfl))
                go_wp2_with fail
                go_roundw
                case rel => exact ⟨t + 1, by omega, by go_num, HC0, HBq⟩
                case measure => simp [intOf]; omega
        · obtain rfl : t = n := by omega
          have HF : Hid (twoB es = A) := hide (by
            rw [← unhide HTA]
            rcases unhide hed with h | h
            · exact (edg_all (unhide HS) (by rw [unhide HN]; exact h)).symm
            · rw [h, top_notwo h])
          have HE3 := hide ((unhide HE1).below (unhide hbl))
          go_wp2_with fail
          rw [← unhide HN]
          refine (l07OK _ es cb _ (by rw [unhide HN]; omega) (unhide HE3)).mono ?_
          rintro e w4 ⟨rfl, b4⟩
          rw [unhide HF]
          have HB4 := hide ((unhide HBW).trans (b4.mono (unhide HBW).size))
          clear b4
          go_wp2_with fail
          go_ret
          exact ⟨rfl, unhide HB4⟩
end Tp
end Go.Proofs.YthfcigfgpimimaaGreat
namespace Go.Proofs.YthfcigfgpimimaaGreat
open Go.ChangeShapes Go.WideShapes Go.ChangeAt Go.RowKit
set_option linter.unusedVariables false
set_option linter.unusedSimpArgs false
set_option maxRecDepth 100000
attribute [local go_sem ↓] Go.wp_at_zero Go.wp_at_succ
namespace Tp
open W1 Tu St Tw
theorem fm_of {w : World} {base e size n : Nat} {v : Value} {xs : List Value} (h : w.ownsRow base e size v n xs) (hne : v ≠ .slice none 0 0) : ∃ g c, v = .slice (some ⟨g, 0, none⟩) n c ∧ n ≤ c := by
  obtain ⟨_, ⟨rfl, h0⟩ | ⟨g, cap, cur, rfl, _, _, h1, h2, _, _⟩⟩ := h
  · exact absurd rfl hne
  · exact ⟨g, cap, rfl, h1⟩
/-- append onto a row of one's own that lies somewhere: so does the answer. -/
theorem apFSo {ops : Array Oper} {rest : List Oper} {o : Oper} {a : Act} {Q : Exit → Act → World → Prop} {w : World} {base : Nat} {v : Value} {xs : List So.R} (hown : w.ownsRow base 107 3 v xs.length (So.flat xs)) (hv : v ≠ .slice none 0 0) (g off m c : Nat) (ms : List So.R) (hm : ms.length = m) (hr : So.RM w (some ⟨g, off, none⟩) ms) (hlen : xs.length + ms.length ≤ 4194304) (hbase : base ≤ w.heap.size)
    (hgd : o.guard = none) (s x : Operand) (ho : o.op = .call { callee := .builtin .append, args := #[s, x], argTypes := #[75, 75] }) (hs : a.eval s = v) (hx : a.eval x = .slice (some ⟨g, off, none⟩) m c)
    (h : ∀ b' c' w', w'.ownsRow base 107 3 (.slice (some ⟨b', 0, none⟩) (xs ++ ms).length c') (xs ++ ms).length (So.flat (xs ++ ms)) → (xs ++ ms).length ≤ c' → w.grownBy w' v.ownBlock → wpList Tryz.prog ops Q rest (a.put o.dst (.slice (some ⟨b', 0, none⟩) (xs ++ ms).length c')) w') : wpList Tryz.prog ops Q (o :: rest) a w := by
  subst hm
  obtain ⟨i0, hi, hz0, hz1, hz2⟩ := So.infoR
  refine wpList_append_own w hgd s x _ ho base 107 i0 _ 3 24 Tryz.underlying75 hi hz0 hz1 hz2 rfl (by decide) v xs.length (So.flat xs) hs hown ⟨g, off, none⟩ ms.length c (So.flat ms) hx (So.flat_len ms) hr.cells (fun u hu => So.flat_one_cell hu) (by unfold maxLen; omega) (by omega) hbase (fun v' w' h1 h2 h3 => ?_)
  have hne : v' ≠ .slice none 0 0 := fun e => hv (h3.1 e).1
  obtain ⟨b', c', rfl, hc⟩ := fm_of h1 hne
  have h1' := h1
  rw [← So.flat_append] at h1'
  have e : xs.length + ms.length = (xs ++ ms).length := (List.length_append ..).symm
  rw [e] at h1' hc ⊢
  exact h b' c' w' h1' hc h2
/-- append onto a row of one's own that lies somewhere: so does the answer. -/
theorem apFTu {ops : Array Oper} {rest : List Oper} {o : Oper} {a : Act} {Q : Exit → Act → World → Prop} {w : World} {base : Nat} {v : Value} {xs : List Tu.R} (hown : w.ownsRow base 111 3 v xs.length (Tu.flat xs)) (hv : v ≠ .slice none 0 0) (g off m c : Nat) (ms : List Tu.R) (hm : ms.length = m) (hr : Tu.RM w (some ⟨g, off, none⟩) ms) (hlen : xs.length + ms.length ≤ 4194304) (hbase : base ≤ w.heap.size)
    (hgd : o.guard = none) (s x : Operand) (ho : o.op = .call { callee := .builtin .append, args := #[s, x], argTypes := #[74, 74] }) (hs : a.eval s = v) (hx : a.eval x = .slice (some ⟨g, off, none⟩) m c)
    (h : ∀ b' c' w', w'.ownsRow base 111 3 (.slice (some ⟨b', 0, none⟩) (xs ++ ms).length c') (xs ++ ms).length (Tu.flat (xs ++ ms)) → (xs ++ ms).length ≤ c' → w.grownBy w' v.ownBlock → wpList Tryz.prog ops Q rest (a.put o.dst (.slice (some ⟨b', 0, none⟩) (xs ++ ms).length c')) w') : wpList Tryz.prog ops Q (o :: rest) a w := by
  subst hm
  obtain ⟨i0, hi, hz0, hz1, hz2⟩ := Tu.infoR
  refine wpList_append_own w hgd s x _ ho base 111 i0 _ 3 24 Tryz.underlying74 hi hz0 hz1 hz2 rfl (by decide) v xs.length (Tu.flat xs) hs hown ⟨g, off, none⟩ ms.length c (Tu.flat ms) hx (Tu.flat_len ms) hr.cells (fun u hu => Tu.flat_one_cell hu) (by unfold maxLen; omega) (by omega) hbase (fun v' w' h1 h2 h3 => ?_)
  have hne : v' ≠ .slice none 0 0 := fun e => hv (h3.1 e).1
  obtain ⟨b', c', rfl, hc⟩ := fm_of h1 hne
  have h1' := h1
  rw [← Tu.flat_append] at h1'
  have e : xs.length + ms.length = (xs ++ ms).length := (List.length_append ..).symm
  rw [e] at h1' hc ⊢
  exact h b' c' w' h1' hc h2
theorem lst_fm {w : World} {base g n c : Nat} {ms : List So.R} (hn : n = ms.length) (h : w.ownsRow base 107 3 (.slice (some ⟨g, 0, none⟩) n c) n (So.flat ms)) : So.Lst w (some ⟨g, 0, none⟩) ms base w.heap.size := by
  obtain ⟨a, c', e, hl⟩ := So.lst_own hn h
  cases e; exact hl
theorem lst_fmT {w : World} {base g n c : Nat} {ms : List R} (hn : n = ms.length) (h : w.ownsRow base 111 3 (.slice (some ⟨g, 0, none⟩) n c) n (Tu.flat ms)) : Tu.Lst w (some ⟨g, 0, none⟩) ms base w.heap.size := by
  obtain ⟨a, c', e, hl⟩ := Tu.lst_own hn h
  cases e; exact hl
set_option maxHeartbeats 1000000 in
theorem l03OwnF (g off : Nat) (ms : List R) (cap n : Nat) (w : World) (hn : ms.length = n) (hm : ms.length ≤ 4096) (hr : Tu.RM w (some ⟨g, off, none⟩) ms) :
    Calls Tryz.prog 74 #[.slice (some ⟨g, off, none⟩) n cap] w fun e w' => ∃ b c, e = .returned (.slice (some ⟨b, 0, none⟩) n c) ∧ Below w.heap.size w w' ∧ ms.length ≤ c ∧ Tu.Lst w' (some ⟨b, 0, none⟩) ms w.heap.size w'.heap.size := by
  have HR := hide (hr.below ((Below.refl _ _).alloc (Nat.le_refl _) (.cells #[] 111)))
  have O0 := hide (Tu.own_empty w w.heap.size (Nat.le_refl _))
  clear hr
  go_enter Tryz.func74, Tryz.ntmps74
  go_wp2_with (at_builtin; refine apFTu (unhide O0) (by simp) g off n cap ms hn (unhide HR) (by simp; omega) (by simp) rfl _ _ rfl rfl rfl ?_; intro b' c' w' ho hc hg; have HL := hide (lst_fmT rfl ho); have HB := hide (Tu.below_own ((Below.refl _ _).alloc (Nat.le_refl _) _) (unhide O0) hg (Nat.le_refl _) (by simp)); have HC := hide hc; clear ho hg hc)
  go_ret
  exact ⟨_, _, rfl, unhide HB, unhide HC, unhide HL⟩
/-- A topology that can be read: both lists lie somewhere. -/
def RdT (w : World) (v : Value) (S : List So.R) (E : List R) : Prop := ∃ g o c h p d, v = .agg #[.slice (some ⟨g, o, none⟩) S.length c, .slice (some ⟨h, p, none⟩) E.length d] ∧ S.length ≤ c ∧ So.RM w (some ⟨g, o, none⟩) S ∧ Tu.RM w (some ⟨h, p, none⟩) E
theorem RdT.below {w w' : World} {v : Value} {S : List So.R} {E : List R} (h : RdT w v S E) (hb : Below w.heap.size w w') : RdT w' v S E := by
  obtain ⟨g, o, c, h, p, d, rfl, h1, h2, h3⟩ := h
  exact ⟨g, o, c, h, p, d, rfl, h1, h2.below hb, h3.below hb⟩
/-- A topology in memory of its own, that lies somewhere. -/
def OwT (w : World) (v : Value) (S : List So.R) (E : List R) (lo hi : Nat) : Prop := ∃ g c h d mid, v = .agg #[.slice (some ⟨g, 0, none⟩) S.length c, .slice (some ⟨h, 0, none⟩) E.length d] ∧ S.length ≤ c ∧ So.Lst w (some ⟨g, 0, none⟩) S lo mid ∧ Tu.Lst w (some ⟨h, 0, none⟩) E mid hi ∧ lo ≤ mid ∧ mid ≤ hi
theorem OwT.rd {w : World} {v : Value} {S : List So.R} {E : List R} {lo hi : Nat} (h : OwT w v S E lo hi) : RdT w v S E := by
  obtain ⟨g, c, h, d, mid, rfl, h1, h2, h3, _⟩ := h
  exact ⟨g, 0, c, h, 0, d, rfl, h1, h2.rm, h3.rm⟩
theorem OwT.below {w w' : World} {v : Value} {S : List So.R} {E : List R} {lo hi : Nat} (h : OwT w v S E lo hi) (hb : Below w.heap.size w w') : OwT w' v S E lo hi := by
  obtain ⟨g, c, h, d, mid, rfl, h1, h2, h3, h4⟩ := h
  exact ⟨g, c, h, d, mid, rfl, h1, h2.below hb, h3.below hb, h4⟩
theorem OwT.mono {w : World} {v : Value} {S : List So.R} {E : List R} {lo hi lo' hi' : Nat} (h : OwT w v S E lo hi) (h1 : lo' ≤ lo) (h2 : hi ≤ hi') : OwT w v S E lo' hi' := by
  obtain ⟨g, c, h, d, mid, rfl, q1, q2, q3, q4⟩ := h
  exact ⟨g, c, h, d, mid, rfl, q1, q2.mono h1 (Nat.le_refl _), q3.mono (Nat.le_refl _) h2, by omega⟩
theorem lsS_set {w : World} {a : Option Addr} {ms : List So.R} {lo hi b i : Nat} {u : Value} (h : So.Lst w a ms lo hi) (hb : b < lo ∨ hi ≤ b) : So.Lst (w.setCell ⟨b, i, none⟩ u) a ms lo hi :=
  h.but (p := fun k => k ≠ b) (by simp [World.setCell]) (fun k hk hne => Below.heap_setCell _ _ _ _ hne) (fun k h1 h2 => by omega)
theorem lsT_set {w : World} {a : Option Addr} {ms : List R} {lo hi b i : Nat} {u : Value} (h : Tu.Lst w a ms lo hi) (hb : b < lo ∨ hi ≤ b) : Tu.Lst (w.setCell ⟨b, i, none⟩ u) a ms lo hi :=
  h.but (p := fun k => k ≠ b) (by simp [World.setCell]) (fun k hk hne => Below.heap_setCell _ _ _ _ hne) (fun k h1 h2 => by omega)
set_option maxHeartbeats 4000000 in
theorem l09Own (g off : Nat) (ss : List So.R) (ca h ofe : Nat) (es : List R) (cb : Nat) (w : World) (hm : ss.length ≤ 4096) (hl : es.length ≤ 4096) (hr : So.RM w (some ⟨g, off, none⟩) ss) (hr' : RM w (some ⟨h, ofe, none⟩) es) :
    Calls Tryz.prog 75 #[.agg #[.slice (some ⟨g, off, none⟩) ss.length ca, .slice (some ⟨h, ofe, none⟩) es.length cb]] w fun e w' => ∃ v, e = .returned v ∧ Below w.heap.size w w' ∧ OwT w' v ss es w.heap.size w'.heap.size := by
  have HA0 : Hid (Below w.heap.size w (w.alloc (.cells #[.slice (some ⟨g, off, none⟩) ss.length ca, .slice (some ⟨h, ofe, none⟩) es.length cb] 77))) := hide ((Below.refl _ _).alloc (Nat.le_refl _) _)
  have HA : Hid (Below w.heap.size w ((w.alloc (.cells #[.slice (some ⟨g, off, none⟩) ss.length ca, .slice (some ⟨h, ofe, none⟩) es.length cb] 77)).alloc (.cells #[.slice none 0 0, .slice none 0 0] 77))) := hide ((unhide HA0).alloc (unhide HA0).size _)
  have HX : Hid (TV ((w.alloc (.cells #[.slice (some ⟨g, off, none⟩) ss.length ca, .slice (some ⟨h, ofe, none⟩) es.length cb] 77)).alloc (.cells #[.slice none 0 0, .slice none 0 0] 77)) w.heap.size (.slice (some ⟨g, off, none⟩) ss.length ca) (.slice (some ⟨h, ofe, none⟩) es.length cb)) := hide ((tv_new w _ _).below ((Below.refl _ _).alloc (Nat.le_refl _) _))
  have HZ : Hid (TV ((w.alloc (.cells #[.slice (some ⟨g, off, none⟩) ss.length ca, .slice (some ⟨h, ofe, none⟩) es.length cb] 77)).alloc (.cells #[.slice none 0 0, .slice none 0 0] 77)) (w.heap.size + 1) (.slice none 0 0) (.slice none 0 0)) := hide (by have := tv_new (w.alloc (.cells #[.slice (some ⟨g, off, none⟩) ss.length ca, .slice (some ⟨h, ofe, none⟩) es.length cb] 77)) (.slice none 0 0) (.slice none 0 0); rw [show (w.alloc (.cells #[.slice (some ⟨g, off, none⟩) ss.length ca, .slice (some ⟨h, ofe, none⟩) es.length cb] 77)).heap.size = w.heap.size + 1 by simp] at this; exact this)
  have hsz : (((w.alloc (.cells #[.slice (some ⟨g, off, none⟩) ss.length ca, .slice (some ⟨h, ofe, none⟩) es.length cb] 77)).alloc (.cells #[.slice none 0 0, .slice none 0 0] 77))).heap.size = w.heap.size + 2 := by simp
  have HR := hide hr
  have HE := hide hr'
  clear hr hr' HA0
  have hp1 : w.heap.size ≤ w.heap.size + 1 := by omega
  have O0 : Hid (((((w.alloc (.cells #[.slice (some ⟨g, off, none⟩) ss.length ca, .slice (some ⟨h, ofe, none⟩) es.length cb] 77)).alloc (.cells #[.slice none 0 0, .slice none 0 0] 77))).alloc (.cells #[] 107)).ownsRow (w.heap.size + 2) 107 3 (.slice (some ⟨w.heap.size + 2, 0, none⟩) 0 0) ([] : List So.R).length (So.flat [])) := hide (by have := So.own_empty ((w.alloc (.cells #[.slice (some ⟨g, off, none⟩) ss.length ca, .slice (some ⟨h, ofe, none⟩) es.length cb] 77)).alloc (.cells #[.slice none 0 0, .slice none 0 0] 77)) (w.heap.size + 2) (by rw [hsz]; exact Nat.le_refl _); rw [hsz] at this; exact this)
  have HA3 : Hid (Below w.heap.size w ((((w.alloc (.cells #[.slice (some ⟨g, off, none⟩) ss.length ca, .slice (some ⟨h, ofe, none⟩) es.length cb] 77)).alloc (.cells #[.slice none 0 0, .slice none 0 0] 77))).alloc (.cells #[] 107))) := hide ((unhide HA).alloc (unhide HA).size _)
  have HX3 : Hid (TV ((((w.alloc (.cells #[.slice (some ⟨g, off, none⟩) ss.length ca, .slice (some ⟨h, ofe, none⟩) es.length cb] 77)).alloc (.cells #[.slice none 0 0, .slice none 0 0] 77))).alloc (.cells #[] 107)) w.heap.size (.slice (some ⟨g, off, none⟩) ss.length ca) (.slice (some ⟨h, ofe, none⟩) es.length cb)) := hide ((unhide HX).below ((Below.refl _ _).alloc (Nat.le_refl _) _))
  have HZ3 : Hid (TV ((((w.alloc (.cells #[.slice (some ⟨g, off, none⟩) ss.length ca, .slice (some ⟨h, ofe, none⟩) es.length cb] 77)).alloc (.cells #[.slice none 0 0, .slice none 0 0] 77))).alloc (.cells #[] 107)) (w.heap.size + 1) (.slice none 0 0) (.slice none 0 0)) := hide ((unhide HZ).below ((Below.refl _ _).alloc (Nat.le_refl _) _))
  have hsz3 : ((((w.alloc (.cells #[.slice (some ⟨g, off, none⟩) ss.length ca, .slice (some ⟨h, ofe, none⟩) es.length cb] 77)).alloc (.cells #[.slice none 0 0, .slice none 0 0] 77))).alloc (.cells #[] 107)).heap.size = w.heap.size + 3 := by simp
  have HR3 := hide ((unhide HR).below (unhide HA3))
  clear HA HX HZ hsz
  go_enter Tryz.func75, Tryz.ntmps75
  go_wp2_with (at_builtin; refine apFSo (unhide O0) (by simp) g off ss.length ca ss rfl (unhide HR3) (by simp; omega) (by omega) rfl _ _ rfl rfl rfl ?_; intro b' c' w4 ho hc hg; simp only [List.nil_append] at ho hc ⊢; have HL4 := hide (lst_fm rfl ho); have HB4 := hide (So.below_own (unhide HA3) (unhide O0) hg (by omega) (by omega)); have HX4 := hide ((unhide HX3).grown hg (by simp [Value.ownBlock])); have HZ4 := hide ((unhide HZ3).grown hg (by simp [Value.ownBlock])); have HC4 := hide hc; have hs4 := hg.size; clear ho hg hc; obtain ⟨x0, x1⟩ := (unhide HX4).bx; have f0 := (unhide HX4).free 0)
  clear x0 x1 f0
  obtain ⟨w5, hw5⟩ : ∃ w5, w4.setCell ⟨w.heap.size, 0, none⟩ (.slice (some ⟨b', 0, none⟩) ss.length c') = w5 := ⟨_, rfl⟩
  rw [hw5]
  have HB5 : Hid (Below w.heap.size w w5) := hide (by rw [← hw5]; exact (unhide HB4).setCell (p := ⟨w.heap.size, 0, none⟩) (Nat.le_refl _) _)
  have HX5 : Hid (TV w5 w.heap.size (.slice (some ⟨b', 0, none⟩) ss.length c') (.slice (some ⟨h, ofe, none⟩) es.length cb)) := hide (by rw [← hw5]; exact (unhide HX4).set0 _)
  have HZ5 : Hid (TV w5 (w.heap.size + 1) (.slice none 0 0) (.slice none 0 0)) := hide (by rw [← hw5]; exact (unhide HZ4).other (p := ⟨w.heap.size, 0, none⟩) (by show w.heap.size + 1 ≠ w.heap.size; omega) _)
  have HL5 : Hid (So.Lst w5 (some ⟨b', 0, none⟩) ss (w.heap.size + 2) w5.heap.size) := hide (by rw [← hw5]; exact lsS_set ((unhide HL4).mono (Nat.le_refl _) (by simp [World.setCell])) (.inl (by omega)))
  have hs5 : w5.heap.size = w4.heap.size := by rw [← hw5]; simp [World.setCell]
  clear hw5 HB4 HX4 HZ4 HL4 HX3 HZ3 HR3 O0 HA3
  have HE5 := hide ((unhide HE).below (unhide HB5))
  refine (l03OwnF h ofe es cb _ _ rfl hl (unhide HE5)).mono ?_
  rintro e w6 ⟨q, d, rfl, b6, hd, l6⟩
  have HB6 := hide ((unhide HB5).trans (b6.mono (unhide HB5).size))
  have HX6 := hide ((unhide HX5).below b6)
  have HZ6 := hide ((unhide HZ5).below b6)
  have HL6 := hide ((unhide HL5).below b6)
  have HM6 := hide l6
  have hs6 := b6.size
  have HD := hide hd
  clear b6 l6 hd HX5 HZ5 HL5 HE5
  obtain ⟨x0, x1⟩ := (unhide HX6).bx
  have f1 := (unhide HX6).free 1
  obtain ⟨r0, r1⟩ := (unhide HZ6).bx
  have q0 := (unhide HZ6).free 0
  have q1 := (unhide HZ6).free 1
  have hne2 : ¬ w.heap.size = w.heap.size + 1 := by omega
  have hne3 : ¬ w.heap.size + 1 = w.heap.size := by omega
  go_wp2_with fail
  refine bodyPost_ret (v := .agg #[.slice (some ⟨b', 0, none⟩) ss.length c', .slice (some ⟨q, 0, none⟩) es.length d]) (by simp [results, Tryz.results75, go_sem, r0, r1, x0, x1]) rfl ⟨_, rfl, ?_, b', c', q, d, w5.heap.size, rfl, unhide HC4, ?_, ?_, by omega, ?_⟩
  · have hB := unhide HB6
    (repeat (first | (with_reducible exact hB) | (with_reducible refine Below.drew ?_) | (with_reducible refine Below.setCell ?_ ?_ _; rotate_left; (first | exact Nat.le_refl _ | (simp; done) | (dsimp only; omega))) | (with_reducible refine Below.alloc ?_ ?_ _; rotate_left; (first | exact Nat.le_refl _ | omega | (simp [World.setCell]; omega)))))
  · have := (unhide HL6)
    exact (lsS_set (lsS_set (lsS_set this (.inl (by omega))) (.inl (by omega))) (.inl (by omega))).mono (by omega) (Nat.le_refl _)
  · exact (lsT_set (lsT_set (lsT_set (unhide HM6) (.inl (by omega))) (.inl (by omega))) (.inl (by omega))).mono (Nat.le_refl _) (by simp [World.setCell])
  · simp [World.setCell]; omega
end Tp
end Go.Proofs.YthfcigfgpimimaaGreat
namespace Go.Proofs.YthfcigfgpimimaaGreat
open Go.ChangeShapes Go.WideShapes Go.ChangeAt Go.RowKit
set_option linter.unusedVariables false
set_option linter.unusedSimpArgs false
set_option maxRecDepth 100000
attribute [local go_sem ↓] Go.wp_at_zero Go.wp_at_succ
namespace Rt
open W1
theorem run_append_owned_zero {P : Program} {w : World} (base : Nat) (t ty e : TypeId) (i : TypeInfo) (size : Nat) (ht : P.underlying t = some (.slice e)) (hi : P.info? e = some i)
    (v : Value) (n : Nat) (xs : List Value) (hown : w.ownsRow base e size v n xs) (a : Option Addr) (c : Nat) :
    (Builtin.append_ #[t, t] ty #[v, .slice a 0 c]).run P w = .ok v w := by
  have h0 : ∀ (x : Addr), (loadCells x 0).run P w = .ok #[] w := fun x => run_loadCells_list (P := P) w x [] (fun j v hv => by simp at hv)
  rcases hown.2 with ⟨rfl, rfl⟩ | ⟨g, cap, cur, rfl, _, _, hnc, _⟩
  · cases a <;> simp [Builtin.append_, run_underlying ht, sizeOf, typeInfo, hi, Builtin.lenOf, Builtin.firstCells, h0, Result.andThen]
  · cases a <;> simp [Builtin.append_, run_underlying ht, sizeOf, typeInfo, hi, Builtin.lenOf, Builtin.firstCells, hnc, storeCells, h0, Result.andThen]
/-- append of nothing, wherever it lies. -/
theorem wpList_append_own_zero {P : Program} {w : World} {ops : Array Oper} {rest : List Oper} {o : Oper} {a : Act} {Q : Exit → Act → World → Prop} (hgd : o.guard = none) (s x : Operand) (t : TypeId)
    (ho : o.op = .call { callee := .builtin .append, args := #[s, x], argTypes := #[t, t] })
    (base : Nat) (e : TypeId) (i : TypeInfo) (size : Nat) (ht : P.underlying t = some (.slice e)) (hi : P.info? e = some i)
    (v : Value) (n : Nat) (xs : List Value) (hs : a.eval s = v) (hown : w.ownsRow base e size v n xs) (b : Option Addr) (c : Nat) (hx : a.eval x = .slice b 0 c)
    (h : wpList P ops Q rest (a.put o.dst v) w) : wpList P ops Q (o :: rest) a w := by
  refine wpList_plain hgd fun K hK => ?_
  have hrun := run_append_owned_zero (P := P) (w := w) base t o.type e i size ht hi v n xs hown b c
  unfold Oper.wp
  simp [execOp, ho, resolve, invoke, builtin, hs, hx, hrun, Result.andThen]
  exact hK _ _ h
theorem gb_refl (w : World) (r : Option Nat) : w.grownBy w r := ⟨rfl, rfl, rfl, Nat.le_refl _, fun _ _ _ => rfl⟩
/-- append of a list of edges that lies anywhere. -/
theorem apOE {ops : Array Oper} {rest : List Oper} {o : Oper} {a : Act} {Q : Exit → Act → World → Prop} {w : World} {base : Nat} {v : Value} {xs : List Ed.R} (hown : w.ownsRow base 130 2 v xs.length (Ed.flat xs)) (a0 : Option Addr) (c : Nat) (ms : List Ed.R) (hr : Ed.RM w a0 ms) (hlen : xs.length + ms.length ≤ 4194304) (hbase : base ≤ w.heap.size)
    (hgd : o.guard = none) (s x : Operand) (ho : o.op = .call { callee := .builtin .append, args := #[s, x], argTypes := #[78, 78] }) (hs : a.eval s = v) (hx : a.eval x = .slice a0 ms.length c)
    (h : ∀ v' w', w'.ownsRow base 130 2 v' (xs ++ ms).length (Ed.flat (xs ++ ms)) → w.grownBy w' v.ownBlock → wpList Tryz.prog ops Q rest (a.put o.dst v') w') : wpList Tryz.prog ops Q (o :: rest) a w := by
  by_cases h0 : 0 < ms.length
  · obtain ⟨g, off, rfl⟩ := hr.form h0
    exact Ed.wpList_apS hown g off ms.length c ms rfl hr hlen hbase hgd s x ho hs hx h
  · have hms : ms = [] := List.length_eq_zero_iff.1 (by omega)
    subst hms
    obtain ⟨i0, hi, _⟩ := Ed.infoR
    exact wpList_append_own_zero hgd s x _ ho base 130 i0 2 Tryz.underlying78 hi v _ _ hs hown a0 c hx (h v w (by rw [List.append_nil]; exact hown) (gb_refl _ _))
theorem l06OwnO (a : Option Addr) (ms : List Lk.R) (cap : Nat) (w : World) (hm : ms.length ≤ 4096) (hr : Lk.RM w a ms) :
    Calls Tryz.prog 73 #[.slice a ms.length cap] w fun e w' => ∃ v, e = .returned v ∧ Below w.heap.size w w' ∧ Lk.LstV w' v ms w.heap.size w'.heap.size := by
  by_cases h0 : 0 < ms.length
  · obtain ⟨g, off, rfl⟩ := hr.form h0
    exact Ln.l06Own g off ms cap _ w rfl hm hr
  · have hms : ms = [] := List.length_eq_zero_iff.1 (by omega)
    subst hms
    clear h0 hr hm
    have O0 := hide (Lk.own_empty w w.heap.size (Nat.le_refl _))
    obtain ⟨i0, hi, _⟩ := Lk.infoR
    go_enter Tryz.func73, Tryz.ntmps73
    go_wp2_with (at_builtin; refine wpList_append_own_zero rfl _ _ _ rfl w.heap.size 103 i0 6 Tryz.underlying73 hi _ _ _ rfl (unhide O0) _ _ rfl ?_)
    go_ret
    exact ⟨_, rfl, (Below.refl _ _).alloc (Nat.le_refl _) _, Lk.lstV_nil _ _ _ _ _⟩
theorem l03OwnO (a : Option Addr) (ms : List Tu.R) (cap : Nat) (w : World) (hm : ms.length ≤ 4096) (hr : Tu.RM w a ms) :
    Calls Tryz.prog 74 #[.slice a ms.length cap] w fun e w' => ∃ v, e = .returned v ∧ Below w.heap.size w w' ∧ Tu.LstV w' v ms w.heap.size w'.heap.size := by
  by_cases h0 : 0 < ms.length
  · obtain ⟨g, off, rfl⟩ := hr.form h0
    exact St.l03Own g off ms cap _ w rfl hm hr
  · have hms : ms = [] := List.length_eq_zero_iff.1 (by omega)
    subst hms
    clear h0 hr hm
    have O0 := hide (Tu.own_empty w w.heap.size (Nat.le_refl _))
    obtain ⟨i0, hi, _⟩ := Tu.infoR
    go_enter Tryz.func74, Tryz.ntmps74
    go_wp2_with (at_builtin; refine wpList_append_own_zero rfl _ _ _ rfl w.heap.size 111 i0 3 Tryz.underlying74 hi _ _ _ rfl (unhide O0) _ _ rfl ?_)
    go_ret
    exact ⟨_, rfl, (Below.refl _ _).alloc (Nat.le_refl _) _, Tu.lstV_nil _ _ _ _ _⟩
set_option maxHeartbeats 16000000 in
theorem l12Own (x1 x2 x3 x4 x5 x6 : Int) (a1 a2 a3 a4 a7 : Option Addr) (h5 g5 h6 g6 : Nat) (c1 c2 c3 c4 c5 c6 c7 : Nat) (ls : List Lk.R) (tw : List Tu.R) (se : List Tu.R) (du : List Tu.R) (ss : List So.R) (es : List Tu.R) (la : List Ed.R) (w : World) (hm1 : ls.length ≤ 4096) (hm2 : tw.length ≤ 4096) (hm3 : se.length ≤ 4096) (hm4 : du.length ≤ 4096) (hm5 : ss.length ≤ 4096) (hm6 : es.length ≤ 4096) (hm7 : la.length ≤ 4096) (hr1 : Lk.RM w a1 ls) (hr2 : Tu.RM w a2 tw) (hr3 : Tu.RM w a3 se) (hr4 : Tu.RM w a4 du) (hr5 : So.RM w (some ⟨h5, g5, none⟩) ss) (hr6 : Tu.RM w (some ⟨h6, g6, none⟩) es) (hr7 : Ed.RM w a7 la) :
    Calls Tryz.prog 40 #[.agg #[.int .i64 x1, .int .i64 x2, .int .i64 x3, .int .i64 x4, .int .i64 x5, .slice a1 ls.length c1, .slice a2 tw.length c2, .slice a3 se.length c3, .slice a4 du.length c4, .slice (some ⟨h5, g5, none⟩) ss.length c5, .slice (some ⟨h6, g6, none⟩) es.length c6, .slice a7 la.length c7, .int .i64 x6]] w fun e w' => ∃ b1 b2 b3 b4 b5 b6 b7 d1 d2 d3 d4 d5 d6 d7, e = .returned (.agg (rC x1 x2 x3 x4 x5 (.slice b1 ls.length d1) (.slice b2 tw.length d2) (.slice b3 se.length d3) (.slice b4 du.length d4) (.slice b5 ss.length d5) (.slice b6 es.length d6) (.slice b7 la.length d7) x6).toArray) ∧ Below w.heap.size w w' ∧ RL w' w.heap.size w'.heap.size b1 b2 b3 b4 b5 b6 b7 ls tw se du ss es la := by
  have HA1 : Hid (Below w.heap.size w (w.alloc (.cells #[.int .i64 x1, .int .i64 x2, .int .i64 x3, .int .i64 x4, .int .i64 x5, .slice a1 ls.length c1, .slice a2 tw.length c2, .slice a3 se.length c3, .slice a4 du.length c4, .slice (some ⟨h5, g5, none⟩) ss.length c5, .slice (some ⟨h6, g6, none⟩) es.length c6, .slice a7 la.length c7, .int .i64 x6] 80))) := hide ((Below.refl _ _).alloc (Nat.le_refl _) _)
  have HB0 : Hid (Below w.heap.size w ((w.alloc (.cells #[.int .i64 x1, .int .i64 x2, .int .i64 x3, .int .i64 x4, .int .i64 x5, .slice a1 ls.length c1, .slice a2 tw.length c2, .slice a3 se.length c3, .slice a4 du.length c4, .slice (some ⟨h5, g5, none⟩) ss.length c5, .slice (some ⟨h6, g6, none⟩) es.length c6, .slice a7 la.length c7, .int .i64 x6] 80)).alloc (.cells #[.int .i64 0, .int .i64 0, .int .i64 0, .int .i64 0, .int .i64 0, .slice none 0 0, .slice none 0 0, .slice none 0 0, .slice none 0 0, .slice none 0 0, .slice none 0 0, .slice none 0 0, .int .i64 0] 80))) := hide ((unhide HA1).alloc (unhide HA1).size _)
  have HX0 : Hid (RA ((w.alloc (.cells #[.int .i64 x1, .int .i64 x2, .int .i64 x3, .int .i64 x4, .int .i64 x5, .slice a1 ls.length c1, .slice a2 tw.length c2, .slice a3 se.length c3, .slice a4 du.length c4, .slice (some ⟨h5, g5, none⟩) ss.length c5, .slice (some ⟨h6, g6, none⟩) es.length c6, .slice a7 la.length c7, .int .i64 x6] 80)).alloc (.cells #[.int .i64 0, .int .i64 0, .int .i64 0, .int .i64 0, .int .i64 0, .slice none 0 0, .slice none 0 0, .slice none 0 0, .slice none 0 0, .slice none 0 0, .slice none 0 0, .slice none 0 0, .int .i64 0] 80)) w.heap.size (rC x1 x2 x3 x4 x5 (.slice a1 ls.length c1) (.slice a2 tw.length c2) (.slice a3 se.length c3) (.slice a4 du.length c4) (.slice (some ⟨h5, g5, none⟩) ss.length c5) (.slice (some ⟨h6, g6, none⟩) es.length c6) (.slice a7 la.length c7) x6)) := hide ((ra_new w _ rfl _).below ((Below.refl _ _).alloc (Nat.le_refl _) _))
  have HZ0 : Hid (RA ((w.alloc (.cells #[.int .i64 x1, .int .i64 x2, .int .i64 x3, .int .i64 x4, .int .i64 x5, .slice a1 ls.length c1, .slice a2 tw.length c2, .slice a3 se.length c3, .slice a4 du.length c4, .slice (some ⟨h5, g5, none⟩) ss.length c5, .slice (some ⟨h6, g6, none⟩) es.length c6, .slice a7 la.length c7, .int .i64 x6] 80)).alloc (.cells #[.int .i64 0, .int .i64 0, .int .i64 0, .int .i64 0, .int .i64 0, .slice none 0 0, .slice none 0 0, .slice none 0 0, .slice none 0 0, .slice none 0 0, .slice none 0 0, .slice none 0 0, .int .i64 0] 80)) (w.heap.size + 1) (rC 0 0 0 0 0 (.slice none 0 0) (.slice none 0 0) (.slice none 0 0) (.slice none 0 0) (.slice none 0 0) (.slice none 0 0) (.slice none 0 0) 0)) := hide (by have := ra_new (w.alloc (.cells #[.int .i64 x1, .int .i64 x2, .int .i64 x3, .int .i64 x4, .int .i64 x5, .slice a1 ls.length c1, .slice a2 tw.length c2, .slice a3 se.length c3, .slice a4 du.length c4, .slice (some ⟨h5, g5, none⟩) ss.length c5, .slice (some ⟨h6, g6, none⟩) es.length c6, .slice a7 la.length c7, .int .i64 x6] 80)) (rC 0 0 0 0 0 (.slice none 0 0) (.slice none 0 0) (.slice none 0 0) (.slice none 0 0) (.slice none 0 0) (.slice none 0 0) (.slice none 0 0) 0) rfl 80; rw [show (w.alloc (.cells #[.int .i64 x1, .int .i64 x2, .int .i64 x3, .int .i64 x4, .int .i64 x5, .slice a1 ls.length c1, .slice a2 tw.length c2, .slice a3 se.length c3, .slice a4 du.length c4, .slice (some ⟨h5, g5, none⟩) ss.length c5, .slice (some ⟨h6, g6, none⟩) es.length c6, .slice a7 la.length c7, .int .i64 x6] 80)).heap.size = w.heap.size + 1 by simp] at this; exact this)
  have hq0 : (((w.alloc (.cells #[.int .i64 x1, .int .i64 x2, .int .i64 x3, .int .i64 x4, .int .i64 x5, .slice a1 ls.length c1, .slice a2 tw.length c2, .slice a3 se.length c3, .slice a4 du.length c4, .slice (some ⟨h5, g5, none⟩) ss.length c5, .slice (some ⟨h6, g6, none⟩) es.length c6, .slice a7 la.length c7, .int .i64 x6] 80)).alloc (.cells #[.int .i64 0, .int .i64 0, .int .i64 0, .int .i64 0, .int .i64 0, .slice none 0 0, .slice none 0 0, .slice none 0 0, .slice none 0 0, .slice none 0 0, .slice none 0 0, .slice none 0 0, .int .i64 0] 80))).heap.size = w.heap.size + 2 := by simp
  have HR1 := hide hr1
  have HR2 := hide hr2
  have HR3 := hide hr3
  have HR4 := hide hr4
  have HR5 := hide hr5
  have HR6 := hide hr6
  have HR7 := hide hr7
  clear hr1 hr2 hr3 hr4 hr5 hr6 hr7 HA1
  have z5 := (unhide HX0).at (i := 5) rfl
  go_enter Tryz.func40, Tryz.ntmps40
  go_wp2_with fail
  clear z5
  generalize hW : ((w.alloc (.cells #[.int .i64 x1, .int .i64 x2, .int .i64 x3, .int .i64 x4, .int .i64 x5, .slice a1 ls.length c1, .slice a2 tw.length c2, .slice a3 se.length c3, .slice a4 du.length c4, .slice (some ⟨h5, g5, none⟩) ss.length c5, .slice (some ⟨h6, g6, none⟩) es.length c6, .slice a7 la.length c7, .int .i64 x6] 80)).alloc (.cells #[.int .i64 0, .int .i64 0, .int .i64 0, .int .i64 0, .int .i64 0, .slice none 0 0, .slice none 0 0, .slice none 0 0, .slice none 0 0, .slice none 0 0, .slice none 0 0, .slice none 0 0, .int .i64 0] 80)) = V0 at *
  clear hW
  refine (l06OwnO a1 ls c1 _ hm1 ((unhide HR1).below (unhide HB0))).mono ?_
  rintro e V1 ⟨v1, rfl, b_, l_⟩
  obtain ⟨b1, d1, rfl, L_⟩ := l_
  have HB1 := hide ((unhide HB0).trans (b_.mono (unhide HB0).size))
  have HX1 := hide ((unhide HX0).below b_)
  have HZ1 := hide ((unhide HZ0).below b_)
  have hq1 := b_.size
  clear HX0 HZ0 
  have U1_1 := hide L_
  clear L_ b_
  obtain ⟨V2, hV2⟩ : ∃ V, (V1.setCell ⟨w.heap.size, 5, none⟩ (.slice b1 ls.length d1)) = V := ⟨_, rfl⟩
  have HB2 : Hid (Below w.heap.size w V2) := hide (by rw [← hV2]; exact ((unhide HB1).setCell (p := ⟨w.heap.size, 5, none⟩) (Nat.le_refl _) (.slice b1 ls.length d1)))
  have HX2 : Hid (RA V2 w.heap.size (rC x1 x2 x3 x4 x5 (.slice b1 ls.length d1) (.slice a2 tw.length c2) (.slice a3 se.length c3) (.slice a4 du.length c4) (.slice (some ⟨h5, g5, none⟩) ss.length c5) (.slice (some ⟨h6, g6, none⟩) es.length c6) (.slice a7 la.length c7) x6)) := hide (by rw [← hV2]; exact (RA.set (unhide HX1) (k := 5) (by omega) (.slice b1 ls.length d1)))
  have HZ2 : Hid (RA V2 (w.heap.size + 1) (rC 0 0 0 0 0 (.slice none 0 0) (.slice none 0 0) (.slice none 0 0) (.slice none 0 0) (.slice none 0 0) (.slice none 0 0) (.slice none 0 0) 0)) := hide (by rw [← hV2]; exact (RA.other (unhide HZ1) (p := ⟨w.heap.size, 5, none⟩) (by show w.heap.size + 1 ≠ w.heap.size; omega) (.slice b1 ls.length d1)))
  have hq2 : V2.heap.size = V1.heap.size := by rw [← hV2]; simp [World.setCell]
  have hk2 : ∀ k, k < V1.heap.size → k ≠ w.heap.size → V2.heap[k]? = V1.heap[k]? := fun k _ h => by rw [← hV2]; exact (Below.heap_setCell _ _ _ _ h)
  have U1_2 := hide ((unhide U1_1).but (p := fun k => k ≠ w.heap.size) (by omega) hk2 (fun k h1 h2 => by omega))
  have HV2 := hide hV2
  clear hV2 hk2
  have o5 := (unhide HX1).at (i := 5) rfl
  have f5 := (unhide HX1).free (i := 5) (by omega)
  have z6 := (unhide HX1).at (i := 6) rfl
  go_wp2_with fail
  rw [unhide HV2]
  clear o5 f5 z6 HX1 HZ1 U1_1
  refine (l03OwnO a2 tw c2 _ hm2 ((unhide HR2).below (unhide HB2))).mono ?_
  rintro e V3 ⟨v3, rfl, b_, l_⟩
  obtain ⟨b2, d2, rfl, L_⟩ := l_
  have HB3 := hide ((unhide HB2).trans (b_.mono (unhide HB2).size))
  have HX3 := hide ((unhide HX2).below b_)
  have HZ3 := hide ((unhide HZ2).below b_)
  have U1_3 := hide ((unhide U1_2).below b_)
  have hq3 := b_.size
  clear HX2 HZ2 U1_2
  have U2_3 := hide L_
  clear L_ b_
  obtain ⟨V4, hV4⟩ : ∃ V, (V3.setCell ⟨w.heap.size, 6, none⟩ (.slice b2 tw.length d2)) = V := ⟨_, rfl⟩
  have HB4 : Hid (Below w.heap.size w V4) := hide (by rw [← hV4]; exact ((unhide HB3).setCell (p := ⟨w.heap.size, 6, none⟩) (Nat.le_refl _) (.slice b2 tw.length d2)))
  have HX4 : Hid (RA V4 w.heap.size (rC x1 x2 x3 x4 x5 (.slice b1 ls.length d1) (.slice b2 tw.length d2) (.slice a3 se.length c3) (.slice a4 du.length c4) (.slice (some ⟨h5, g5, none⟩) ss.length c5) (.slice (some ⟨h6, g6, none⟩) es.length c6) (.slice a7 la.length c7) x6)) := hide (by rw [← hV4]; exact (RA.set (unhide HX3) (k := 6) (by omega) (.slice b2 tw.length d2)))
  have HZ4 : Hid (RA V4 (w.heap.size + 1) (rC 0 0 0 0 0 (.slice none 0 0) (.slice none 0 0) (.slice none 0 0) (.slice none 0 0) (.slice none 0 0) (.slice none 0 0) (.slice none 0 0) 0)) := hide (by rw [← hV4]; exact (RA.other (unhide HZ3) (p := ⟨w.heap.size, 6, none⟩) (by show w.heap.size + 1 ≠ w.heap.size; omega) (.slice b2 tw.length d2)))
  have hq4 : V4.heap.size = V3.heap.size := by rw [← hV4]; simp [World.setCell]
  have hk4 : ∀ k, k < V3.heap.size → k ≠ w.heap.size → V4.heap[k]? = V3.heap[k]? := fun k _ h => by rw [← hV4]; exact (Below.heap_setCell _ _ _ _ h)
  have U1_4 := hide ((unhide U1_3).but (p := fun k => k ≠ w.heap.size) (by omega) hk4 (fun k h1 h2 => by omega))
  have U2_4 := hide ((unhide U2_3).but (p := fun k => k ≠ w.heap.size) (by omega) hk4 (fun k h1 h2 => by omega))
  have HV4 := hide hV4
  clear hV4 hk4
  have o6 := (unhide HX3).at (i := 6) rfl
  have f6 := (unhide HX3).free (i := 6) (by omega)
  have z7 := (unhide HX3).at (i := 7) rfl
  go_wp2_with fail
  rw [unhide HV4]
  clear o6 f6 z7 HX3 HZ3 U1_3 U2_3
  refine (l03OwnO a3 se c3 _ hm3 ((unhide HR3).below (unhide HB4))).mono ?_
  rintro e V5 ⟨v5, rfl, b_, l_⟩
  obtain ⟨b3, d3, rfl, L_⟩ := l_
  have HB5 := hide ((unhide HB4).trans (b_.mono (unhide HB4).size))
  have HX5 := hide ((unhide HX4).below b_)
  have HZ5 := hide ((unhide HZ4).below b_)
  have U1_5 := hide ((unhide U1_4).below b_)
  have U2_5 := hide ((unhide U2_4).below b_)
  have hq5 := b_.size
  clear HX4 HZ4 U1_4 U2_4
  have U3_5 := hide L_
  clear L_ b_
  obtain ⟨V6, hV6⟩ : ∃ V, (V5.setCell ⟨w.heap.size, 7, none⟩ (.slice b3 se.length d3)) = V := ⟨_, rfl⟩
  have HB6 : Hid (Below w.heap.size w V6) := hide (by rw [← hV6]; exact ((unhide HB5).setCell (p := ⟨w.heap.size, 7, none⟩) (Nat.le_refl _) (.slice b3 se.length d3)))
  have HX6 : Hid (RA V6 w.heap.size (rC x1 x2 x3 x4 x5 (.slice b1 ls.length d1) (.slice b2 tw.length d2) (.slice b3 se.length d3) (.slice a4 du.length c4) (.slice (some ⟨h5, g5, none⟩) ss.length c5) (.slice (some ⟨h6, g6, none⟩) es.length c6) (.slice a7 la.length c7) x6)) := hide (by rw [← hV6]; exact (RA.set (unhide HX5) (k := 7) (by omega) (.slice b3 se.length d3)))
  have HZ6 : Hid (RA V6 (w.heap.size + 1) (rC 0 0 0 0 0 (.slice none 0 0) (.slice none 0 0) (.slice none 0 0) (.slice none 0 0) (.slice none 0 0) (.slice none 0 0) (.slice none 0 0) 0)) := hide (by rw [← hV6]; exact (RA.other (unhide HZ5) (p := ⟨w.heap.size, 7, none⟩) (by show w.heap.size + 1 ≠ w.heap.size; omega) (.slice b3 se.length d3)))
  have hq6 : V6.heap.size = V5.heap.size := by rw [← hV6]; simp [World.setCell]
  have hk6 : ∀ k, k < V5.heap.size → k ≠ w.heap.size → V6.heap[k]? = V5.heap[k]? := fun k _ h => by rw [← hV6]; exact (Below.heap_setCell _ _ _ _ h)
  have U1_6 := hide ((unhide U1_5).but (p := fun k => k ≠ w.heap.size) (by omega) hk6 (fun k h1 h2 => by omega))
  have U2_6 := hide ((unhide U2_5).but (p := fun k => k ≠ w.heap.size) (by omega) hk6 (fun k h1 h2 => by omega))
  have U3_6 := hide ((unhide U3_5).but (p := fun k => k ≠ w.heap.size) (by omega) hk6 (fun k h1 h2 => by omega))
  have HV6 := hide hV6
  clear hV6 hk6
  have o7 := (unhide HX5).at (i := 7) rfl
  have f7 := (unhide HX5).free (i := 7) (by omega)
  have z8 := (unhide HX5).at (i := 8) rfl
  go_wp2_with fail
  rw [unhide HV6]
  clear o7 f7 z8 HX5 HZ5 U1_5 U2_5 U3_5
  refine (l03OwnO a4 du c4 _ hm4 ((unhide HR4).below (unhide HB6))).mono ?_
  rintro e V7 ⟨v7, rfl, b_, l_⟩
  obtain ⟨b4, d4, rfl, L_⟩ := l_
  have HB7 := hide ((unhide HB6).trans (b_.mono (unhide HB6).size))
  have HX7 := hide ((unhide HX6).below b_)
  have HZ7 := hide ((unhide HZ6).below b_)
  have U1_7 := hide ((unhide U1_6).below b_)
  have U2_7 := hide ((unhide U2_6).below b_)
  have U3_7 := hide ((unhide U3_6).below b_)
  have hq7 := b_.size
  clear HX6 HZ6 U1_6 U2_6 U3_6
  have U4_7 := hide L_
  clear L_ b_
  obtain ⟨V8, hV8⟩ : ∃ V, (V7.setCell ⟨w.heap.size, 8, none⟩ (.slice b4 du.length d4)) = V := ⟨_, rfl⟩
  have HB8 : Hid (Below w.heap.size w V8) := hide (by rw [← hV8]; exact ((unhide HB7).setCell (p := ⟨w.heap.size, 8, none⟩) (Nat.le_refl _) (.slice b4 du.length d4)))
  have HX8 : Hid (RA V8 w.heap.size (rC x1 x2 x3 x4 x5 (.slice b1 ls.length d1) (.slice b2 tw.length d2) (.slice b3 se.length d3) (.slice b4 du.length d4) (.slice (some ⟨h5, g5, none⟩) ss.length c5) (.slice (some ⟨h6, g6, none⟩) es.length c6) (.slice a7 la.length c7) x6)) := hide (by rw [← hV8]; exact (RA.set (unhide HX7) (k := 8) (by omega) (.slice b4 du.length d4)))
  have HZ8 : Hid (RA V8 (w.heap.size + 1) (rC 0 0 0 0 0 (.slice none 0 0) (.slice none 0 0) (.slice none 0 0) (.slice none 0 0) (.slice none 0 0) (.slice none 0 0) (.slice none 0 0) 0)) := hide (by rw [← hV8]; exact (RA.other (unhide HZ7) (p := ⟨w.heap.size, 8, none⟩) (by show w.heap.size + 1 ≠ w.heap.size; omega) (.slice b4 du.length d4)))
  have hq8 : V8.heap.size = V7.heap.size := by rw [← hV8]; simp [World.setCell]
  have hk8 : ∀ k, k < V7.heap.size → k ≠ w.heap.size → V8.heap[k]? = V7.heap[k]? := fun k _ h => by rw [← hV8]; exact (Below.heap_setCell _ _ _ _ h)
  have U1_8 := hide ((unhide U1_7).but (p := fun k => k ≠ w.heap.size) (by omega) hk8 (fun k h1 h2 => by omega))
  have U2_8 := hide ((unhide U2_7).but (p := fun k => k ≠ w.heap.size) (by omega) hk8 (fun k h1 h2 => by omega))
  have U3_8 := hide ((unhide U3_7).but (p := fun k => k ≠ w.heap.size) (by omega) hk8 (fun k h1 h2 => by omega))
  have U4_8 := hide ((unhide U4_7).but (p := fun k => k ≠ w.heap.size) (by omega) hk8 (fun k h1 h2 => by omega))
  have HV8 := hide hV8
  clear hV8 hk8
  have o8 := (unhide HX7).at (i := 8) rfl
  have f8 := (unhide HX7).free (i := 8) (by omega)
  have z9 := (unhide HX7).at (i := 9) rfl
  have z10 := (unhide HX7).at (i := 10) rfl
  go_wp2_with fail
  rw [unhide HV8]
  clear o8 f8 z9 z10 HX7 HZ7 U1_7 U2_7 U3_7 U4_7
  refine (Tp.l09Own h5 g5 ss c5 h6 g6 es c6 _ hm5 hm6 ((unhide HR5).below (unhide HB8)) ((unhide HR6).below (unhide HB8))).mono ?_
  rintro e V9 ⟨v9, rfl, b_, l_⟩
  obtain ⟨gg5, d5, gg6, d6, mid, rfl, _, L5_, L6_, hmi, hmj⟩ := l_
  obtain ⟨b5, hb5⟩ : ∃ b5, some (⟨gg5, 0, none⟩ : Addr) = b5 := ⟨_, rfl⟩
  obtain ⟨b6, hb6⟩ : ∃ b6, some (⟨gg6, 0, none⟩ : Addr) = b6 := ⟨_, rfl⟩
  rw [hb5] at L5_
  rw [hb6] at L6_
  rw [hb5, hb6]
  clear hb5 hb6
  have HB9 := hide ((unhide HB8).trans (b_.mono (unhide HB8).size))
  have HX9 := hide ((unhide HX8).below b_)
  have HZ9 := hide ((unhide HZ8).below b_)
  have U1_9 := hide ((unhide U1_8).below b_)
  have U2_9 := hide ((unhide U2_8).below b_)
  have U3_9 := hide ((unhide U3_8).below b_)
  have U4_9 := hide ((unhide U4_8).below b_)
  have hq9 := b_.size
  clear HX8 HZ8 U1_8 U2_8 U3_8 U4_8
  have U5_9 := hide L5_
  have U6_9 := hide L6_
  clear L5_ L6_ b_
  obtain ⟨V10, hV10⟩ : ∃ V, ((V9.setCell ⟨w.heap.size, 9, none⟩ (.slice b5 ss.length d5)).setCell ⟨w.heap.size, 10, none⟩ (.slice b6 es.length d6)) = V := ⟨_, rfl⟩
  have HB10 : Hid (Below w.heap.size w V10) := hide (by rw [← hV10]; exact (((unhide HB9).setCell (p := ⟨w.heap.size, 9, none⟩) (Nat.le_refl _) (.slice b5 ss.length d5)).setCell (p := ⟨w.heap.size, 10, none⟩) (Nat.le_refl _) (.slice b6 es.length d6)))
  have HX10 : Hid (RA V10 w.heap.size (rC x1 x2 x3 x4 x5 (.slice b1 ls.length d1) (.slice b2 tw.length d2) (.slice b3 se.length d3) (.slice b4 du.length d4) (.slice b5 ss.length d5) (.slice b6 es.length d6) (.slice a7 la.length c7) x6)) := hide (by rw [← hV10]; exact (RA.set (RA.set (unhide HX9) (k := 9) (by omega) (.slice b5 ss.length d5)) (k := 10) (by omega) (.slice b6 es.length d6)))
  have HZ10 : Hid (RA V10 (w.heap.size + 1) (rC 0 0 0 0 0 (.slice none 0 0) (.slice none 0 0) (.slice none 0 0) (.slice none 0 0) (.slice none 0 0) (.slice none 0 0) (.slice none 0 0) 0)) := hide (by rw [← hV10]; exact (RA.other (RA.other (unhide HZ9) (p := ⟨w.heap.size, 9, none⟩) (by show w.heap.size + 1 ≠ w.heap.size; omega) (.slice b5 ss.length d5)) (p := ⟨w.heap.size, 10, none⟩) (by show w.heap.size + 1 ≠ w.heap.size; omega) (.slice b6 es.length d6)))
  have hq10 : V10.heap.size = V9.heap.size := by rw [← hV10]; simp [World.setCell]
  have hk10 : ∀ k, k < V9.heap.size → k ≠ w.heap.size → V10.heap[k]? = V9.heap[k]? := fun k _ h => by rw [← hV10]; exact ((Below.heap_setCell _ _ _ _ h).trans (Below.heap_setCell _ _ _ _ h))
  have U1_10 := hide ((unhide U1_9).but (p := fun k => k ≠ w.heap.size) (by omega) hk10 (fun k h1 h2 => by omega))
  have U2_10 := hide ((unhide U2_9).but (p := fun k => k ≠ w.heap.size) (by omega) hk10 (fun k h1 h2 => by omega))
  have U3_10 := hide ((unhide U3_9).but (p := fun k => k ≠ w.heap.size) (by omega) hk10 (fun k h1 h2 => by omega))
  have U4_10 := hide ((unhide U4_9).but (p := fun k => k ≠ w.heap.size) (by omega) hk10 (fun k h1 h2 => by omega))
  have U5_10 := hide ((unhide U5_9).but (p := fun k => k ≠ w.heap.size) (by omega) hk10 (fun k h1 h2 => by omega))
  have U6_10 := hide ((unhide U6_9).but (p := fun k => k ≠ w.heap.size) (by omega) hk10 (fun k h1 h2 => by omega))
  have HV10 := hide hV10
  clear hV10 hk10
  have o9 := (unhide HX9).at (i := 9) rfl
  have f9 := (unhide HX9).free (i := 9) (by omega)
  have o10 := (unhide HX9).at (i := 10) rfl
  have f10 := (unhide HX9).free (i := 10) (by omega)
  clear HX9 HZ9 U1_9 U2_9 U3_9 U4_9 U5_9 U6_9
  have HBe : Hid (Below w.heap.size w (((V9.setCell ⟨w.heap.size, 9, none⟩ (.slice b5 ss.length d5)).setCell ⟨w.heap.size, 10, none⟩ (.slice b6 es.length d6)).alloc (.cells #[] 130))) := hide (by rw [unhide HV10]; exact (unhide HB10).alloc (unhide HB10).size _)
  have HXe : Hid (RA (((V9.setCell ⟨w.heap.size, 9, none⟩ (.slice b5 ss.length d5)).setCell ⟨w.heap.size, 10, none⟩ (.slice b6 es.length d6)).alloc (.cells #[] 130)) w.heap.size (rC x1 x2 x3 x4 x5 (.slice b1 ls.length d1) (.slice b2 tw.length d2) (.slice b3 se.length d3) (.slice b4 du.length d4) (.slice b5 ss.length d5) (.slice b6 es.length d6) (.slice a7 la.length c7) x6)) := hide (by rw [unhide HV10]; exact (unhide HX10).below ((Below.refl _ _).alloc (Nat.le_refl _) _))
  have HZe : Hid (RA (((V9.setCell ⟨w.heap.size, 9, none⟩ (.slice b5 ss.length d5)).setCell ⟨w.heap.size, 10, none⟩ (.slice b6 es.length d6)).alloc (.cells #[] 130)) (w.heap.size + 1) (rC 0 0 0 0 0 (.slice none 0 0) (.slice none 0 0) (.slice none 0 0) (.slice none 0 0) (.slice none 0 0) (.slice none 0 0) (.slice none 0 0) 0)) := hide (by rw [unhide HV10]; exact (unhide HZ10).below ((Below.refl _ _).alloc (Nat.le_refl _) _))
  have U1_e := hide (by rw [unhide HV10]; exact (unhide U1_10).below ((Below.refl _ _).alloc (Nat.le_refl _) (.cells #[] 130)) : Lk.Lst (((V9.setCell ⟨w.heap.size, 9, none⟩ (.slice b5 ss.length d5)).setCell ⟨w.heap.size, 10, none⟩ (.slice b6 es.length d6)).alloc (.cells #[] 130)) b1 ls V0.heap.size V1.heap.size)
  have U2_e := hide (by rw [unhide HV10]; exact (unhide U2_10).below ((Below.refl _ _).alloc (Nat.le_refl _) (.cells #[] 130)) : Tu.Lst (((V9.setCell ⟨w.heap.size, 9, none⟩ (.slice b5 ss.length d5)).setCell ⟨w.heap.size, 10, none⟩ (.slice b6 es.length d6)).alloc (.cells #[] 130)) b2 tw V2.heap.size V3.heap.size)
  have U3_e := hide (by rw [unhide HV10]; exact (unhide U3_10).below ((Below.refl _ _).alloc (Nat.le_refl _) (.cells #[] 130)) : Tu.Lst (((V9.setCell ⟨w.heap.size, 9, none⟩ (.slice b5 ss.length d5)).setCell ⟨w.heap.size, 10, none⟩ (.slice b6 es.length d6)).alloc (.cells #[] 130)) b3 se V4.heap.size V5.heap.size)
  have U4_e := hide (by rw [unhide HV10]; exact (unhide U4_10).below ((Below.refl _ _).alloc (Nat.le_refl _) (.cells #[] 130)) : Tu.Lst (((V9.setCell ⟨w.heap.size, 9, none⟩ (.slice b5 ss.length d5)).setCell ⟨w.heap.size, 10, none⟩ (.slice b6 es.length d6)).alloc (.cells #[] 130)) b4 du V6.heap.size V7.heap.size)
  have U5_e := hide (by rw [unhide HV10]; exact (unhide U5_10).below ((Below.refl _ _).alloc (Nat.le_refl _) (.cells #[] 130)) : So.Lst (((V9.setCell ⟨w.heap.size, 9, none⟩ (.slice b5 ss.length d5)).setCell ⟨w.heap.size, 10, none⟩ (.slice b6 es.length d6)).alloc (.cells #[] 130)) b5 ss V8.heap.size mid)
  have U6_e := hide (by rw [unhide HV10]; exact (unhide U6_10).below ((Below.refl _ _).alloc (Nat.le_refl _) (.cells #[] 130)) : Tu.Lst (((V9.setCell ⟨w.heap.size, 9, none⟩ (.slice b5 ss.length d5)).setCell ⟨w.heap.size, 10, none⟩ (.slice b6 es.length d6)).alloc (.cells #[] 130)) b6 es mid V9.heap.size)
  have O0 : Hid ((((V9.setCell ⟨w.heap.size, 9, none⟩ (.slice b5 ss.length d5)).setCell ⟨w.heap.size, 10, none⟩ (.slice b6 es.length d6)).alloc (.cells #[] 130)).ownsRow V9.heap.size 130 2 (.slice (some ⟨V9.heap.size, 0, none⟩) 0 0) ([] : List Ed.R).length (Ed.flat [])) := hide (by rw [unhide HV10, ← hq10]; exact Ed.own_empty V10 V10.heap.size (Nat.le_refl _))
  have HRe := hide ((unhide HR7).below (unhide HBe))
  have z11 := (unhide HXe).at (i := 11) rfl
  have hse : (((V9.setCell ⟨w.heap.size, 9, none⟩ (.slice b5 ss.length d5)).setCell ⟨w.heap.size, 10, none⟩ (.slice b6 es.length d6)).alloc (.cells #[] 130)).heap.size = V9.heap.size + 1 := by simp [World.setCell]
  have HSE := hide hse
  clear hse
  go_wp2_with (first | (at_builtin; refine apOE (unhide O0) a7 c7 la (unhide HRe) (by simp; omega) (by rw [unhide HSE]; omega) rfl _ _ rfl rfl rfl ?_; intro v8 V8 ho hg; have HB8 := hide (Ed.below_own (unhide HBe) (unhide O0) hg (by omega) (by rw [unhide HSE]; omega)); have HX8 := hide (RA.but (unhide HXe) (hg.block w.heap.size (by rw [unhide HSE]; omega) (fun e => by have := ((unhide O0).lt w.heap.size e.symm).1; omega))); have HZ8 := hide (RA.but (unhide HZe) (hg.block (w.heap.size + 1) (by rw [unhide HSE]; omega) (fun e => by have := ((unhide O0).lt (w.heap.size + 1) e.symm).1; omega))); have U1_8 := hide ((unhide U1_e).but (p := fun k => some k ≠ (Value.slice (some ⟨V9.heap.size, 0, none⟩) 0 0).ownBlock) hg.size (fun k hk h => hg.block k hk h) (fun k h1 h2 e => by have := ((unhide O0).lt k e.symm).1; omega)); have U2_8 := hide ((unhide U2_e).but (p := fun k => some k ≠ (Value.slice (some ⟨V9.heap.size, 0, none⟩) 0 0).ownBlock) hg.size (fun k hk h => hg.block k hk h) (fun k h1 h2 e => by have := ((unhide O0).lt k e.symm).1; omega)); have U3_8 := hide ((unhide U3_e).but (p := fun k => some k ≠ (Value.slice (some ⟨V9.heap.size, 0, none⟩) 0 0).ownBlock) hg.size (fun k hk h => hg.block k hk h) (fun k h1 h2 e => by have := ((unhide O0).lt k e.symm).1; omega)); have U4_8 := hide ((unhide U4_e).but (p := fun k => some k ≠ (Value.slice (some ⟨V9.heap.size, 0, none⟩) 0 0).ownBlock) hg.size (fun k hk h => hg.block k hk h) (fun k h1 h2 e => by have := ((unhide O0).lt k e.symm).1; omega)); have U5_8 := hide ((unhide U5_e).but (p := fun k => some k ≠ (Value.slice (some ⟨V9.heap.size, 0, none⟩) 0 0).ownBlock) hg.size (fun k hk h => hg.block k hk h) (fun k h1 h2 e => by have := ((unhide O0).lt k e.symm).1; omega)); have U6_8 := hide ((unhide U6_e).but (p := fun k => some k ≠ (Value.slice (some ⟨V9.heap.size, 0, none⟩) 0 0).ownBlock) hg.size (fun k hk h => hg.block k hk h) (fun k h1 h2 e => by have := ((unhide O0).lt k e.symm).1; omega)); have HL8 := hide (Ed.lst_own rfl ho); have HS8 := hide hg.size; clear ho hg; obtain ⟨b7, d7, hv8, HLL⟩ := unhide HL8; simp only [List.nil_append] at hv8 HLL; subst hv8; have U7_8 := hide HLL; clear HLL HL8; have o11 := (unhide HX8).at (i := 11) rfl; have f11 := (unhide HX8).free (i := 11) (by omega); have HOF : Hid (RA (V8.setCell ⟨w.heap.size, 11, none⟩ (.slice b7 la.length d7)) w.heap.size (rC x1 x2 x3 x4 x5 (.slice b1 ls.length d1) (.slice b2 tw.length d2) (.slice b3 se.length d3) (.slice b4 du.length d4) (.slice b5 ss.length d5) (.slice b6 es.length d6) (.slice b7 la.length d7) x6)) := hide (RA.set (unhide HX8) (k := 11) (by omega) (.slice b7 la.length d7)); have HZF : Hid (RA (V8.setCell ⟨w.heap.size, 11, none⟩ (.slice b7 la.length d7)) (w.heap.size + 1) (rC 0 0 0 0 0 (.slice none 0 0) (.slice none 0 0) (.slice none 0 0) (.slice none 0 0) (.slice none 0 0) (.slice none 0 0) (.slice none 0 0) 0)) := hide (RA.other (unhide HZ8) (p := ⟨w.heap.size, 11, none⟩) (by show w.heap.size + 1 ≠ w.heap.size; omega) (.slice b7 la.length d7)); have HBS : Hid (Below w.heap.size w (V8.setCell ⟨w.heap.size, 11, none⟩ (.slice b7 la.length d7))) := hide ((unhide HB8).setCell (p := ⟨w.heap.size, 11, none⟩) (Nat.le_refl _) (.slice b7 la.length d7)); have hqS : (V8.setCell ⟨w.heap.size, 11, none⟩ (.slice b7 la.length d7)).heap.size = V8.heap.size := (by simp [World.setCell]); have HQS := hide hqS; clear hqS) | (refine wpList_loadR (cs := [.int .i64 x1, .int .i64 x2, .int .i64 x3, .int .i64 x4, .int .i64 x5, .slice b1 ls.length d1, .slice b2 tw.length d2, .slice b3 se.length d3, .slice b4 du.length d4, .slice b5 ss.length d5, .slice b6 es.length d6, .slice b7 la.length d7, .int .i64 x6]) _ rfl rfl rfl (unhide HOF) ?_) | (refine wpList_storeR2 _ _ rfl rfl (rC x1 x2 x3 x4 x5 (.slice b1 ls.length d1) (.slice b2 tw.length d2) (.slice b3 se.length d3) (.slice b4 du.length d4) (.slice b5 ss.length d5) (.slice b6 es.length d6) (.slice b7 la.length d7) x6) (rC_ones rfl rfl rfl rfl rfl rfl rfl) rfl rfl (unhide HZF).2.1 ?_; intro VF raF bbF hsF kkF; have HRF := hide raF; have HBF := hide (bbF _ _ (unhide HBS) (by omega)); have HUF := hide kkF; have hqF := hsF.trans (unhide HQS); clear raF bbF hsF kkF))
  have hs8 := unhide HS8
  rw [unhide HSE] at hs8
  refine bodyPost_ret (resultsR rfl _ _ rfl (unhide HRF)) rfl ⟨b1, b2, b3, b4, b5, b6, b7, d1, d2, d3, d4, d5, d6, d7, rfl, unhide HBF, V1.heap.size, V3.heap.size, V5.heap.size, V7.heap.size, mid, V9.heap.size, ⟨by omega, by omega, by omega, by omega, by omega, by omega, by omega⟩, (((unhide U1_8).but (p := fun k => k ≠ w.heap.size) (by simp [World.setCell]) (fun k hk h => Below.heap_setCell _ _ _ _ h) (fun k h1 h2 => by omega) : Lk.Lst (V8.setCell ⟨w.heap.size, 11, none⟩ (.slice b7 la.length d7)) _ _ _ _).but (p := fun k => k ≠ w.heap.size + 1) (by rw [unhide HQS]; omega) (fun k hk h => unhide HUF k h) (fun k h1 h2 => by omega)).mono (by omega) (by omega), (((unhide U2_8).but (p := fun k => k ≠ w.heap.size) (by simp [World.setCell]) (fun k hk h => Below.heap_setCell _ _ _ _ h) (fun k h1 h2 => by omega) : Tu.Lst (V8.setCell ⟨w.heap.size, 11, none⟩ (.slice b7 la.length d7)) _ _ _ _).but (p := fun k => k ≠ w.heap.size + 1) (by rw [unhide HQS]; omega) (fun k hk h => unhide HUF k h) (fun k h1 h2 => by omega)).mono (by omega) (by omega), (((unhide U3_8).but (p := fun k => k ≠ w.heap.size) (by simp [World.setCell]) (fun k hk h => Below.heap_setCell _ _ _ _ h) (fun k h1 h2 => by omega) : Tu.Lst (V8.setCell ⟨w.heap.size, 11, none⟩ (.slice b7 la.length d7)) _ _ _ _).but (p := fun k => k ≠ w.heap.size + 1) (by rw [unhide HQS]; omega) (fun k hk h => unhide HUF k h) (fun k h1 h2 => by omega)).mono (by omega) (by omega), (((unhide U4_8).but (p := fun k => k ≠ w.heap.size) (by simp [World.setCell]) (fun k hk h => Below.heap_setCell _ _ _ _ h) (fun k h1 h2 => by omega) : Tu.Lst (V8.setCell ⟨w.heap.size, 11, none⟩ (.slice b7 la.length d7)) _ _ _ _).but (p := fun k => k ≠ w.heap.size + 1) (by rw [unhide HQS]; omega) (fun k hk h => unhide HUF k h) (fun k h1 h2 => by omega)).mono (by omega) (by omega), (((unhide U5_8).but (p := fun k => k ≠ w.heap.size) (by simp [World.setCell]) (fun k hk h => Below.heap_setCell _ _ _ _ h) (fun k h1 h2 => by omega) : So.Lst (V8.setCell ⟨w.heap.size, 11, none⟩ (.slice b7 la.length d7)) _ _ _ _).but (p := fun k => k ≠ w.heap.size + 1) (by rw [unhide HQS]; omega) (fun k hk h => unhide HUF k h) (fun k h1 h2 => by omega)).mono (by omega) (by omega), (((unhide U6_8).but (p := fun k => k ≠ w.heap.size) (by simp [World.setCell]) (fun k hk h => Below.heap_setCell _ _ _ _ h) (fun k h1 h2 => by omega) : Tu.Lst (V8.setCell ⟨w.heap.size, 11, none⟩ (.slice b7 la.length d7)) _ _ _ _).but (p := fun k => k ≠ w.heap.size + 1) (by rw [unhide HQS]; omega) (fun k hk h => unhide HUF k h) (fun k h1 h2 => by omega)).mono (by omega) (by omega), (((unhide U7_8).but (p := fun k => k ≠ w.heap.size) (by simp [World.setCell]) (fun k hk h => Below.heap_setCell _ _ _ _ h) (fun k h1 h2 => by omega) : Ed.Lst (V8.setCell ⟨w.heap.size, 11, none⟩ (.slice b7 la.length d7)) _ _ _ _).but (p := fun k => k ≠ w.heap.size + 1) (by rw [unhide HQS]; omega) (fun k hk h => unhide HUF k h) (fun k h1 h2 => by omega)).mono (by omega) (by omega)⟩
end Rt
end Go.Proofs.YthfcigfgpimimaaGreat
namespace Go.Proofs.YthfcigfgpimimaaGreat
open Go.ChangeShapes Go.WideShapes Go.ChangeAt Go.RowKit
set_option linter.unusedVariables false
set_option linter.unusedSimpArgs false
set_option maxRecDepth 100000
attribute [local go_sem ↓] Go.wp_at_zero Go.wp_at_succ
namespace Nt
open W1 Rt
/-- A net that lies between two bounds, and reads as these. -/
def RT (W : World) (lo hi : Nat) (a b d : Option Addr) (ms : List Rm) (qs : List Pl) (cs : List Int) (fs : List Fm.R) : Prop :=
  (ms = [] ∨ ∃ g, a = some ⟨g, 0, none⟩ ∧ lo ≤ g ∧ g < hi ∧ g < W.heap.size ∧ ∀ i, i < ms.length → W.rangeAt g (i * 13) (cl (ms.getD i Rm.zero) (qs.getD i Pl.zero)) ∧ Ow W lo hi (ms.getD i Rm.zero) (qs.getD i Pl.zero)) ∧ In.Lst W b cs lo hi ∧ Fm.Lst W d fs lo hi
theorem RT.below {W W' : World} {lo hi : Nat} {a b d : Option Addr} {ms : List Rm} {qs : List Pl} {cs : List Int} {fs : List Fm.R} (h : RT W lo hi a b d ms qs cs fs) (hb : Below W.heap.size W W') : RT W' lo hi a b d ms qs cs fs := by
  obtain ⟨h1, h2, h3⟩ := h
  refine ⟨?_, h2.below hb, h3.below hb⟩
  rcases h1 with h1 | ⟨g, rfl, e1, e2, e3, h1⟩
  · exact .inl h1
  · exact .inr ⟨g, rfl, e1, e2, Nat.lt_of_lt_of_le e3 hb.size, fun i hi => ⟨rng_under (h1 i hi).1 hb e3, (h1 i hi).2.below hb⟩⟩
theorem RT.but {W W' : World} {lo hi L H : Nat} {a b d : Option Addr} {ms : List Rm} {qs : List Pl} {cs : List Int} {fs : List Fm.R} (h : RT W lo hi a b d ms qs cs fs) (hs : W.heap.size ≤ W'.heap.size) (hb : ∀ k, k < W.heap.size → (k < L ∨ H ≤ k) → W'.heap[k]? = W.heap[k]?) (hd : hi ≤ L ∨ H ≤ lo) : RT W' lo hi a b d ms qs cs fs := by
  obtain ⟨h1, h2, h3⟩ := h
  refine ⟨?_, h2.but (p := fun k => k < L ∨ H ≤ k) hs (fun k hk h => hb k hk h) (fun k h1 h2 => by omega), h3.but (p := fun k => k < L ∨ H ≤ k) hs (fun k hk h => hb k hk h) (fun k h1 h2 => by omega)⟩
  rcases h1 with h1 | ⟨g, rfl, e1, e2, e3, h1⟩
  · exact .inl h1
  · exact .inr ⟨g, rfl, e1, e2, Nat.lt_of_lt_of_le e3 hs, fun i hi => ⟨rng_blk (h1 i hi).1 (hb g e3 (by omega)), (h1 i hi).2.but hs hb hd⟩⟩
theorem RT.mono {W : World} {lo hi lo' hi' : Nat} {a b d : Option Addr} {ms : List Rm} {qs : List Pl} {cs : List Int} {fs : List Fm.R} (h : RT W lo hi a b d ms qs cs fs) (h1 : lo' ≤ lo) (h2 : hi ≤ hi') : RT W lo' hi' a b d ms qs cs fs := by
  obtain ⟨h3, h4, h5⟩ := h
  refine ⟨?_, h4.mono h1 h2, h5.mono h1 h2⟩
  rcases h3 with h3 | ⟨g, rfl, e1, e2, e3, h3⟩
  · exact .inl h3
  · exact .inr ⟨g, rfl, by omega, by omega, e3, fun i hi => ⟨(h3 i hi).1, (h3 i hi).2.mono h1 h2⟩⟩
theorem RT.nr {W : World} {lo hi : Nat} {a b d : Option Addr} {ms : List Rm} {qs : List Pl} {cs : List Int} {fs : List Fm.R} (h : RT W lo hi a b d ms qs cs fs) : NR W a ms qs := by
  rcases h.1 with h1 | ⟨g, rfl, e1, e2, e3, h1⟩
  · exact .inl h1
  · exact .inr ⟨g, 0, rfl, fun i hi => ⟨by rw [Nat.zero_add]; exact (h1 i hi).1, (h1 i hi).2.rd⟩⟩
theorem RT.ri {W : World} {lo hi : Nat} {a b d : Option Addr} {ms : List Rm} {qs : List Pl} {cs : List Int} {fs : List Fm.R} (h : RT W lo hi a b d ms qs cs fs) : In.RM W b cs := h.2.1.rm
theorem RT.rf {W : World} {lo hi : Nat} {a b d : Option Addr} {ms : List Rm} {qs : List Pl} {cs : List Int} {fs : List Fm.R} (h : RT W lo hi a b d ms qs cs fs) : Fm.RM W d fs := h.2.2.rm
theorem MT.rt {W : World} {lo hi : Nat} {a b d : Option Addr} {ms : List Rm} {qs : List Pl} {cs : List Int} {fs : List Fm.R} (h : MT W lo hi a b d ms qs cs fs) : RT W lo hi a b d ms qs cs fs := by
  obtain ⟨f, p1, q1, p2, q2, p3, q3, e1, e2, e3, e4, e5, e6, h1, h2, h3⟩ := h
  refine ⟨?_, h2.mono e2.1 e2.2, h3.mono e3.1 e3.2⟩
  rcases h1 with h1 | ⟨g, rfl, h1, h2, h3, h4, h5, h6, h7⟩
  · exact .inl (List.eq_nil_of_length_eq_zero h1)
  · exact .inr ⟨g, rfl, by omega, by omega, h3, fun i hi => ⟨h7.1 i hi, (h7.2.2 i hi).mono (by have := h6 i hi; omega) (by have := h6 i hi; omega)⟩⟩
/-- Routers whose lists lie apart from their row. -/
def Sep (W : World) (v : Value) (lo : Nat) (xs : List (Rm × Pl)) : Prop := ∀ i, i < xs.length → ∃ f h, lo ≤ f ∧ f ≤ h ∧ h ≤ W.heap.size ∧ (∀ g, v.ownBlock = some g → g < f ∨ h ≤ g) ∧ Ow W f h (xs.getD i zP).1 (xs.getD i zP).2
theorem sep_nil (W : World) (v : Value) (lo : Nat) : Sep W v lo [] := fun i hi => absurd hi (Nat.not_lt_zero i)
theorem Sep.step {W W1 W2 W3 : World} {v v' : Value} {lo n base : Nat} {xs : List (Rm × Pl)} {ys : List Value} {m : Rm} {q : Pl} (h : Sep W v lo xs) (hlo : lo ≤ W.heap.size) (hv : ∀ g, v.ownBlock = some g → g < W.heap.size) (b1 : Below W.heap.size W W1) (ho : Ow W1 W.heap.size W1.heap.size m q) (b2 : Below W1.heap.size W1 W2) (hg : W2.grownBy W3 v.ownBlock) (hl : v'.ownBlock = v.ownBlock ∨ v'.ownBlock = some W2.heap.size) : Sep W3 v' lo (xs ++ [(m, q)]) := by
  have keep : ∀ f h m q, f ≤ h → h ≤ W2.heap.size → (∀ g, v.ownBlock = some g → g < f ∨ h ≤ g) → Ow W2 f h m q → (∀ g, v'.ownBlock = some g → g < f ∨ h ≤ g) ∧ Ow W3 f h m q := fun f h m q e1 e2 e3 e4 => by
    refine ⟨fun g e => ?_, ?_⟩
    · rcases hl with hl | hl
      · rw [hl] at e; exact e3 g e
      · rw [hl] at e; cases e; exact .inr e2
    · cases hw : v.ownBlock with
      | none => exact e4.but (Lo := 0) (Hi := 0) hg.size (fun k hk _ => hg.block k hk (by rw [hw]; simp)) (.inr (Nat.zero_le _))
      | some g => exact e4.but (Lo := g) (Hi := g + 1) hg.size (fun k hk h => hg.block k hk (by rw [hw]; intro e; cases e; omega)) (by have := e3 g hw; omega)
  intro i hi
  rw [List.length_append] at hi
  by_cases e : i < xs.length
  · obtain ⟨f, h, e1, e2, e3, e4, e5⟩ := h i e
    rw [getD_snoc_lt _ _ _ e]
    obtain ⟨k1, k2⟩ := keep f h _ _ e2 (by have := b1.size; have := b2.size; omega) e4 ((e5.below b1).below b2)
    exact ⟨f, h, e1, e2, by have := b1.size; have := b2.size; have := hg.size; omega, k1, k2⟩
  · rw [getD_snoc_eq _ _ _ (by simp at hi; omega)]
    obtain ⟨k1, k2⟩ := keep W.heap.size W1.heap.size m q b1.size b2.size (fun g e => .inl (hv g e)) (ho.below b2)
    exact ⟨W.heap.size, W1.heap.size, hlo, b1.size, by have := b2.size; have := hg.size; omega, k1, k2⟩
theorem Sep.but {W W' : World} {v : Value} {lo L H : Nat} {xs : List (Rm × Pl)} (h : Sep W v lo xs) (hs : W.heap.size ≤ W'.heap.size) (hb : ∀ k, k < W.heap.size → (k < L ∨ H ≤ k) → W'.heap[k]? = W.heap[k]?) (hd : H ≤ lo) : Sep W' v lo xs := fun i hi => by
  obtain ⟨f, k, e1, e2, e3, e4, e5⟩ := h i hi
  exact ⟨f, k, e1, e2, Nat.le_trans e3 hs, e4, e5.but hs hb (.inr (by omega))⟩
theorem Sep.below {W W' : World} {v : Value} {lo : Nat} {xs : List (Rm × Pl)} (h : Sep W v lo xs) (hb : Below W.heap.size W W') : Sep W' v lo xs := fun i hi => by
  obtain ⟨f, k, e1, e2, e3, e4, e5⟩ := h i hi
  exact ⟨f, k, e1, e2, Nat.le_trans e3 hb.size, e4, e5.below hb⟩
theorem ownN_bel {w w' : World} {base e k : Nat} {v : Value} {n : Nat} {xs : List Value} (h : w.ownsRow base e k v n xs) (hb : Below w.heap.size w w') : w'.ownsRow base e k v n xs := by
  refine h.kept (row := none) ⟨hb.os, hb.tape, hb.output, hb.size, fun k hk _ => hb.block k hk⟩ ?_
  cases v.ownBlock
  · exact .inl rfl
  · exact .inr (by simp)
/-- append of routers to a row of one's own, and where it lies then. -/
theorem wpList_apNL {ops : Array Oper} {rest : List Oper} {o : Oper} {a : Act} {Q : Exit → Act → World → Prop} {w : World} {base : Nat} {v : Value} {xs : List (Rm × Pl)} (hown : w.ownsRow base 80 13 v xs.length (fl xs)) (g off m c : Nat) (ys : List (Rm × Pl)) (hm : ys.length = m) (hm0 : 0 < m) (hr : Rws w g off ys) (hlen : xs.length + ys.length ≤ 4194304) (hbase : base ≤ w.heap.size)
    (hgd : o.guard = none) (s x : Operand) (ho : o.op = .call { callee := .builtin .append, args := #[s, x], argTypes := #[29, 29] }) (hs : a.eval s = v) (hx : a.eval x = .slice (some ⟨g, off, none⟩) m c)
    (h : ∀ v' w', w'.ownsRow base 80 13 v' (xs ++ ys).length (fl (xs ++ ys)) → w.grownBy w' v.ownBlock → (v'.ownBlock = v.ownBlock ∨ v'.ownBlock = some w.heap.size) → (∃ g cap, v' = .slice (some ⟨g, 0, none⟩) (xs.length + ys.length) cap) → wpList Tryz.prog ops Q rest (a.put o.dst v') w') : wpList Tryz.prog ops Q (o :: rest) a w := by
  subst hm
  obtain ⟨i0, hi, hz0, hz1, hz2⟩ := infoZ
  refine wpList_append_lies w hgd s x _ ho base 80 i0 _ 13 216 Tryz.underlying29 hi hz0 hz1 hz2 rfl (by decide) v xs.length (fl xs) hs hown ⟨g, off, none⟩ ys.length c (fl ys) hx (fl_len ys) hr.cells (fun u hu => fl_ones hu) hm0 (by unfold maxLen; omega) (by omega) hbase _ rfl (fun g' cap w' h1 h2 h3 h4 => ?_)
  refine h _ w' ?_ h2 ?_ ⟨g', cap, rfl⟩
  · rw [List.length_append, fl_append]; exact h1
  · rcases h3 with h3 | h3
    · exact .inl h3.symm
    · exact .inr (by rw [h3]; rfl)
/-- Integers and frames of one's own, wherever they come from. -/
theorem apOI {ops : Array Oper} {rest : List Oper} {o : Oper} {a : Act} {Q : Exit → Act → World → Prop} {w : World} {base : Nat} {v : Value} {xs : List Int} (hown : w.ownsRow base 3 1 v xs.length (In.flat xs)) (a0 : Option Addr) (c : Nat) (ms : List Int) (hr : In.RM w a0 ms) (hlen : xs.length + ms.length ≤ 4194304) (hbase : base ≤ w.heap.size)
    (hgd : o.guard = none) (s x : Operand) (ho : o.op = .call { callee := .builtin .append, args := #[s, x], argTypes := #[23, 23] }) (hs : a.eval s = v) (hx : a.eval x = .slice a0 ms.length c)
    (h : ∀ v' w', w'.ownsRow base 3 1 v' (xs ++ ms).length (In.flat (xs ++ ms)) → w.grownBy w' v.ownBlock → wpList Tryz.prog ops Q rest (a.put o.dst v') w') : wpList Tryz.prog ops Q (o :: rest) a w := by
  rcases hr with e0 | ⟨g, off, rfl, hcc⟩
  · subst e0
    obtain ⟨i0, hi, _⟩ := In.infoI
    exact wpList_append_none hgd s x _ ho base 3 i0 1 Tryz.underlying23 hi v _ _ hs hown a0 c hx (h v w (by rw [List.append_nil]; exact hown) (gb_reflC _ _))
  · exact In.wpList_apS hown g off ms.length c ms rfl (.inr ⟨g, off, rfl, hcc⟩) hlen hbase hgd s x ho hs hx h
theorem apOF {ops : Array Oper} {rest : List Oper} {o : Oper} {a : Act} {Q : Exit → Act → World → Prop} {w : World} {base : Nat} {v : Value} {xs : List Fm.R} (hown : w.ownsRow base 49 4 v xs.length (Fm.flat xs)) (a0 : Option Addr) (c : Nat) (ms : List Fm.R) (hr : Fm.RM w a0 ms) (hlen : xs.length + ms.length ≤ 4194304) (hbase : base ≤ w.heap.size)
    (hgd : o.guard = none) (s x : Operand) (ho : o.op = .call { callee := .builtin .append, args := #[s, x], argTypes := #[30, 30] }) (hs : a.eval s = v) (hx : a.eval x = .slice a0 ms.length c)
    (h : ∀ v' w', w'.ownsRow base 49 4 v' (xs ++ ms).length (Fm.flat (xs ++ ms)) → w.grownBy w' v.ownBlock → wpList Tryz.prog ops Q rest (a.put o.dst v') w') : wpList Tryz.prog ops Q (o :: rest) a w := by
  rcases hr with e0 | ⟨g, off, rfl, hcc⟩
  · subst e0
    obtain ⟨i0, hi, _⟩ := Fm.infoR
    exact wpList_append_none hgd s x _ ho base 49 i0 4 Tryz.underlying30 hi v _ _ hs hown a0 c hx (h v w (by rw [List.append_nil]; exact hown) (gb_reflC _ _))
  · exact Fm.wpList_apS hown g off ms.length c ms rfl (.inr ⟨g, off, rfl, hcc⟩) hlen hbase hgd s x ho hs hx h
theorem ownN (m : Rm) (p : Pl) (w : World) (hs : okL m) (hr : Rd w m p) (had : Ad p) :
    Calls Tryz.prog 40 #[.agg (cl m p).toArray] w fun e w' => ∃ q, e = .returned (.agg (cl m q).toArray) ∧ Below w.heap.size w w' ∧ Ow w' w.heap.size w'.heap.size m q := by
  obtain ⟨s1, s2, s3, s4, s5, s6, s7⟩ := hs
  obtain ⟨r1, r2, r3, r4, r5, r6, r7⟩ := hr
  obtain ⟨_, _, _, _, ⟨g5, e5⟩, ⟨g6, e6⟩, _⟩ := had
  rw [e5] at r5
  rw [e6] at r6
  have h := l12Own m.x1 m.x2 m.x3 m.x4 m.x5 m.x6 p.a1 p.a2 p.a3 p.a4 p.a7 g5 0 g6 0 p.c1 p.c2 p.c3 p.c4 p.c5 p.c6 p.c7 m.ls m.tw m.se m.du m.ss m.es m.la w s1 s2 s3 s4 s5 s6 s7 r1 r2 r3 r4 r5 r6 r7
  rw [← e5, ← e6] at h
  refine h.mono ?_
  rintro e w' ⟨b1, b2, b3, b4, b5, b6, b7, d1, d2, d3, d4, d5, d6, d7, rfl, hb, h⟩
  exact ⟨⟨b1, b2, b3, b4, b5, b6, b7, d1, d2, d3, d4, d5, d6, d7⟩, rfl, hb, h⟩
set_option maxHeartbeats 32000000 in
theorem l13Own (a b d : Option Addr) (ca cb cd n : Nat) (t : Int) (ms : List Rm) (ps : List Pl) (cs : List Int) (fs : List Fm.R) (w : World) (hn : ms.length = n) (h0 : 0 < n) (hm : n ≤ 4096) (hc : cs.length ≤ 4096) (hf : fs.length ≤ 4096) (hs : ∀ i, i < n → okL (ms.getD i Rm.zero)) (had : ∀ i, i < n → Ad (ps.getD i Pl.zero)) (hr : NR w a ms ps) (hi : In.RM w b cs) (hz : Fm.RM w d fs) :
    Calls Tryz.prog 19 #[.agg #[.slice a n ca, .slice b cs.length cb, .slice d fs.length cd, .int .i64 t]] w fun e w' => ∃ a' b' d' ca' cb' cd' qs, e = .returned (.agg #[.slice a' n ca', .slice b' cs.length cb', .slice d' fs.length cd', .int .i64 t]) ∧ Below w.heap.size w w' ∧ RT w' w.heap.size w'.heap.size a' b' d' ms qs cs fs ∧ Hid (∃ mid, w.heap.size ≤ mid ∧ mid ≤ w'.heap.size ∧ RT w' w.heap.size mid a' b' none ms qs cs [] ∧ w'.ownsRow mid 49 4 (.slice d' fs.length cd') fs.length (Fm.flat fs)) := by
  have z1 : (w.alloc (.cells #[.slice a n ca, .slice b cs.length cb, .slice d fs.length cd, .int .i64 t] 32)).heap.size = w.heap.size + 1 := by simp
  have hq0 : w.heap.size + 2 ≤ ((w.alloc (.cells #[.slice a n ca, .slice b cs.length cb, .slice d fs.length cd, .int .i64 t] 32)).alloc (.cells #[.slice none 0 0, .slice none 0 0, .slice none 0 0, .int .i64 0] 32)).heap.size := by simp
  have HB0 : Hid (Below w.heap.size w ((w.alloc (.cells #[.slice a n ca, .slice b cs.length cb, .slice d fs.length cd, .int .i64 t] 32)).alloc (.cells #[.slice none 0 0, .slice none 0 0, .slice none 0 0, .int .i64 0] 32))) := hide (((Below.refl _ _).alloc (Nat.le_refl _) _).alloc (by simp) _)
  have c1 : Below (w.alloc (.cells #[.slice a n ca, .slice b cs.length cb, .slice d fs.length cd, .int .i64 t] 32)).heap.size (w.alloc (.cells #[.slice a n ca, .slice b cs.length cb, .slice d fs.length cd, .int .i64 t] 32)) ((w.alloc (.cells #[.slice a n ca, .slice b cs.length cb, .slice d fs.length cd, .int .i64 t] 32)).alloc (.cells #[.slice none 0 0, .slice none 0 0, .slice none 0 0, .int .i64 0] 32)) := bel_new _ _
  have HX0 := hide ((nb_new w (.slice a n ca) (.slice b cs.length cb) (.slice d fs.length cd) t 32).below c1)
  have TX0 : Hid (((w.alloc (.cells #[.slice a n ca, .slice b cs.length cb, .slice d fs.length cd, .int .i64 t] 32)).alloc (.cells #[.slice none 0 0, .slice none 0 0, .slice none 0 0, .int .i64 0] 32)).there w.heap.size 0 4) := hide (there_under (there_new4 w _ _ _ _ _) c1 (by rw [z1]; omega))
  have TZ0 : Hid (((w.alloc (.cells #[.slice a n ca, .slice b cs.length cb, .slice d fs.length cd, .int .i64 t] 32)).alloc (.cells #[.slice none 0 0, .slice none 0 0, .slice none 0 0, .int .i64 0] 32)).there (w.heap.size + 1) 0 4) := hide (by have h := there_new4 (w.alloc (.cells #[.slice a n ca, .slice b cs.length cb, .slice d fs.length cd, .int .i64 t] 32)) (.slice none 0 0) (.slice none 0 0) (.slice none 0 0) (.int .i64 0) 32; rw [z1] at h; exact h)
  have HR := hide hr
  have HI := hide hi
  have HF := hide hz
  have HS := hide hs
  have HAD := hide had
  have HN := hide hn
  clear z1 c1 hr hi hz hs had hn
  go_enter Tryz.func19, Tryz.ntmps19
  obtain ⟨V0, hV0⟩ : ∃ V, ((w.alloc (.cells #[.slice a n ca, .slice b cs.length cb, .slice d fs.length cd, .int .i64 t] 32)).alloc (.cells #[.slice none 0 0, .slice none 0 0, .slice none 0 0, .int .i64 0] 32)) = V := ⟨_, rfl⟩
  rw [hV0] at HB0 HX0 TX0 TZ0 hq0
  have OW0 := hide (ownN_empty V0 V0.heap.size (Nat.le_refl _))
  have b1_ : Below V0.heap.size V0 (V0.alloc (.cells #[] 80)) := bel_new _ _
  have HB1 := hide ((unhide HB0).trans (b1_.mono (unhide HB0).size))
  have HX1 := hide ((unhide HX0).below b1_)
  have TX1 := hide (there_under (unhide TX0) b1_ (unhide HX0).lt)
  have TZ1 := hide (there_under (unhide TZ0) b1_ (by have := (unhide HX0).lt; omega))
  have SP1 := hide (sep_nil (V0.alloc (.cells #[] 80)) (.slice (some ⟨V0.heap.size, 0, none⟩) 0 0) V0.heap.size)
  have hs1 := hide b1_.size
  clear HX0 TX0 TZ0 b1_ HB0
  go_wp2_with fail
  try rw [hV0]
  clear hV0
  go_loopw [3, 4] (fun v i wr => ∃ j : Nat, j ≤ n ∧ i = .int .i64 j ∧ ∃ xs : List (Rm × Pl), xs.length = j ∧ Hid (∀ i, i < j → (xs.getD i zP).1 = ms.getD i Rm.zero) ∧ Hid (wr.ownsRow V0.heap.size 80 13 v xs.length (fl xs)) ∧ Hid (Below w.heap.size w wr) ∧ Hid (V0.heap.size ≤ wr.heap.size) ∧ Hid (NB wr w.heap.size (.slice a n ca) (.slice b cs.length cb) (.slice d fs.length cd) t) ∧ Hid (wr.there w.heap.size 0 4) ∧ Hid (wr.there (w.heap.size + 1) 0 4) ∧ Hid (Sep wr v V0.heap.size xs)) (fun _ i _ => n - (intOf i).toNat)
  case atStart => exact ⟨0, by omega, rfl, [], rfl, hide (fun i hi => absurd hi (Nat.not_lt_zero i)), OW0, HB1, hs1, HX1, TX1, TZ1, SP1⟩
  case round =>
    clear OW0 HB1 hs1 HX1 TX1 TZ1 SP1
    obtain ⟨j, hj, rfl, xs, hxl, hfs, how, hb, hsz, hx, tx, tz, hsp⟩ := hrel
    obtain ⟨p0, p1, p2, p3⟩ := unhide hx
    by_cases hlt : (j : Int) < (n : Int)
    · have k0 : (0 : Int) ≤ (j : Int) := by omega
      have hjn : j < n := by omega
      obtain ⟨ga, off, rfl, hA0, hD0⟩ := ((unhide HR).below (unhide hb)).at (i := j) (by rw [unhide HN]; exact hjn)
      have HA := hide hA0
      have HD := hide hD0
      have HO := hide ((unhide HS) j hjn)
      have HJ := hide ((unhide HAD) j hjn)
      have HFS := hide (fun (m : Rm) (q : Pl) (e : m = ms.getD j Rm.zero) (i : Nat) (hi : i < j + 1) => show (((xs ++ [(m, q)]).getD i zP).1 = ms.getD i Rm.zero) by
        by_cases e1 : i = j
        · rw [getD_snoc_eq _ _ _ (by omega), e1]; exact e
        · rw [getD_snoc_lt _ _ _ (by omega)]; exact unhide hfs i (by omega))
      have HXL := hide hxl
      clear hA0 hD0 hfs hxl
      generalize hmj : ms.getD j Rm.zero = m at HD HA HO HFS
      generalize hpj : ps.getD j Pl.zero = p at HD HA HJ
      clear hmj hpj
      go_wp2_with (refine loadI _ rfl rfl (unhide HA) rfl ?_)
      clear p0 p1 p2 p3
      refine (ownN m p _ (unhide HO) (unhide HD) (unhide HJ)).mono ?_
      rintro e w1 ⟨q, rfl, b1, ho⟩
      have HB1 := hide ((unhide hb).trans (b1.mono (unhide hb).size))
      have HX1 := hide ((unhide hx).below b1)
      have TX1 := hide (there_under (unhide tx) b1 (unhide hx).lt)
      have hsw := unhide hsz
      have TZ1 := hide (there_under (unhide tz) b1 (by have := (unhide hx).lt; omega))
      have OW1 := hide (ownN_bel (unhide how) b1)
      have hz1 := b1.size
      have HSS := hide (fun (W3 : World) (v' : Value) (h2 : (w1.alloc (.cells (cl m q).toArray 80)).grownBy W3 u3.ownBlock) (h3 : v'.ownBlock = u3.ownBlock ∨ v'.ownBlock = some (w1.alloc (.cells (cl m q).toArray 80)).heap.size) => (unhide hsp).step (n := 0) (base := 0) (ys := []) hsw (fun g e => ((unhide how).lt g e).2) b1 ho (bel_new w1 (.cells (cl m q).toArray 80)) h2 h3)
      have HSH : Hid (∀ W3 : World, (w1.alloc (.cells (cl m q).toArray 80)).grownBy W3 u3.ownBlock → NB W3 w.heap.size (.slice (some ⟨ga, off, none⟩) n ca) (.slice b cs.length cb) (.slice d fs.length cd) t ∧ W3.there w.heap.size 0 4 ∧ W3.there (w.heap.size + 1) 0 4 ∧ Below w.heap.size w W3 ∧ V0.heap.size ≤ W3.heap.size) := hide (fun W3 hg => by
        have b2 : Below w1.heap.size w1 (w1.alloc (.cells (cl m q).toArray 80)) := bel_new _ _
        have hk : ∀ k, k < V0.heap.size → W3.heap[k]? = w1.heap[k]? := fun k hk => (hg.block k (by have := b2.size; omega) (fun e => by have := ((unhide how).lt k e.symm).1; omega)).trans (b2.block k (by omega))
        exact ⟨(unhide HX1).but (hk _ (by omega)), there_blk (unhide TX1) (hk _ (by omega)), there_blk (unhide TZ1) (hk _ (by omega)), belN_own ((unhide HB1).trans (b2.mono (unhide HB1).size)) ((unhide OW1).alloc _) hg (by omega) (by have := b2.size; have := (unhide HB1).size; omega), by have := b2.size; have := hg.size; omega⟩)
      clear HA HD HO HJ hb hx tx tz hsz how hsp b1 ho HX1 TX1 TZ1 HB1
      rw [show (cl m q).toArray = #[.int .i64 m.x1, .int .i64 m.x2, .int .i64 m.x3, .int .i64 m.x4, .int .i64 m.x5, .slice q.a1 m.ls.length q.c1, .slice q.a2 m.tw.length q.c2, .slice q.a3 m.se.length q.c3, .slice q.a4 m.du.length q.c4, .slice q.a5 m.ss.length q.c5, .slice q.a6 m.es.length q.c6, .slice q.a7 m.la.length q.c7, .int .i64 m.x6] from rfl]
      go_wp2_with (at_builtin; refine wpList_apNL ((unhide OW1).alloc _) w1.heap.size 0 1 1 [(m, q)] rfl (by omega) (rwN_new w1 m q) (by simp only [List.length_cons, List.length_nil]; have := unhide HXL; omega) (by simp; omega) rfl _ _ rfl rfl rfl ?_; intro v' w' ho hg hl hv; have HO' := hide ho; have HG' := hide (unhide HSH w' hg); have HS' := hide (unhide HSS w' v' hg hl); clear ho hg hl hv)
      go_roundw
      case rel => exact ⟨j + 1, by omega, by go_num, xs ++ [(m, q)], by rw [List.length_append, unhide HXL]; rfl, hide (unhide HFS m q rfl), HO', hide (unhide HG').2.2.2.1, hide (unhide HG').2.2.2.2, hide (unhide HG').1, hide (unhide HG').2.1, hide (unhide HG').2.2.1, HS'⟩
      case measure => simp [intOf]; omega
    · obtain rfl : n = j := by omega
      obtain ⟨V1, hV1⟩ : ∃ V, wr = V := ⟨_, rfl⟩
      have hsw := unhide hsz
      obtain ⟨g, c, ev⟩ := own_form (unhide how) (by omega)
      rw [hxl] at ev
      have how2 := unhide how
      rw [ev, hxl] at how2
      obtain ⟨r1, r2, r3, r4⟩ := rws_own hxl.symm how2
      have RW1 := hide r1
      have HB1 := hb
      have HX1 := hx
      have TX1 := tx
      have TZ1 := tz
      have SP1 := hsp
      rw [ev] at SP1
      have HFS := hfs
      rw [hV1] at HB1 HX1 TX1 TZ1 RW1 SP1 hsw r4 ⊢
      clear hb hx tx tz hsp how how2 hfs hsz r1 r2 hV1 p0 p1 p2 p3
      obtain ⟨V2, hV2⟩ : ∃ V, (V1.setCell ⟨w.heap.size, 0, none⟩ (.slice (some ⟨g, 0, none⟩) n c)) = V := ⟨_, rfl⟩
      have HB2 : Hid (Below w.heap.size w V2) := hide (by rw [← hV2]; exact (unhide HB1).setCell (p := ⟨w.heap.size, 0, none⟩) (Nat.le_refl _) _)
      have HX2 := hide (show NB V2 w.heap.size _ _ _ _ by rw [← hV2]; exact (unhide HX1).set0 (.slice (some ⟨g, 0, none⟩) n c))
      have TX2 : Hid (V2.there w.heap.size 0 4) := hide (by rw [← hV2]; exact there_at (unhide TX1))
      have TZ2 : Hid (V2.there (w.heap.size + 1) 0 4) := hide (by rw [← hV2]; exact there_at (unhide TZ1))
      have hq2 : V2.heap.size = V1.heap.size := by rw [← hV2]; simp [World.setCell]
      have ho2 : ∀ x, x ≠ w.heap.size → V2.heap[x]? = V1.heap[x]? := fun x hx => by rw [← hV2]; exact Below.heap_setCell _ _ _ _ hx
      have RW2 := hide (fun (k : Nat) (hk : k < n) => rng_blk (unhide RW1 k hk) (ho2 g (by omega)))
      have SP2 := hide (Sep.but (L := w.heap.size) (H := w.heap.size + 1) (unhide SP1) (by omega) (fun k hk e => ho2 k (by omega)) (by omega))
      have HV2 := hide hV2
      clear hV2 ho2
      have f0 := free_at (unhide TX1) (k := 0) (by omega)
      obtain ⟨x0, x1, x2, x3⟩ := unhide HX1
      go_upto_region 7 with fail
      rw [ev]
      rw [unhide HV2]
      clear f0 x0 x1 x2 x3 HX1 TX1 TZ1 RW1 SP1 HB1
      replace hq2 : V2.heap.size ≤ V1.heap.size ∧ V1.heap.size ≤ V2.heap.size := by omega
      have OIn := hide (In.own_empty V2 V2.heap.size (Nat.le_refl _))
      have HIn2 := hide (((unhide HI).below (unhide HB2)).below (bel_new V2 (.cells #[] 3)))
      have bE : Below V2.heap.size V2 (V2.alloc (.cells #[] 3)) := bel_new _ _
      obtain ⟨x0, x1, x2, x3⟩ := (unhide HX2).below bE
      go_upto_region 8 with (at_builtin; refine apOI (unhide OIn) b cb cs (unhide HIn2) (by simp only [List.length_nil]; omega) (by simp) rfl _ _ rfl rfl rfl ?_; intro v_ V3 ho hg; have d3 : Below V2.heap.size V2 V3 := In.below_own bE (unhide OIn) hg (Nat.le_refl _) (by simp); obtain ⟨b', cb', rfl, l3⟩ := In.lst_own (zs := cs) rfl ho; have f1 := free_at (there_under (unhide TX2) d3 (unhide HX2).lt) (k := 1) (by omega); obtain ⟨y0, y1, y2, y3⟩ := (unhide HX2).below d3; clear ho hg)
      clear f1 x0 x1 x2 x3 y0 y1 y2 y3 bE
      have HB3 := hide ((unhide HB2).trans (d3.mono (unhide HB2).size))
      have hq3 := d3.size
      have HX3 := hide ((unhide HX2).below d3)
      have TX3 := hide (there_under (unhide TX2) d3 (unhide HX2).lt)
      have TZ3 := hide (there_under (unhide TZ2) d3 (by have := (unhide HX2).lt; omega))
      have RW3 := hide (fun (k : Nat) (hk : k < n) => rng_under (unhide RW2 k hk) d3 (by omega))
      have SP3 := hide ((unhide SP2).below d3)
      have UI3 := hide l3
      clear HX2 TX2 TZ2 RW2 SP2 l3 d3 HB2 HIn2 OIn
      obtain ⟨V4, hV4⟩ : ∃ V, (V3.setCell ⟨w.heap.size, 1, none⟩ (.slice b' cs.length cb')) = V := ⟨_, rfl⟩
      have HB4 : Hid (Below w.heap.size w V4) := hide (by rw [← hV4]; exact (unhide HB3).setCell (p := ⟨w.heap.size, 1, none⟩) (Nat.le_refl _) _)
      have HX4 := hide (show NB V4 w.heap.size _ _ _ _ by rw [← hV4]; exact (unhide HX3).set1 (.slice b' cs.length cb'))
      have TX4 : Hid (V4.there w.heap.size 0 4) := hide (by rw [← hV4]; exact there_at (unhide TX3))
      have TZ4 : Hid (V4.there (w.heap.size + 1) 0 4) := hide (by rw [← hV4]; exact there_at (unhide TZ3))
      have hq4 : V4.heap.size = V3.heap.size := by rw [← hV4]; simp [World.setCell]
      have ho4 : ∀ x, x ≠ w.heap.size → V4.heap[x]? = V3.heap[x]? := fun x hx => by rw [← hV4]; exact Below.heap_setCell _ _ _ _ hx
      have RW4 := hide (fun (k : Nat) (hk : k < n) => rng_blk (unhide RW3 k hk) (ho4 g (by omega)))
      have SP4 := hide (Sep.but (L := w.heap.size) (H := w.heap.size + 1) (unhide SP3) (by omega) (fun k hk e => ho4 k (by omega)) (by omega))
      have UI4 := hide ((unhide UI3).but (p := fun k => k ≠ w.heap.size) (by omega) (fun k hk e => ho4 k e) (fun k h1 h2 => by omega))
      have HV4 := hide hV4
      clear hV4 ho4
      have f1 := free_at (unhide TX3) (k := 1) (by omega)
      obtain ⟨x0, x1, x2, x3⟩ := unhide HX3
      rw [unhide HV4]
      clear f1 x0 x1 x2 x3 HX3 TX3 TZ3 RW3 SP3 UI3 HB3
      replace hq4 : V4.heap.size ≤ V3.heap.size ∧ V3.heap.size ≤ V4.heap.size := by omega
      have OFm := hide (Fm.own_empty V4 V4.heap.size (Nat.le_refl _))
      have HFm4 := hide (((unhide HF).below (unhide HB4)).below (bel_new V4 (.cells #[] 49)))
      have bE : Below V4.heap.size V4 (V4.alloc (.cells #[] 49)) := bel_new _ _
      obtain ⟨x0, x1, x2, x3⟩ := (unhide HX4).below bE
      go_upto_region 9 with (at_builtin; refine apOF (unhide OFm) d cd fs (unhide HFm4) (by simp only [List.length_nil]; omega) (by simp) rfl _ _ rfl rfl rfl ?_; intro v_ V5 ho hg; have d5 : Below V4.heap.size V4 V5 := Fm.below_own bE (unhide OFm) hg (Nat.le_refl _) (by simp); obtain ⟨d', cd', rfl, l5⟩ := Fm.lst_own (ms := fs) rfl ho; have OF5 : Hid (V5.ownsRow V4.heap.size 49 4 (.slice d' fs.length cd') fs.length (Fm.flat fs)) := hide ho; have f2 := free_at (there_under (unhide TX4) d5 (unhide HX4).lt) (k := 2) (by omega); obtain ⟨y0, y1, y2, y3⟩ := (unhide HX4).below d5; clear ho hg)
      clear f2 x0 x1 x2 x3 y0 y1 y2 y3 bE
      have HB5 := hide ((unhide HB4).trans (d5.mono (unhide HB4).size))
      have hq5 := d5.size
      have HX5 := hide ((unhide HX4).below d5)
      have TX5 := hide (there_under (unhide TX4) d5 (unhide HX4).lt)
      have TZ5 := hide (there_under (unhide TZ4) d5 (by have := (unhide HX4).lt; omega))
      have RW5 := hide (fun (k : Nat) (hk : k < n) => rng_under (unhide RW4 k hk) d5 (by omega))
      have SPK := hide (unhide SP4)
      have HK5 := hide d5.block
      have SP5 := hide ((unhide SP4).below d5)
      have UI5 := hide ((unhide UI4).below d5)
      have UF5 := hide l5
      have hof5 := (unhide OF5).lt
      clear HX4 TX4 TZ4 RW4 SP4 UI4 l5 d5 HB4 HFm4 OFm
      obtain ⟨V6, hV6⟩ : ∃ V, (V5.setCell ⟨w.heap.size, 2, none⟩ (.slice d' fs.length cd')) = V := ⟨_, rfl⟩
      have HB6 : Hid (Below w.heap.size w V6) := hide (by rw [← hV6]; exact (unhide HB5).setCell (p := ⟨w.heap.size, 2, none⟩) (Nat.le_refl _) _)
      have HX6 := hide (show NB V6 w.heap.size _ _ _ _ by rw [← hV6]; exact (unhide HX5).set2 (.slice d' fs.length cd'))
      have TX6 : Hid (V6.there w.heap.size 0 4) := hide (by rw [← hV6]; exact there_at (unhide TX5))
      have TZ6 : Hid (V6.there (w.heap.size + 1) 0 4) := hide (by rw [← hV6]; exact there_at (unhide TZ5))
      have hq6 : V6.heap.size = V5.heap.size := by rw [← hV6]; simp [World.setCell]
      have ho6 : ∀ x, x ≠ w.heap.size → V6.heap[x]? = V5.heap[x]? := fun x hx => by rw [← hV6]; exact Below.heap_setCell _ _ _ _ hx
      have RW6 := hide (fun (k : Nat) (hk : k < n) => rng_blk (unhide RW5 k hk) (ho6 g (by omega)))
      have SP6 := hide (Sep.but (L := w.heap.size) (H := w.heap.size + 1) (unhide SP5) (by omega) (fun k hk e => ho6 k (by omega)) (by omega))
      have UI6 := hide ((unhide UI5).but (p := fun k => k ≠ w.heap.size) (by omega) (fun k hk e => ho6 k e) (fun k h1 h2 => by omega))
      have UF6 := hide ((unhide UF5).but (p := fun k => k ≠ w.heap.size) (by omega) (fun k hk e => ho6 k e) (fun k h1 h2 => by omega))
      have OF6 := hide (own_blk (unhide OF5) (fun g e => ho6 g (by have := hof5 g e; omega)))
      have HV6 := hide hV6
      clear hV6 ho6
      have f2 := free_at (unhide TX5) (k := 2) (by omega)
      obtain ⟨x0, x1, x2, x3⟩ := unhide HX5
      rw [unhide HV6]
      clear f2 x0 x1 x2 x3 HX5 TX5 TZ5 RW5 SP5 UI5 UF5 HB5 OF5
      obtain ⟨o0, o1, o2, o3⟩ := unhide HX6
      go_wp2_with (refine storeNB _ _ rfl rfl rfl rfl rfl (unhide TZ6) rfl rfl ?_; intro V9 n9 t9 bb9 s9 k9)
      clear o0 o1 o2 o3 t9
      have hq5 := hq5
      have hkr : ∀ hi, V4.heap.size ≤ hi → RT V9 w.heap.size hi (some ⟨g, 0, none⟩) b' none ms (xs.map (·.2)) cs [] := fun hi hhi => by
        refine ⟨.inr ⟨g, rfl, by omega, by omega, by omega, fun i hi => ?_⟩, ?_, .inl rfl⟩
        · have hin : i < n := by rw [← unhide HN]; exact hi
          have e2 : (xs.map (·.2)).getD i Pl.zero = (xs.getD i zP).2 := by
            rw [List.getD_eq_getElem?_getD, List.getD_eq_getElem?_getD, List.getElem?_map]
            rw [List.getElem?_eq_getElem (by omega)]; rfl
          rw [e2, ← unhide HFS i hin]
          refine ⟨rng_blk (unhide RW6 i hin) (k9 g (by omega)), ?_⟩
          obtain ⟨f, h, e1, e2, e3, e4, e5⟩ := unhide SPK i (by omega)
          exact (e5.but (w' := V9) (Lo := w.heap.size) (Hi := w.heap.size + 2) (by omega) (fun k hk e => (k9 k (by omega)).trans ((by rw [← unhide HV6]; exact Below.heap_setCell _ _ _ _ (by show k ≠ w.heap.size; omega) : V6.heap[k]? = V5.heap[k]?).trans (unhide HK5 k hk))) (by omega)).mono (by omega) (by omega)
        · exact ((unhide UI6).but (p := fun k => k ≠ w.heap.size + 1) (by omega) (fun k hk e => k9 k e) (fun k h1 h2 => by omega)).mono (by omega) (by omega)
      have HKR := hide hkr
      clear hkr
      refine bodyPost_ret (v := .agg #[(.slice (some ⟨g, 0, none⟩) n c), .slice b' cs.length cb', .slice d' fs.length cd', .int .i64 t]) (resultsN rfl _ _ rfl n9) rfl ⟨some ⟨g, 0, none⟩, b', d', c, cb', cd', rfl, bb9 _ _ (unhide HB6) (by omega), xs.map (·.2), ?_, hide ⟨V4.heap.size, by omega, by omega, unhide HKR _ (Nat.le_refl _), own_blk (unhide OF6) (fun g e => k9 g (by have := hof5 g e; omega))⟩⟩
      obtain ⟨r1, r2, _⟩ := unhide HKR V9.heap.size (by omega)
      refine ⟨r1, r2, ?_⟩
      exact ((unhide UF6).but (p := fun k => k ≠ w.heap.size + 1) (by omega) (fun k hk e => k9 k e) (fun k h1 h2 => by omega)).mono (by omega) (by omega)
end Nt
end Go.Proofs.YthfcigfgpimimaaGreat
namespace Go.Proofs.YthfcigfgpimimaaGreat
open Go.ChangeShapes Go.WideShapes Go.ChangeAt Go.RowKit
set_option linter.unusedVariables false
set_option linter.unusedSimpArgs false
set_option maxRecDepth 100000
attribute [local go_sem ↓] Go.wp_at_zero Go.wp_at_succ
namespace Nt
open W1 Rt
set_option maxHeartbeats 8000000 in
theorem markNt (a b d : Option Addr) (ca cb cd : Nat) (t : Int) (K : Int) (lo hi : Nat) (ms : List Rm) (qs : List Pl) (cs : List Int) (fs : List Fm.R) (w : World) (hm : ms.length ≤ 1048576) (hc : cs.length ≤ 1048576) (hf : fs.length ≤ 1048576) (hK : 0 ≤ K) (hK1 : K + totK ms cs fs ≤ 99999990) (hs : ∀ i, i < ms.length → Sm (ms.getD i Rm.zero)) (hlo : lo ≤ w.heap.size) (hhi : hi ≤ w.heap.size) (h : MT w lo hi a b d ms qs cs fs) :
    Calls Tryz.prog 11 #[.agg #[.slice a ms.length ca, .slice b cs.length cb, .slice d fs.length cd, .int .i64 t], .int .i64 K] w fun e w' => e = .returned (.int .i64 (K + totK ms cs fs)) ∧ w.heap.size ≤ w'.heap.size ∧ Below lo w w' ∧ MM w' a b d K ms qs cs fs lo hi ∧ ∀ k, k < w.heap.size → (k < lo ∨ hi ≤ k) → w'.heap[k]? = w.heap[k]? := by
  have b0 := bel_new w (.cells #[.slice a ms.length ca, .slice b cs.length cb, .slice d fs.length cd, .int .i64 t] 32)
  have HX0 := hide (nb_new w (.slice a ms.length ca) (.slice b cs.length cb) (.slice d fs.length cd) t 32)
  have HB0 := hide b0
  obtain ⟨f, p1, q1, p2, q2, p3, q3, e1, e2, e3, e4, e5, e6, h1, h2, h3⟩ := h.below b0
  have HL1 := hide h1
  have HL2 := hide h2
  have HL3 := hide h3
  have hz0 : (w.alloc (.cells #[.slice a ms.length ca, .slice b cs.length cb, .slice d fs.length cd, .int .i64 t] 32)).heap.size = w.heap.size + 1 := by simp
  obtain ⟨r, hr⟩ : ∃ r, K + sumK ms ms.length = r := ⟨_, rfl⟩
  have hsp := sumK_pos ms ms.length
  have hr0 : 0 ≤ r := by omega
  have hr1 : r + cs.length + 4 * fs.length ≤ 99999990 := by unfold totK at hK1; omega
  have HTK : Hid (r + (cs.length : Int) + 4 * (fs.length : Int) = K + totK ms cs fs) := hide (by unfold totK; omega)
  have C1 := hide (fun W h => markNF a ca p1 q1 ms.length f K ms (fun i => qs.getD i Pl.zero) W rfl hm hK (by omega) hs h)
  have C2 := hide (fun W h => In.markF b cb p2 q2 r cs W hr0 (by omega) hc h)
  have C3 := hide (fun W h => Fm.mkFF d cd p3 q3 (r + (cs.length : Int)) fs W (by omega) (by omega) hf h)
  rw [hr] at C1
  have HR := hide hr
  clear h h1 h2 h3 b0 hK1 hs hsp hr
  go_enter Tryz.func11, Tryz.ntmps11
  obtain ⟨x0, x1, x2, x3⟩ := unhide HX0
  go_wp2_with fail
  clear x0 x1 x2 x3
  generalize w.alloc (.cells #[.slice a ms.length ca, .slice b cs.length cb, .slice d fs.length cd, .int .i64 t] 32) = w0 at *
  refine (unhide C1 _ (unhide HL1)).mono ?_
  rintro e w1 ⟨rfl, z1, b1, l1, k1⟩
  have HX1 := hide ((unhide HX0).but (k1 w.heap.size (by omega) (.inr (by omega))))
  have HL1' := hide l1
  have HL2' := hide ((unhide HL2).but (p := fun k => k < p1 ∨ q1 ≤ k) z1 (fun k hk h => k1 k hk h) (fun k h1 h2 => by omega))
  have HL3' := hide ((unhide HL3).but (p := fun k => k < p1 ∨ q1 ≤ k) z1 (fun k hk h => k1 k hk h) (fun k h1 h2 => by omega))
  have HB1 := hide (((unhide HB0).mono hlo).trans (b1.mono (by omega)))
  have HO1 : Hid (∀ k, k < w.heap.size → (k < lo ∨ hi ≤ k) → w1.heap[k]? = w.heap[k]?) := hide (fun k hk h => (k1 k (by omega) (by omega)).trans ((unhide HB0).block k hk))
  clear b1 l1 k1 HL1 HL2 HL3 HX0 HB0 C1
  obtain ⟨x0, x1, x2, x3⟩ := unhide HX1
  go_wp2_with fail
  clear x0 x1 x2 x3
  refine (unhide C2 _ (unhide HL2')).mono ?_
  rintro e w2 ⟨rfl, z2, b2, l2, k2⟩
  have HX2 := hide ((unhide HX1).but (k2 w.heap.size (by omega) (.inr (by omega))))
  have HL1 := hide ((unhide HL1').but z2 k2 (by omega))
  have HL2 := hide l2
  have HL3 := hide ((unhide HL3').but (p := fun k => k < p2 ∨ q2 ≤ k) z2 (fun k hk h => k2 k hk h) (fun k h1 h2 => by omega))
  have HB2 := hide ((unhide HB1).trans (b2.mono (by omega)))
  have HO2 : Hid (∀ k, k < w.heap.size → (k < lo ∨ hi ≤ k) → w2.heap[k]? = w.heap[k]?) := hide (fun k hk h => (k2 k (by omega) (by omega)).trans (unhide HO1 k hk h))
  clear b2 l2 k2 HL1' HL2' HL3' HX1 HB1 HO1 C2
  obtain ⟨x0, x1, x2, x3⟩ := unhide HX2
  go_wp2_with fail
  clear x0 x1 x2 x3
  refine (unhide C3 _ (unhide HL3)).mono ?_
  rintro e w3 ⟨rfl, z3, b3, l3, k3⟩
  have HL1' := hide ((unhide HL1).but z3 k3 (by omega))
  have HL2' := hide ((unhide HL2).but (p := fun k => k < p3 ∨ q3 ≤ k) z3 (fun k hk h => k3 k hk h) (fun k h1 h2 => by omega))
  have HL3' := hide l3
  have HB3 := hide ((unhide HB2).trans (b3.mono (by omega)))
  have HO3 : Hid (∀ k, k < w.heap.size → (k < lo ∨ hi ≤ k) → w3.heap[k]? = w.heap[k]?) := hide (fun k hk h => (k3 k (by omega) (by omega)).trans (unhide HO2 k hk h))
  clear b3 l3 k3 HL1 HL2 HL3 HX2 HB2 HO2 C3
  go_wp2_with fail
  go_ret
  refine ⟨by rw [unhide HTK]; rfl, by omega, unhide HB3, ⟨f, p1, q1, p2, q2, p3, q3, ⟨e1, e2, e3⟩, unhide HL1', by rw [unhide HR]; exact unhide HL2', by rw [unhide HR]; exact unhide HL3'⟩, unhide HO3⟩
end Nt
end Go.Proofs.YthfcigfgpimimaaGreat
namespace Go.Proofs.YthfcigfgpimimaaGreat
open Go.ChangeShapes Go.WideShapes Go.ChangeAt Go.RowKit
set_option linter.unusedVariables false
set_option linter.unusedSimpArgs false
attribute [local go_sem ↓] Go.wp_at_zero Go.wp_at_succ
namespace Ln
open W1 Lk
def okL (m : R) : Bool := inB m.ad 1 8 && (inB m.hd 0 1073741824 && (inB m.sy 0 1073741824 && (inB m.ci 1 256 && (inB m.co 0 16744448 && inB m.wl 0 7))))
abbrev allL (ms : List R) (j : Nat) : Bool := Ri.all R.zero okL R.ad ms j
/-- Whether links are right. -/
def linksB (ms : List R) : Bool := allL ms ms.length
theorem ok_ad {m : R} (h : okL m = true) : 1 ≤ m.ad ∧ m.ad ≤ 8 := by
  unfold okL inB at h; simp at h; exact h.1
theorem ok_sy {m : R} (h : okL m = true) : 0 ≤ m.sy ∧ m.sy ≤ 1073741824 := by
  unfold okL inB at h; simp at h; exact h.2.2.1
theorem ok_co {m : R} (h : okL m = true) : 0 ≤ m.co ∧ m.co ≤ 16744448 := by
  unfold okL inB at h; simp at h; exact h.2.2.2.2.1
theorem links_len {ms : List R} (h : linksB ms = true) : ms.length ≤ 8 := by
  have := Ri.all_long (lo := 1) (hi := 8) (fun m hm => ok_ad hm) h; omega
set_option maxHeartbeats 1000000 in
theorem l06Link (ad hd sy ci co wl : Int) (w : World) :
    Calls Tryz.prog 92 #[.agg #[.int .i64 ad, .int .i64 hd, .int .i64 sy, .int .i64 ci, .int .i64 co, .int .i64 wl]] w fun e w' => e = .returned (.bool (okL ⟨ad, hd, sy, ci, co, wl⟩)) ∧ Below w.heap.size w w' := by
  have E : Hid (okL ⟨ad, hd, sy, ci, co, wl⟩ = (inB ad 1 8 && (inB hd 0 1073741824 && (inB sy 0 1073741824 && (inB ci 1 256 && (inB co 0 16744448 && inB wl 0 7)))))) := hide rfl
  cases h1 : inB ad 1 8
  rotate_left
  cases h2 : inB hd 0 1073741824
  rotate_left
  cases h3 : inB sy 0 1073741824
  rotate_left
  cases h4 : inB ci 1 256
  rotate_left
  cases h5 : inB co 0 16744448
  rotate_left
  cases h6 : inB wl 0 7
  all_goals
    go_enter Tryz.func92, Tryz.ntmps92
    go_wp2_with (first | (go_at_call 36; refine (l01In _ _ _ _).mono ?_; rintro e w' ⟨rfl, rfl⟩) | (go_at_call 64; refine (l01Addr _ _).mono ?_; rintro e w' ⟨rfl, rfl⟩))
    go_ret
    exact ⟨ret_bool (by rw [unhide E]; simp [*]), (Below.refl _ _).alloc (Nat.le_refl _) _⟩
theorem isWill (n : Int) (w : World) : Calls Tryz.prog 102 #[.int .i64 n] w fun e w' => e = .returned (.bool (inB n 0 7)) ∧ w' = w := by
  go_enter Tryz.func102, Tryz.ntmps102
  go_wp2_with (go_at_call 43; refine (within _ _ _ _).mono ?_; rintro e w' ⟨rfl, rfl⟩)
  go_ret
  exact ⟨rfl, rfl⟩
theorem isIn (n : Int) (w : World) : Calls Tryz.prog 137 #[.int .i64 n] w fun e w' => e = .returned (.bool (inB n 1 256)) ∧ w' = w := by
  go_enter Tryz.func137, Tryz.ntmps137
  go_wp2_with (go_at_call 43; refine (within _ _ _ _).mono ?_; rintro e w' ⟨rfl, rfl⟩)
  go_ret
  exact ⟨rfl, rfl⟩
set_option maxHeartbeats 1000000 in
theorem isLink (ad hd sy ci co wl : Int) (w : World) :
    Calls Tryz.prog 130 #[.agg #[.int .i64 ad, .int .i64 hd, .int .i64 sy, .int .i64 ci, .int .i64 co, .int .i64 wl]] w fun e w' => e = .returned (.bool (okL ⟨ad, hd, sy, ci, co, wl⟩)) ∧ Below w.heap.size w w' := by
  have E : Hid (okL ⟨ad, hd, sy, ci, co, wl⟩ = (inB ad 1 8 && (inB hd 0 1073741824 && (inB sy 0 1073741824 && (inB ci 1 256 && (inB co 0 16744448 && inB wl 0 7)))))) := hide rfl
  cases h1 : inB ad 1 8
  rotate_left
  cases h2 : inB hd 0 1073741824
  rotate_left
  cases h3 : inB sy 0 1073741824
  rotate_left
  cases h4 : inB ci 1 256
  rotate_left
  cases h5 : inB co 0 16744448
  rotate_left
  cases h6 : inB wl 0 7
  all_goals
    go_enter Tryz.func130, Tryz.ntmps130
    go_wp2_with (first | (go_at_call 43; refine (within _ _ _ _).mono ?_; rintro e w' ⟨rfl, rfl⟩) | (go_at_call 101; refine (isAddress _ _).mono ?_; rintro e w' ⟨rfl, rfl⟩) | (go_at_call 137; refine (isIn _ _).mono ?_; rintro e w' ⟨rfl, rfl⟩) | (go_at_call 102; refine (isWill _ _).mono ?_; rintro e w' ⟨rfl, rfl⟩))
    go_ret
    exact ⟨ret_bool (by rw [unhide E]; simp [*]), (Below.refl _ _).alloc (Nat.le_refl _) _⟩
end Ln
end Go.Proofs.YthfcigfgpimimaaGreat
namespace Go.Proofs.YthfcigfgpimimaaGreat
set_option linter.unusedVariables false
set_option linter.unusedSimpArgs false
namespace Gr
open W1 Tu St Tw
end Gr
end Go.Proofs.YthfcigfgpimimaaGreat
namespace Go.Proofs.YthfcigfgpimimaaGreat
open Go.ChangeShapes Go.WideShapes Go.ChangeAt Go.RowKit
set_option linter.unusedVariables false
set_option linter.unusedSimpArgs false
attribute [local go_sem ↓] Go.wp_at_zero Go.wp_at_succ
namespace Ln
open W1 Lk
theorem sOne {w : World} {g o : Nat} {ad hd sy ci co wl : Int} (h : At w g o ⟨ad, hd, sy, ci, co, wl⟩) : At w g o ⟨ad, hd, sy, ci, co, wl⟩ ∧ w.cell? ⟨g, o, none⟩ = some (.int .i64 ad) ∧ w.cell? ⟨g, o + 1, none⟩ = some (.int .i64 hd) ∧ w.cell? ⟨g, o + 2, none⟩ = some (.int .i64 sy) ∧ w.cell? ⟨g, o + 3, none⟩ = some (.int .i64 ci) ∧ w.cell? ⟨g, o + 4, none⟩ = some (.int .i64 co) ∧ w.cell? ⟨g, o + 5, none⟩ = some (.int .i64 wl) := ⟨h, h⟩
theorem sTwo {w : World} {g o p : Nat} {m : R} {ad hd sy ci co wl : Int} (h : At w g o ⟨ad, hd, sy, ci, co, wl⟩) (h' : At w g p m) :
    (At w g o ⟨ad, hd, sy, ci, co, wl⟩ ∧ At w g p m) ∧ w.cell? ⟨g, o, none⟩ = some (.int .i64 ad) ∧ w.cell? ⟨g, o + 1, none⟩ = some (.int .i64 hd) ∧ w.cell? ⟨g, o + 2, none⟩ = some (.int .i64 sy) ∧ w.cell? ⟨g, o + 3, none⟩ = some (.int .i64 ci) ∧ w.cell? ⟨g, o + 4, none⟩ = some (.int .i64 co) ∧ w.cell? ⟨g, o + 5, none⟩ = some (.int .i64 wl) ∧ w.cell? ⟨g, p, none⟩ = some (.int .i64 m.ad) := ⟨⟨h, h'⟩, h.1, h.2.1, h.2.2.1, h.2.2.2.1, h.2.2.2.2.1, h.2.2.2.2.2, h'.1⟩
set_option maxRecDepth 100000 in
set_option maxHeartbeats 4000000 in
theorem specOK (a : Option Addr) (ms : List R) (cap : Nat) (w : World) (hm : ms.length ≤ 1048576) (hr : RM w a ms) :
    Calls Tryz.prog 65 #[.slice a ms.length cap] w fun e w' => e = .returned (.bool (linksB ms)) ∧ Below w.heap.size w w' := by
  by_cases hbig : (4096 : Int) < ms.length
  · have hf : Hid (linksB ms = false) := hide (by cases hh : linksB ms; rfl; have := links_len hh; omega)
    go_enter Tryz.func65, Tryz.ntmps65
    go_wp2
    go_ret
    exact ⟨ret_bool (unhide hf).symm, Below.refl _ _⟩
  have HR := hide hr
  clear hr
  generalize hN : ms.length = n at *
  have HN := hide hN
  clear hN
  go_enter Tryz.func65, Tryz.ntmps65
  go_wp2
  go_loopw [3] (fun i wr => ∃ j : Nat, j ≤ n ∧ i = .int .i64 j ∧ Hid (allL ms j = true) ∧ Hid (Below w.heap.size w wr)) (fun i _ => n - (intOf i).toNat)
  case atStart => exact ⟨0, by omega, rfl, hide (Ri.all_zero), hide (Below.refl _ _)⟩
  case round =>
    obtain ⟨j, hj, rfl, hrl, hbl⟩ := hrel
    by_cases hlt : (j : Int) < (n : Int)
    · have k0 : (0 : Int) ≤ (j : Int) := by omega
      have hlen : j < ms.length := by rw [unhide HN]; omega
      rcases (unhide HR).below (by exact (unhide hbl)) with e0 | ⟨g, off, rfl, hc⟩
      · exfalso; rw [e0] at hlen; simp at hlen
      have HL := hide hlen
      have hA := hc j hlen
      cases hk : okL (ms.getD j R.zero)
      · clear hc
        have HST := hide (Ri.all_no hlen (Ri.step_bad (key := R.ad) hk))
        have HK := hide hk
        clear hk
        generalize ms.getD j R.zero = m at *
        obtain ⟨ad, hd, sy, ci, co, wl⟩ := m
        go_wp2_with fail
        refine wp_region_noPanic ?_
        refine wp_region_held_drew (S := fun w' => At w' g (off + j * 6) ⟨ad, hd, sy, ci, co, wl⟩ ∧ w'.cell? ⟨g, off + j * 6, none⟩ = some (.int .i64 ad) ∧ w'.cell? ⟨g, off + j * 6 + 1, none⟩ = some (.int .i64 hd) ∧ w'.cell? ⟨g, off + j * 6 + 2, none⟩ = some (.int .i64 sy) ∧ w'.cell? ⟨g, off + j * 6 + 3, none⟩ = some (.int .i64 ci) ∧ w'.cell? ⟨g, off + j * 6 + 4, none⟩ = some (.int .i64 co) ∧ w'.cell? ⟨g, off + j * 6 + 5, none⟩ = some (.int .i64 wl)) (by kernel_rfl) (sOne hA.drew) (fun hHeld => ?_)
        refine Rg.t 0 13 ?_
        refine Rg.t 1 14 ?_
        refine Rg.t 2 15 ?_
        refine Rg.t 3 16 ?_
        (refine Rg.o 4 (fun K hK => ?_); go_simp)
        refine (l06Link ad hd sy ci co wl _).mono ?_
        rintro e w1 ⟨rfl, b1⟩
        rw [unhide HK]
        refine hK.out _ _ (sOne (hA.drew.below b1)) (fun hHeld => ?_)
        clear hK K
        (try simp only [Act.put, List.setIfInBounds_toArray, List.set_cons_zero, List.set_cons_succ])
        refine Rg.t 5 18 ?_
        refine Rg.t 6 19 ?_
        refine Rg.s 7 20 ?_
        refine Rg.s 8 21 ?_
        refine Rg.s 9 22 ?_
        refine Rg.s 10 23 ?_
        refine Rg.s 11 24 ?_
        refine Rg.s 12 25 ?_
        refine Rg.s 13 26 ?_
        refine Rg.s 14 27 ?_
        refine Rg.s 15 28 ?_
        refine Rg.s 16 29 ?_
        refine Rg.s 17 30 ?_
        refine Rg.s 18 31 ?_
        refine Rg.s 19 32 ?_
        refine Rg.s 20 33 ?_
        refine Rg.s 21 34 ?_
        refine Rg.s 22 35 ?_
        refine Rg.t 23 36 ?_
        refine wpAnyH_done (by kernel_rfl) (NoPanic.normal ?_) _
        have hb1 := hide ((unhide hbl).drew.trans (b1.mono (by show w.heap.size ≤ wr.heap.size; exact (unhide hbl).size)))
        go_wp2_with fail
        go_ret
        exact ⟨ret_bool (unhide HST).symm, unhide hb1⟩
      have HK := hide hk
      clear hk
      by_cases hj0 : j = 0
      · subst hj0
        clear hc
        rw [Nat.zero_mul, Nat.add_zero] at hA
        have HST := hide (Ri.all_succ (unhide hrl) (Ri.step_zero (key := R.ad) (unhide HK)))
        generalize ms.getD 0 R.zero = m at *
        obtain ⟨ad, hd, sy, ci, co, wl⟩ := m
        go_wp2_with fail
        refine wp_region_noPanic ?_
        refine wp_region_held_drew (S := fun w' => At w' g off ⟨ad, hd, sy, ci, co, wl⟩ ∧ w'.cell? ⟨g, off, none⟩ = some (.int .i64 ad) ∧ w'.cell? ⟨g, off + 1, none⟩ = some (.int .i64 hd) ∧ w'.cell? ⟨g, off + 2, none⟩ = some (.int .i64 sy) ∧ w'.cell? ⟨g, off + 3, none⟩ = some (.int .i64 ci) ∧ w'.cell? ⟨g, off + 4, none⟩ = some (.int .i64 co) ∧ w'.cell? ⟨g, off + 5, none⟩ = some (.int .i64 wl)) (by kernel_rfl) (sOne hA.drew) (fun hHeld => ?_)
        refine Rg.t 0 13 ?_
        refine Rg.t 1 14 ?_
        refine Rg.t 2 15 ?_
        refine Rg.t 3 16 ?_
        (refine Rg.o 4 (fun K hK => ?_); go_simp)
        refine (l06Link ad hd sy ci co wl _).mono ?_
        rintro e w1 ⟨rfl, b1⟩
        rw [unhide HK]
        refine hK.out _ _ (sOne (hA.drew.below b1)) (fun hHeld => ?_)
        clear hK K
        (try simp only [Act.put, List.setIfInBounds_toArray, List.set_cons_zero, List.set_cons_succ])
        refine Rg.t 5 18 ?_
        refine Rg.t 6 19 ?_
        refine Rg.t 7 20 ?_
        refine Rg.t 8 21 ?_
        refine Rg.t 9 22 ?_
        refine Rg.s 10 23 ?_
        refine Rg.s 11 24 ?_
        refine Rg.s 12 25 ?_
        refine Rg.s 13 26 ?_
        refine Rg.s 14 27 ?_
        refine Rg.s 15 28 ?_
        refine Rg.s 16 29 ?_
        refine Rg.s 17 30 ?_
        refine Rg.s 18 31 ?_
        refine Rg.s 19 32 ?_
        refine Rg.s 20 33 ?_
        refine Rg.s 21 34 ?_
        refine Rg.t 22 35 ?_
        refine Rg.t 23 36 ?_
        refine wpAnyH_done (by kernel_rfl) (NoPanic.normal ?_) _
        have hb1 := hide ((unhide hbl).drew.trans (b1.mono (by show w.heap.size ≤ wr.heap.size; exact (unhide hbl).size)))
        go_wp2_with fail
        go_roundw
        case rel => exact ⟨0 + 1, by omega, by go_num, HST, hb1⟩
        case measure => simp [intOf]; omega
      · obtain ⟨i, hji⟩ : ∃ i, j = i + 1 := ⟨j - 1, by omega⟩
        have HJ := hide hji
        have e1 : (j : Int) - 1 = (i : Int) := by omega
        have i0 : (0 : Int) ≤ (i : Int) := by omega
        have wi : IntKind.i64.wrap (i : Int) = (i : Int) := by rw [IntKind.wrap_i64]; omega
        have i1 : (i : Int) < (n : Int) := by omega
        have j1 : (0 : Int) < (j : Int) := by omega
        have j2 : 0 < j := by omega
        have hP := hc i (by omega)
        have EJ : ms.getD j R.zero = ms.getD (i + 1) R.zero := by rw [hji]
        clear hc hji
        by_cases hk : (ms.getD i R.zero).ad < (ms.getD j R.zero).ad
        · have HST : Hid (allL ms (j + 1) = true) := hide (Ri.all_succ (unhide hrl) (by rw [unhide HJ]; exact Ri.step_lt (by rw [← EJ]; exact unhide HK) (by rw [← EJ]; exact hk)))
          clear EJ
          generalize ms.getD j R.zero = m at *
          generalize ms.getD i R.zero = m0 at *
          obtain ⟨ad, hd, sy, ci, co, wl⟩ := m
          obtain ⟨ad0, hd0, sy0, ci0, co0, wl0⟩ := m0
          dsimp only at hk
          go_wp2_with fail
          refine wp_region_noPanic ?_
          refine wp_region_held_drew (S := fun w' => (At w' g (off + j * 6) ⟨ad, hd, sy, ci, co, wl⟩ ∧ At w' g (off + i * 6) ⟨ad0, hd0, sy0, ci0, co0, wl0⟩) ∧ w'.cell? ⟨g, off + j * 6, none⟩ = some (.int .i64 ad) ∧ w'.cell? ⟨g, off + j * 6 + 1, none⟩ = some (.int .i64 hd) ∧ w'.cell? ⟨g, off + j * 6 + 2, none⟩ = some (.int .i64 sy) ∧ w'.cell? ⟨g, off + j * 6 + 3, none⟩ = some (.int .i64 ci) ∧ w'.cell? ⟨g, off + j * 6 + 4, none⟩ = some (.int .i64 co) ∧ w'.cell? ⟨g, off + j * 6 + 5, none⟩ = some (.int .i64 wl) ∧ w'.cell? ⟨g, off + i * 6, none⟩ = some (.int .i64 ad0)) (by kernel_rfl) (sTwo hA.drew hP.drew) (fun hHeld => ?_)
          refine Rg.t 0 13 ?_
          refine Rg.t 1 14 ?_
          refine Rg.t 2 15 ?_
          refine Rg.t 3 16 ?_
          (refine Rg.o 4 (fun K hK => ?_); go_simp)
          refine (l06Link ad hd sy ci co wl _).mono ?_
          rintro e w1 ⟨rfl, b1⟩
          rw [unhide HK]
          refine hK.out _ _ (sTwo (hA.drew.below b1) (hP.drew.below b1)) (fun hHeld => ?_)
          clear hK K
          (try simp only [Act.put, List.setIfInBounds_toArray, List.set_cons_zero, List.set_cons_succ])
          refine Rg.t 5 18 ?_
          refine Rg.t 6 19 ?_
          refine Rg.t 7 20 ?_
          refine Rg.t 8 21 ?_
          refine Rg.t 9 22 ?_
          refine Rg.t 10 23 ?_
          refine Rg.t 11 24 ?_
          refine Rg.t 12 25 ?_
          refine Rg.t 13 26 ?_
          refine Rg.t 14 27 ?_
          refine Rg.t 15 28 ?_
          refine Rg.t 16 29 ?_
          refine Rg.t 17 30 ?_
          refine Rg.t 18 31 ?_
          refine Rg.t 19 32 ?_
          refine Rg.t 20 33 ?_
          refine Rg.t 21 34 ?_
          refine Rg.t 22 35 ?_
          refine Rg.t 23 36 ?_
          refine wpAnyH_done (by kernel_rfl) (NoPanic.normal ?_) _
          have hb1 := hide ((unhide hbl).drew.trans (b1.mono (by show w.heap.size ≤ wr.heap.size; exact (unhide hbl).size)))
          go_wp2_with fail
          go_roundw
          case rel => exact ⟨j + 1, by omega, by go_num, HST, hb1⟩
          case measure => simp [intOf]; omega
        · have HST : Hid (linksB ms = false) := hide (Ri.all_no (unhide HL) (show Ri.step R.zero okL R.ad ms j = false by rw [unhide HJ]; exact Ri.step_ge (by rw [← EJ]; omega)))
          clear EJ
          generalize ms.getD j R.zero = m at *
          generalize ms.getD i R.zero = m0 at *
          obtain ⟨ad, hd, sy, ci, co, wl⟩ := m
          obtain ⟨ad0, hd0, sy0, ci0, co0, wl0⟩ := m0
          dsimp only at hk
          go_wp2_with fail
          refine wp_region_noPanic ?_
          refine wp_region_held_drew (S := fun w' => (At w' g (off + j * 6) ⟨ad, hd, sy, ci, co, wl⟩ ∧ At w' g (off + i * 6) ⟨ad0, hd0, sy0, ci0, co0, wl0⟩) ∧ w'.cell? ⟨g, off + j * 6, none⟩ = some (.int .i64 ad) ∧ w'.cell? ⟨g, off + j * 6 + 1, none⟩ = some (.int .i64 hd) ∧ w'.cell? ⟨g, off + j * 6 + 2, none⟩ = some (.int .i64 sy) ∧ w'.cell? ⟨g, off + j * 6 + 3, none⟩ = some (.int .i64 ci) ∧ w'.cell? ⟨g, off + j * 6 + 4, none⟩ = some (.int .i64 co) ∧ w'.cell? ⟨g, off + j * 6 + 5, none⟩ = some (.int .i64 wl) ∧ w'.cell? ⟨g, off + i * 6, none⟩ = some (.int .i64 ad0)) (by kernel_rfl) (sTwo hA.drew hP.drew) (fun hHeld => ?_)
          refine Rg.t 0 13 ?_
          refine Rg.t 1 14 ?_
          refine Rg.t 2 15 ?_
          refine Rg.t 3 16 ?_
          (refine Rg.o 4 (fun K hK => ?_); go_simp)
          refine (l06Link ad hd sy ci co wl _).mono ?_
          rintro e w1 ⟨rfl, b1⟩
          rw [unhide HK]
          refine hK.out _ _ (sTwo (hA.drew.below b1) (hP.drew.below b1)) (fun hHeld => ?_)
          clear hK K
          (try simp only [Act.put, List.setIfInBounds_toArray, List.set_cons_zero, List.set_cons_succ])
          refine Rg.t 5 18 ?_
          refine Rg.t 6 19 ?_
          refine Rg.t 7 20 ?_
          refine Rg.t 8 21 ?_
          refine Rg.t 9 22 ?_
          refine Rg.t 10 23 ?_
          refine Rg.t 11 24 ?_
          refine Rg.t 12 25 ?_
          refine Rg.t 13 26 ?_
          refine Rg.t 14 27 ?_
          refine Rg.t 15 28 ?_
          refine Rg.t 16 29 ?_
          refine Rg.t 17 30 ?_
          refine Rg.t 18 31 ?_
          refine Rg.t 19 32 ?_
          refine Rg.t 20 33 ?_
          refine Rg.t 21 34 ?_
          refine Rg.t 22 35 ?_
          refine Rg.t 23 36 ?_
          refine wpAnyH_done (by kernel_rfl) (NoPanic.normal ?_) _
          have hb1 := hide ((unhide hbl).drew.trans (b1.mono (by show w.heap.size ≤ wr.heap.size; exact (unhide hbl).size)))
          go_wp2_with fail
          go_ret
          exact ⟨ret_bool (unhide HST).symm, unhide hb1⟩
    · obtain rfl : j = n := by omega
      have hok : linksB ms = true := by unfold linksB; rw [unhide HN]; exact unhide hrl
      have h8 := links_len hok
      have h8' : (j : Int) ≤ 8 := by have := unhide HN; omega
      have HO := hide hok
      clear hok h8
      go_wp2
      go_ret
      exact ⟨ret_bool (unhide HO).symm, unhide hbl⟩
end Ln
end Go.Proofs.YthfcigfgpimimaaGreat
namespace Go.Proofs.YthfcigfgpimimaaGreat
open Go.ChangeShapes Go.WideShapes Go.ChangeAt Go.RowKit
set_option linter.unusedVariables false
set_option linter.unusedSimpArgs false
attribute [local go_sem ↓] Go.wp_at_zero Go.wp_at_succ
namespace St
open W1 Tu
theorem up_at {ms : List R} (h : setB ms = true) (k : Int) : ∀ i j, i < j → j < ms.length → atKey k (ms.getD i R.zero) = true → atKey k (ms.getD j R.zero) = true := by
  intro i j hij hj hi
  have := rises h j i hij hj
  unfold atKey at *
  exact decide_eq_true (by have := of_decide_eq_true hi; omega)
end St
end Go.Proofs.YthfcigfgpimimaaGreat
namespace Go.Proofs.YthfcigfgpimimaaGreat
open Go.ChangeShapes Go.WideShapes Go.ChangeAt Go.RowKit
set_option linter.unusedVariables false
set_option linter.unusedSimpArgs false
attribute [local go_sem ↓] Go.wp_at_zero Go.wp_at_succ
namespace St
open W1 Tu
theorem there_no {ms : List R} {k : Int} {p : Nat} (e : place ms k = p) (h : ms.length ≤ p) : thereB ms k = false := by unfold thereB; rw [e, decide_eq_false (by omega)]; rfl
theorem there_ne {ms : List R} {k : Int} {p : Nat} (e : place ms k = p) (h : ¬ (ms.getD p R.zero).key = k) : thereB ms k = false := by unfold thereB; rw [e, decide_eq_false h, Bool.and_false]
theorem there_yes {ms : List R} {k : Int} {p : Nat} (e : place ms k = p) (hl : p < ms.length) (h : (ms.getD p R.zero).key = k) : thereB ms k = true := by unfold thereB; rw [e, decide_eq_true hl, decide_eq_true h]; rfl
end St
end Go.Proofs.YthfcigfgpimimaaGreat
namespace Go.Proofs.YthfcigfgpimimaaGreat
open Go.ChangeShapes Go.WideShapes Go.ChangeAt Go.RowKit
set_option linter.unusedVariables false
set_option linter.unusedSimpArgs false
attribute [local go_sem ↓] Go.wp_at_zero Go.wp_at_succ
namespace St
open W1 Tu
end St
end Go.Proofs.YthfcigfgpimimaaGreat
namespace Go.Proofs.YthfcigfgpimimaaGreat
open Go.ChangeShapes Go.WideShapes Go.ChangeAt Go.RowKit
set_option linter.unusedVariables false
set_option linter.unusedSimpArgs false
attribute [local go_sem ↓] Go.wp_at_zero Go.wp_at_succ
namespace St
open W1 Tu
theorem Upto.set {w : World} {g n p : Nat} {ms : List R} (x : R) (h : Upto w g n n ms) (hn : n = ms.length) (hp : p < n) : Upto (put w g (p * 3) x) g n n (ms.set p x) := by
  refine ⟨fun i hi => ?_, fun i hi => ⟨put_some _ _ _ _ _ _ (h.2 i hi).1, by rw [put_frozen]; exact (h.2 i hi).2⟩⟩
  by_cases e : i = p
  · subst e
    have : (ms.set i x).getD i R.zero = x := by rw [List.getD_eq_getElem?_getD, List.getElem?_set_self (by omega)]; rfl
    rw [this]
    exact put_at _ _ _ _ (fun k hk => (h.2 _ (by omega)).1)
  · have : (ms.set p x).getD i R.zero = ms.getD i R.zero := by rw [List.getD_eq_getElem?_getD, List.getD_eq_getElem?_getD, List.getElem?_set_ne (by omega)]
    rw [this]
    obtain ⟨h0, h1, h2⟩ := h.1 i (by omega)
    exact ⟨(put_far _ _ _ _ (by omega)).trans h0, (put_far _ _ _ _ (by omega)).trans h1, (put_far _ _ _ _ (by omega)).trans h2⟩
end St
end Go.Proofs.YthfcigfgpimimaaGreat
namespace Go.Proofs.YthfcigfgpimimaaGreat
open Go.ChangeShapes Go.WideShapes Go.ChangeAt Go.RowKit
set_option linter.unusedVariables false
set_option linter.unusedSimpArgs false
attribute [local go_sem ↓] Go.wp_at_zero Go.wp_at_succ
namespace St
open W1 Tu
end St
end Go.Proofs.YthfcigfgpimimaaGreat
namespace Go.Proofs.YthfcigfgpimimaaGreat
open Go.ChangeShapes Go.WideShapes Go.ChangeAt Go.RowKit
set_option linter.unusedVariables false
set_option linter.unusedSimpArgs false
set_option maxRecDepth 100000
attribute [local go_sem ↓] Go.wp_at_zero Go.wp_at_succ
namespace Gr
open W1 Tu St Tw
/-- A slice that lies somewhere. -/
def Fm (v : Value) (n : Nat) : Prop := ∃ g c, v = .slice (some ⟨g, 0, none⟩) n c
theorem lstV_nil (W : World) (a : Option Addr) (c lo hi : Nat) : LstV W (.slice a 0 c) [] lo hi := ⟨a, c, rfl, .inl rfl⟩
end Gr
end Go.Proofs.YthfcigfgpimimaaGreat
