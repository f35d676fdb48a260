/-
  Of the texts TopB, TwoC, TopV, StrTop, RecLink, RecEdge, RtrS, RtrM: what this claim needs of them. (put together by mkprune.py)
-/
import Derived.Test.YtffclijcfngeeaaGreatQe1
import Derived.Deep.QuietTactic
import Derived.BigQuiet
import Derived.OneCell
import Derived.Deep.RegionHeld3
import Derived.Deep.DrawnRows
import Derived.Deep.Slices
import Derived.Laws.AppendOwn
namespace Go.Proofs.YtffclijcfngeeaaGreat
open Go.ChangeShapes Go.WideShapes Go.ChangeAt Go.RowKit
set_option linter.unusedVariables false
set_option linter.unusedSimpArgs false
set_option maxRecDepth 100000
attribute [local go_sem ↓] Go.wp_at_zero Go.wp_at_succ
namespace Tp
open W1 Tu St Tw
/-- A box of two values. -/
def Bx2 (w : World) (b : Nat) (x y : Value) : Prop := w.cell? ⟨b, 0, none⟩ = some x ∧ w.cell? ⟨b, 1, none⟩ = some y
theorem Bx2.lt {w : World} {b : Nat} {x y : Value} (h : Bx2 w b x y) : b < w.heap.size := World.block_lt_of_cell? _ _ h.1
theorem Bx2.below {w w' : World} {b : Nat} {x y : Value} (h : Bx2 w b x y) (hb : Below w.heap.size w w') : Bx2 w' b x y := ⟨(hb.cell (p := ⟨b, 0, none⟩) h.lt).trans h.1, (hb.cell (p := ⟨b, 1, none⟩) h.lt).trans h.2⟩
theorem Bx2.drew {w : World} {b : Nat} {x y : Value} (h : Bx2 w b x y) : Bx2 w.drew b x y := h
theorem Bx2.but {w w' : World} {b : Nat} {x y : Value} (h : Bx2 w b x y) (hb : w'.heap[b]? = w.heap[b]?) : Bx2 w' b x y := ⟨(World.cell?_of_block (a := ⟨b, 0, none⟩) hb).trans h.1, (World.cell?_of_block (a := ⟨b, 1, none⟩) hb).trans h.2⟩
theorem bx2_new (w : World) (x y : Value) (t : Nat) : Bx2 (w.alloc (.cells #[x, y] t)) w.heap.size x y := by
  constructor <;> simp [World.cell?_alloc_new]
theorem sTB {w : World} {b B : Nat} {key til val : Int} {x y : Value} (h : St.Bx w b ⟨key, til, val⟩) (hB : Bx2 w B x y) : (St.Bx w b ⟨key, til, val⟩ ∧ Bx2 w B x y) ∧ w.cell? ⟨b, 0, none⟩ = some (.int .i64 key) ∧ w.cell? ⟨b, 2, none⟩ = some (.int .i64 val) ∧ w.cell? ⟨B, 0, none⟩ = some x := ⟨⟨h, hB⟩, h.1, h.2.2, hB.1⟩
set_option maxHeartbeats 4000000 in
theorem implOK (a : Option Addr) (ss : List So.R) (ca : Nat) (b : Option Addr) (es : List R) (cb : Nat) (w : World) (hm : ss.length ≤ 1048576) (hl : es.length ≤ 1048576) (hr : So.RM w a ss) (hr' : RM w b es) :
    Calls Tryz.prog 117 #[.agg #[.slice a ss.length ca, .slice b es.length cb]] w fun e w' => e = .returned (.bool (topB ss es)) ∧ Below w.heap.size w w' := by
  have HA : Hid (Below w.heap.size w (w.alloc (.cells #[.slice a ss.length ca, .slice b es.length cb] 35))) := hide ((Below.refl _ _).alloc (Nat.le_refl _) _)
  have HX : Hid (Bx2 (w.alloc (.cells #[.slice a ss.length ca, .slice b es.length cb] 35)) w.heap.size (.slice a ss.length ca) (.slice b es.length cb)) := hide (bx2_new w _ _ _)
  have HR := hide (hr.below (unhide HA))
  have HE := hide (hr'.below (unhide HA))
  clear hr hr'
  cases hs : srcB ss
  · rw [top_nosrc hs]
    have HS := hide hs
    clear hs
    go_enter Tryz.func117, Tryz.ntmps117
    go_wp2_with fail
    refine (areSources _ ss ca _ hm (unhide HR)).mono ?_
    rintro e w1 ⟨rfl, b1⟩
    rw [unhide HS]
    have HB1 := hide ((unhide HA).trans (b1.mono (unhide HA).size))
    clear b1
    go_wp2_with fail
    go_ret
    exact ⟨rfl, unhide HB1⟩
  have HS := hide hs
  have h8 := src_len hs
  have HU := hide (up_src hs)
  clear hs
  cases ht : twoB es
  · rw [top_notwo ht]
    have HT := hide ht
    clear ht
    go_enter Tryz.func117, Tryz.ntmps117
    go_wp2_with fail
    refine (areSources _ ss ca _ hm (unhide HR)).mono ?_
    rintro e w1 ⟨rfl, b1⟩
    rw [unhide HS]
    have HB1 := hide ((unhide HA).trans (b1.mono (unhide HA).size))
    have HE1 := hide ((unhide HE).below b1)
    obtain ⟨z0, z1⟩ := (unhide HX).below b1
    clear b1
    go_wp2_with fail
    refine (Tw.areHops _ es cb _ hl (unhide HE1)).mono ?_
    rintro e w2 ⟨rfl, b2⟩
    rw [unhide HT]
    have HB2 := hide ((unhide HB1).trans (b2.mono (unhide HB1).size))
    clear b2
    go_wp2_with fail
    go_ret
    exact ⟨rfl, unhide HB2⟩
  have HT := hide ht
  clear ht
  obtain ⟨A, hA⟩ : ∃ A, topB ss es = A := ⟨_, rfl⟩
  have HTA := hide hA
  rw [hA]
  clear hA
  obtain ⟨n, hN⟩ : ∃ n, es.length = n := ⟨_, rfl⟩
  have HN := hide hN
  obtain ⟨k, hK⟩ : ∃ k, ss.length = k := ⟨_, rfl⟩
  have HK := hide hK
  rw [hN, hK] at HA HX HR HE ⊢
  rw [hN] at hl
  rw [hK] at hm h8
  clear hN hK
  go_enter Tryz.func117, Tryz.ntmps117
  go_wp2_with fail
  rw [← unhide HK]
  refine (areSources _ ss ca _ (by rw [unhide HK]; exact hm) (by have := unhide HR; rw [← unhide HK] at this; exact this)).mono ?_
  rintro e w1 ⟨rfl, b1⟩
  rw [unhide HS]
  rw [unhide HK] at b1
  have HB1 := hide ((unhide HA).trans (b1.mono (unhide HA).size))
  have HE1 := hide ((unhide HE).below b1)
  have HR1 := hide ((unhide HR).below b1)
  have HX1 := hide ((unhide HX).below b1)
  obtain ⟨z0, z1⟩ := unhide HX1
  clear b1
  go_wp2_with fail
  rw [← unhide HN]
  refine (Tw.areHops _ es cb _ (by rw [unhide HN]; exact hl) (unhide HE1)).mono ?_
  rintro e w2 ⟨rfl, b2⟩
  rw [unhide HT]
  clear z0 z1
  have HB2 := hide ((unhide HB1).trans (b2.mono (unhide HB1).size))
  have HE2 := hide ((unhide HE1).below b2)
  have HR2 := hide ((unhide HR1).below b2)
  have HX2 := hide ((unhide HX1).below b2)
  obtain ⟨z0, z1⟩ := unhide HX2
  clear b2 HE HR HX HE1 HR1 HX1 HB1 HA
  go_wp2_with fail
  clear z0 z1
  go_loopw [18] (fun i wr => ∃ j : Nat, j ≤ n ∧ i = .int .i64 j ∧ Hid (edgB ss es j = true) ∧ Hid (Below w2.heap.size w2 wr)) (fun i _ => n - (intOf i).toNat)
  case atStart => exact ⟨0, by omega, rfl, hide (edg_zero ss es), hide (Below.refl _ _)⟩
  case round =>
    obtain ⟨j, hj, rfl, hed, hbl⟩ := hrel
    have HBW := hide ((unhide HB2).trans ((unhide hbl).mono (unhide HB2).size))
    by_cases hlt : (j : Int) < (n : Int)
    · have k0 : (0 : Int) ≤ (j : Int) := by omega
      have hlen : j < es.length := by rw [unhide HN]; omega
      obtain ⟨g, off, rfl⟩ := (unhide HE2).form (by omega)
      have hA := ((unhide HE2).below (unhide hbl)).at hlen
      have hbd := ok_bounds (setB_ok (two_set (unhide HT)) hlen)
      have HY : Hid (okE ss (es.getD j R.zero) = true → edgB ss es (j + 1) = true) := hide (fun h => edg_succ hlen (unhide hed) h)
      have HZ : Hid (okE ss (es.getD j R.zero) = false → A = false) := hide (fun h => by rw [← unhide HTA]; exact edg_no hlen h)
      have HO : Hid (okE ss (es.getD j R.zero) = (decide (1 ≤ (es.getD j R.zero).val) && hasS ss ((es.getD j R.zero).key.tdiv 100))) := hide rfl
      generalize es.getD j R.zero = m at *
      obtain ⟨key, til, val⟩ := m
      obtain ⟨c0, c1, c2⟩ := hA
      dsimp only at c0 c1 c2 hbd HO
      have HBX : Hid (St.Bx (wr.alloc (.cells #[.int .i64 key, .int .i64 til, .int .i64 val] 148)) wr.heap.size ⟨key, til, val⟩) := hide (Tw.bx_new wr ⟨key, til, val⟩ _)
      have hbs := (unhide HBW).size
      have HBA := hide ((unhide HBW).alloc hbs (.cells #[.int .i64 key, .int .i64 til, .int .i64 val] 148))
      have HBN := hide ((unhide hbl).alloc (unhide hbl).size (.cells #[.int .i64 key, .int .i64 til, .int .i64 val] 148))
      have HX3 := hide ((unhide HX2).below (unhide HBN))
      have HR3 := hide ((unhide HR2).below (unhide HBN))
      by_cases hv1 : val < 1
      · have HF := hide (unhide HZ (by rw [unhide HO, decide_eq_false (by omega)]; rfl))
        go_wp2_with fail
        generalize hW : wr.alloc (.cells #[.int .i64 key, .int .i64 til, .int .i64 val] 148) = W0 at *
        clear hW c0 c1 c2
        refine wp_region_noPanic ?_
        refine wp_region_held_drew (S := fun w' => (St.Bx w' wr.heap.size ⟨key, til, val⟩ ∧ Bx2 w' w.heap.size (.slice a k ca) (.slice (some ⟨g, off, none⟩) n cb)) ∧ w'.cell? ⟨wr.heap.size, 0, none⟩ = some (.int .i64 key) ∧ w'.cell? ⟨wr.heap.size, 2, none⟩ = some (.int .i64 val) ∧ w'.cell? ⟨w.heap.size, 0, none⟩ = some (.slice a k ca)) (by kernel_rfl) (sTB (unhide HBX).drew (unhide HX3).drew) (fun hHeld => ?_)
        refine Rg.t 0 22 ?_
        refine Rg.t 1 23 ?_
        refine Rg.t 2 24 ?_
        refine Rg.t 3 25 ?_
        refine Rg.s 4 26 ?_
        refine Rg.s 5 27 ?_
        refine Rg.s 6 28 ?_
        refine Rg.s 7 29 ?_
        refine Rg.s 8 30 ?_
        refine Rg.s 9 31 ?_
        refine Rg.s 10 32 ?_
        refine Rg.s 11 33 ?_
        refine Rg.t 12 34 ?_
        refine wpAnyH_done (by kernel_rfl) (NoPanic.normal ?_) _
        clear hHeld
        go_wp2_with fail
        go_ret
        exact ⟨ret_bool (unhide HF).symm, (unhide HBA).drew⟩
      · obtain ⟨v, hv'⟩ : ∃ v, key.tdiv 100 = v := ⟨_, rfl⟩
        obtain ⟨u, hu'⟩ : ∃ u, key.tmod 100 = u := ⟨_, rfl⟩
        have HV := hide hv'
        have HU' := hide hu'
        rw [hv'] at HO
        clear hv' hu'
        obtain ⟨o, ho⟩ : ∃ o, hasS ss v = o := ⟨_, rfl⟩
        have HH := hide ho
        have HO2 : Hid (okE ss ⟨key, til, val⟩ = o) := hide (by rw [unhide HO, decide_eq_true (by omega), ho]; rfl)
        clear ho HO
        have hix : ∀ W : World, (Instr.index 231 (.agg #[.int .i64 v, .int .i64 u]) (.int .i64 0)).run Tryz.prog W = .ok (.int .i64 v) W := fun _ => by kernel_rfl
        go_wp2_with fail
        generalize hW : wr.alloc (.cells #[.int .i64 key, .int .i64 til, .int .i64 val] 148) = W0 at *
        clear hW c0 c1 c2
        refine wp_region_noPanic ?_
        refine wp_region_held_drew (S := fun w' => (St.Bx w' wr.heap.size ⟨key, til, val⟩ ∧ Bx2 w' w.heap.size (.slice a k ca) (.slice (some ⟨g, off, none⟩) n cb)) ∧ w'.cell? ⟨wr.heap.size, 0, none⟩ = some (.int .i64 key) ∧ w'.cell? ⟨wr.heap.size, 2, none⟩ = some (.int .i64 val) ∧ w'.cell? ⟨w.heap.size, 0, none⟩ = some (.slice a k ca)) (by kernel_rfl) (sTB (unhide HBX).drew (unhide HX3).drew) (fun hHeld => ?_)
        refine Rg.t 0 22 ?_
        refine Rg.t 1 23 ?_
        refine Rg.t (v := .bool false) 2 24 ?_
        refine Rg.t 3 25 ?_
        refine Rg.t 4 26 ?_
        refine Rg.t 5 27 ?_
        refine Rg.t 6 28 ?_
        refine Rg.t 7 29 ?_
        (refine Rg.o 8 (fun K hK => ?_); go_simp)
        refine (endsOfKey key _ (by omega) (by omega)).mono ?_
        rintro e w4 ⟨rfl, b4_⟩
        rw [unhide HV, unhide HU']
        have b4 : Below W0.heap.size W0 w4 := (Below.refl _ _).drew.trans b4_
        have HBX4 := hide ((unhide HBX).below b4)
        have HX4 := hide ((unhide HX3).below b4)
        have HR4 := hide ((unhide HR3).below b4)
        have HB4 := hide ((unhide HBA).trans (b4.mono (unhide HBA).size))
        have HN4 := hide ((unhide HBN).trans (b4.mono (unhide HBN).size))
        clear b4 b4_ hHeld
        refine hK.out _ _ (sTB (unhide HBX4) (unhide HX4)) (fun hHeld => ?_)
        clear hK K
        (try simp only [Act.put, List.setIfInBounds_toArray, List.set_cons_zero, List.set_cons_succ])
        refine Rg.t 9 31 ?_
        (refine Rg.o 10 (fun K hK => ?_); go_simp)
        rw [← unhide HK]
        refine (hasSource _ ss ca v _ (unhide HR4) (unhide HU) (by rw [unhide HK]; omega)).mono ?_
        rintro e w5 ⟨rfl, b5⟩
        rw [unhide HH]
        have HBX5 := hide ((unhide HBX4).below b5)
        have HX5 := hide ((unhide HX4).below b5)
        have HB5 := hide ((unhide HB4).trans (b5.mono (unhide HB4).size))
        have HN5 := hide ((unhide HN4).trans (b5.mono (unhide HN4).size))
        clear b5 hHeld
        refine hK.out _ _ (sTB (unhide HBX5) (unhide HX5)) (fun hHeld => ?_)
        clear hK K
        (try simp only [Act.put, List.setIfInBounds_toArray, List.set_cons_zero, List.set_cons_succ])
        refine Rg.t 11 33 ?_
        refine Rg.t 12 34 ?_
        refine wpAnyH_done (by kernel_rfl) (NoPanic.normal ?_) _
        clear hHeld
        cases o
        · have HF := hide (unhide HZ (unhide HO2))
          go_wp2_with fail
          go_ret
          exact ⟨ret_bool (unhide HF).symm, unhide HB5⟩
        · have HY2 := hide (unhide HY (unhide HO2))
          go_wp2_with fail
          go_roundw
          case rel => exact ⟨j + 1, by omega, by go_num, HY2, HN5⟩
          case measure => simp [intOf]; omega
    · obtain rfl : j = n := by omega
      have HF : Hid (A = true) := hide (by rw [← unhide HTA, edg_all (unhide HS) (by rw [unhide HN]; exact unhide hed)]; exact unhide HT)
      go_wp2_with fail
      go_ret
      exact ⟨ret_bool (unhide HF).symm, unhide HBW⟩
end Tp
end Go.Proofs.YtffclijcfngeeaaGreat
namespace Go.Proofs.YtffclijcfngeeaaGreat
open Go.ChangeShapes Go.WideShapes Go.ChangeAt Go.RowKit
set_option linter.unusedVariables false
set_option linter.unusedSimpArgs false
attribute [local go_sem ↓] Go.wp_at_zero Go.wp_at_succ
namespace Tw
open W1 Tu St
theorem below_drewN {B : Nat} {w0 w : World} (h : Below B w0 w) (q : Nat) : Below B w0 (w.drewN q) := ⟨h.os, h.tape, h.output, h.size, h.block⟩
theorem key_check {ms : List R} {j : Nat} {v u : Int} (hj : j < ms.length) (hv' : IntKind.i64.wrap ((ms.getD j R.zero).key.tdiv 100) = v) (hu' : (ms.getD j R.zero).key.tmod 100 = u) (hr : keysB ms j = true ∨ setB ms = false) :
    ((inB v 1 8 && (inB u 1 8 && !(v == u))) = false → twoB ms = false) ∧ ((inB v 1 8 && (inB u 1 8 && !(v == u))) = true → keysB ms (j + 1) = true ∨ setB ms = false) := by
  cases hs : setB ms
  · exact ⟨fun _ => set_no hs, fun _ => .inr rfl⟩
  have hb := ok_bounds (setB_ok hs hj)
  have e1 : (ms.getD j R.zero).key.tdiv 100 = (ms.getD j R.zero).key / 100 := Int.tdiv_eq_ediv_of_nonneg hb.1
  have w1 : v = hv (ms.getD j R.zero) := by rw [← hv', IntKind.wrap_i64]; unfold hv; rw [e1]; omega
  have w2 : u = ha (ms.getD j R.zero) := by rw [← hu']; rfl
  have e : (inB v 1 8 && (inB u 1 8 && !(v == u))) = okK (ms.getD j R.zero) := by rw [w1, w2]; rfl
  rw [e]
  refine ⟨fun h => keys_no hj h, fun h => .inl (keys_succ hj ?_ h)⟩
  rcases hr with h | h
  · exact h
  · rw [hs] at h; cases h
set_option maxRecDepth 100000 in
set_option maxHeartbeats 4000000 in
theorem l07OK (a : Option Addr) (ms : List R) (cap : Nat) (w : World) (hm : ms.length ≤ 1048576) (hr : RM w a ms) :
    Calls Tryz.prog 91 #[.slice a ms.length cap] w fun e w' => e = .returned (.bool (twoB ms)) ∧ Below w.heap.size w w' := by
  have HR := hide hr
  clear hr
  obtain ⟨A, hA⟩ : ∃ A, twoB ms = A := ⟨_, rfl⟩
  have HA := hide hA
  rw [hA]
  clear hA
  generalize hN : ms.length = n at *
  have HN := hide hN
  clear hN
  go_enter Tryz.func91, Tryz.ntmps91
  go_wp2_with fail
  go_loopw [3] (fun i wr => ∃ j : Nat, j ≤ n ∧ i = .int .i64 j ∧ Hid (keysB ms j = true ∨ setB ms = false) ∧ Hid (∃ q, wr = w.drewN q)) (fun i _ => n - (intOf i).toNat)
  case atStart => exact ⟨0, by omega, rfl, hide (.inl (keys_zero ms)), hide ⟨0, rfl⟩⟩
  case round =>
    obtain ⟨j, hj, rfl, hrl, hq⟩ := hrel
    have HRr : Hid (RM wr a ms) := hide (by obtain ⟨q, e⟩ := unhide hq; rw [e]; exact unhide HR)
    have HD : Hid (∀ m, ∃ q, wr.drewN m = w.drewN q) := hide (fun m => by obtain ⟨q, e⟩ := unhide hq; exact ⟨_, by rw [e, World.drewN_drewN]⟩)
    by_cases hlt : (j : Int) < (n : Int)
    · have k0 : (0 : Int) ≤ (j : Int) := by omega
      have hlen : j < ms.length := by rw [unhide HN]; omega
      obtain ⟨g, off, rfl⟩ := (unhide HR).form (by omega)
      obtain ⟨c0, c1, c2⟩ := (unhide HRr).at hlen
      obtain ⟨v, hv'⟩ : ∃ v, IntKind.i64.wrap ((ms.getD j R.zero).key.tdiv 100) = v := ⟨_, rfl⟩
      obtain ⟨u, hu'⟩ : ∃ u, (ms.getD j R.zero).key.tmod 100 = u := ⟨_, rfl⟩
      obtain ⟨HF, HC⟩ := key_check hlen hv' hu' (unhide hrl)
      rw [unhide HA] at HF
      have HF := hide HF
      have HC := hide HC
      generalize ms.getD j R.zero = m at *
      obtain ⟨key, til, val⟩ := m
      dsimp only at c0 c1 c2 hv' hu'
      cases h1 : inB v 1 8
      rotate_left
      cases h2 : inB u 1 8
      rotate_left
      cases h3 : (v == u)
      · have HT := hide (unhide HC (by rw [h1, h2, h3]; rfl))
        go_wp2_with fail
        go_quiet ((go_at_call 63; exact Calls.quiet_of_same (l01Addr _ _)))
        go_wp2_with fail
        go_roundw
        case rel => exact ⟨j + 1, by omega, by go_num, HT, hide (unhide HD _)⟩
        case measure => simp [intOf]; omega
      · have HT := hide (unhide HF (by rw [h1, h2, h3]; rfl))
        go_wp2_with fail
        go_quiet ((go_at_call 63; exact Calls.quiet_of_same (l01Addr _ _)))
        go_wp2_with fail
        go_ret
        obtain ⟨q, e⟩ := unhide HD _
        exact ⟨ret_bool (unhide HT).symm, by rw [e]; exact below_drewN (Below.refl _ _) _⟩
      · have HT := hide (unhide HF (by rw [h1]; rfl))
        go_wp2_with fail
        go_quiet ((go_at_call 63; exact Calls.quiet_of_same (l01Addr _ _)))
        go_wp2_with fail
        go_ret
        obtain ⟨q, e⟩ := unhide HD _
        exact ⟨ret_bool (unhide HT).symm, by rw [e]; exact below_drewN (Below.refl _ _) _⟩
      · have HT := hide (unhide HF (by rw [h1, h2]; rfl))
        go_wp2_with fail
        go_quiet ((go_at_call 63; exact Calls.quiet_of_same (l01Addr _ _)))
        go_wp2_with fail
        go_ret
        obtain ⟨q, e⟩ := unhide HD _
        exact ⟨ret_bool (unhide HT).symm, by rw [e]; exact below_drewN (Below.refl _ _) _⟩
    · obtain rfl : j = n := by omega
      have HT : Hid (setB ms = A) := hide (by
        rw [← unhide HA]
        rcases unhide hrl with h | h
        · exact (keys_all (by rw [unhide HN]; exact h)).symm
        · rw [h, set_no h])
      have HB : Hid (Below w.heap.size w wr) := hide (by obtain ⟨q, e⟩ := unhide hq; rw [e]; exact below_drewN (Below.refl _ _) _)
      go_wp2_with fail
      rw [← unhide HN]
      refine (St.specOK _ ms cap _ (by rw [unhide HN]; omega) (unhide HRr)).mono ?_
      rintro e w1 ⟨rfl, b1⟩
      rw [unhide HT]
      have HB1 := hide ((unhide HB).trans (b1.mono (unhide HB).size))
      clear b1
      go_wp2_with fail
      go_ret
      exact ⟨rfl, unhide HB1⟩
end Tw
end Go.Proofs.YtffclijcfngeeaaGreat
namespace Go.Proofs.YtffclijcfngeeaaGreat
open Go.ChangeShapes Go.WideShapes Go.ChangeAt Go.RowKit
set_option linter.unusedVariables false
set_option linter.unusedSimpArgs false
set_option maxRecDepth 100000
attribute [local go_sem ↓] Go.wp_at_zero Go.wp_at_succ
namespace Tp
open W1 Tu St Tw
theorem lt_block {w : World} {b : Nat} {c : Obj} (h : w.heap[b]? = some c) : b < w.heap.size := by
  rcases Nat.lt_or_ge b w.heap.size with hlt | hge
  · exact hlt
  · rw [Array.getElem?_eq_none hge] at h; cases h
theorem heap_set {w : World} {b i : Nat} {c : Array Value} {t : TypeId} {fr : Nat × Nat} (u : Value) (h : w.heap[b]? = some (.cells c t fr)) : (w.setCell ⟨b, i, none⟩ u).heap[b]? = some (.cells (c.setIfInBounds i u) t fr) := by
  have hlt := lt_block h
  have h' : w.heap[b] = .cells c t fr := by simpa [Array.getElem?_eq_getElem hlt] using h
  show (w.heap.modify b _)[b]? = _
  rw [Array.getElem?_eq_getElem (by simpa using hlt), Array.getElem_modify_self, h']
  rfl
/-- A source's block that may be written. -/
def SV (w : World) (b : Nat) (m : So.R) : Prop := w.heap[b]? = some (.cells #[.int .i64 m.ad, .int .i64 m.an, .int .i64 m.til] 144 (0, 0))
theorem SV.cells {w : World} {b : Nat} {m : So.R} (h : SV w b m) : So.At w b 0 m := by
  unfold SV at h; refine ⟨?_, ?_, ?_⟩ <;> simp [World.cell?, h]
theorem SV.free {w : World} {b : Nat} {m : So.R} (h : SV w b m) (i : Nat) : w.frozen? ⟨b, i, none⟩ = false := by unfold SV at h; simp [World.frozen?, h]
theorem SV.lt {w : World} {b : Nat} {m : So.R} (h : SV w b m) : b < w.heap.size := lt_block h
theorem SV.below {w w' : World} {b : Nat} {m : So.R} (h : SV w b m) (hb : Below w.heap.size w w') : SV w' b m := (hb.block b h.lt).trans h
theorem sv_new (w : World) (m : So.R) : SV (w.alloc (.cells #[.int .i64 m.ad, .int .i64 m.an, .int .i64 m.til] 144)) w.heap.size m := heap_alloc_new w _
/-- A topology's block that may be written. -/
def TV (w : World) (b : Nat) (x y : Value) : Prop := w.heap[b]? = some (.cells #[x, y] 35 (0, 0))
theorem TV.bx {w : World} {b : Nat} {x y : Value} (h : TV w b x y) : Bx2 w b x y := by
  unfold TV at h; constructor <;> simp [World.cell?, h]
theorem TV.free {w : World} {b : Nat} {x y : Value} (h : TV w b x y) (i : Nat) : w.frozen? ⟨b, i, none⟩ = false := by unfold TV at h; simp [World.frozen?, h]
theorem TV.lt {w : World} {b : Nat} {x y : Value} (h : TV w b x y) : b < w.heap.size := lt_block h
theorem TV.drew {w : World} {b : Nat} {x y : Value} (h : TV w b x y) : TV w.drew b x y := h
theorem TV.below {w w' : World} {b : Nat} {x y : Value} (h : TV w b x y) (hb : Below w.heap.size w w') : TV w' b x y := (hb.block b h.lt).trans h
theorem TV.under {w w' : World} {B b : Nat} {x y : Value} (h : TV w b x y) (hb : Below B w w') (hl : b < B) : TV w' b x y := (hb.block b hl).trans h
theorem TV.grown {w w' : World} {b : Nat} {x y : Value} {r : Option Nat} (h : TV w b x y) (hg : w.grownBy w' r) (hne : some b ≠ r) : TV w' b x y := (hg.block b h.lt hne).trans h
theorem tv_new (w : World) (x y : Value) : TV (w.alloc (.cells #[x, y] 35)) w.heap.size x y := heap_alloc_new w _
theorem TV.set0 {w : World} {b : Nat} {x y : Value} (h : TV w b x y) (u : Value) : TV (w.setCell ⟨b, 0, none⟩ u) b u y := heap_set u h
theorem TV.set1 {w : World} {b : Nat} {x y : Value} (h : TV w b x y) (u : Value) : TV (w.setCell ⟨b, 1, none⟩ u) b x u := heap_set u h
theorem TV.put {w : World} {b : Nat} {x y : Value} (h : TV w b x y) (u v : Value) : TV ((w.setCell ⟨b, 0, none⟩ u).setCell ⟨b, 1, none⟩ v) b u v := (h.set0 u).set1 v
theorem TV.other {w : World} {b : Nat} {x y : Value} (h : TV w b x y) {p : Addr} (hp : b ≠ p.block) (u : Value) : TV (w.setCell p u) b x y := (Below.heap_setCell _ _ _ _ hp).trans h
set_option maxHeartbeats 1000000 in
theorem l09Source (ad an til : Int) (w : World) :
    Calls Tryz.prog 166 #[.agg #[.int .i64 ad, .int .i64 an, .int .i64 til]] w fun e w' => e = .returned (.bool (okS ⟨ad, an, til⟩)) ∧ Below w.heap.size w w' := by
  have E : Hid (okS ⟨ad, an, til⟩ = (inB ad 1 8 && (inB an 0 65535 && inB til 0 1073741824))) := hide rfl
  cases h1 : inB ad 1 8
  rotate_left
  cases h2 : inB an 0 65535
  rotate_left
  cases h3 : inB til 0 1073741824
  all_goals
    go_enter Tryz.func166, Tryz.ntmps166
    go_wp2_with (first | (go_at_call 64; refine (l01In _ _ _ _).mono ?_; rintro e w' ⟨rfl, rfl⟩) | (go_at_call 63; refine (l01Addr _ _).mono ?_; rintro e w' ⟨rfl, rfl⟩))
    go_ret
    exact ⟨ret_bool (by rw [unhide E]; simp [*]), (Below.refl _ _).alloc (Nat.le_refl _) _⟩
set_option maxHeartbeats 4000000 in
theorem l09Find (a : Option Addr) (ss : List So.R) (ca : Nat) (vb : Value) (k : Int) (w : World) (hm : ss.length ≤ 1048576) (hr : So.RM w a ss) :
    Calls Tryz.prog 96 #[.agg #[.slice a ss.length ca, vb], .int .i64 k] w fun e w' => e = .returned (.tuple #[(fS ss k).value, .bool (hasS ss k)]) ∧ Below w.heap.size w w' := by
  have HT : Hid (∀ j, j < ss.length → (∀ i, i < j → isS k (ss.getD i So.R.zero) = false) → isS k (ss.getD j So.R.zero) = true → fS ss k = ss.getD j So.R.zero ∧ hasS ss k = true) := hide (fun j hj h1 h2 => by
    have hf := Ri.find_at (z := So.R.zero) (isS k) ss j hj h1 h2
    unfold fS hasS; rw [hf]; exact ⟨rfl, rfl⟩)
  have HN : Hid ((∀ i, i < ss.length → isS k (ss.getD i So.R.zero) = false) → fS ss k = So.R.zero ∧ hasS ss k = false) := hide (fun h1 => by
    have hf := Ri.find_no (z := So.R.zero) (isS k) ss h1
    unfold fS hasS; rw [hf]; exact ⟨rfl, rfl⟩)
  obtain ⟨A, hA⟩ : ∃ A, fS ss k = A := ⟨_, rfl⟩
  obtain ⟨E, hE⟩ : ∃ E, hasS ss k = E := ⟨_, rfl⟩
  rw [hA, hE] at HT HN ⊢
  clear hA hE
  have HR0 := hide hr
  clear hr
  obtain ⟨n, hN⟩ : ∃ n, ss.length = n := ⟨_, rfl⟩
  have HL := hide hN
  rw [hN] at hm HT HN ⊢
  clear hN
  have HA0 : Hid (Below w.heap.size w (w.alloc (.cells #[.slice a n ca, vb] 35))) := hide ((Below.refl _ _).alloc (Nat.le_refl _) _)
  have HA : Hid (Below w.heap.size w ((w.alloc (.cells #[.slice a n ca, vb] 35)).alloc (.cells #[.int .i64 0, .int .i64 0, .int .i64 0] 144))) := hide ((unhide HA0).alloc (unhide HA0).size _)
  have HX : Hid (Bx2 ((w.alloc (.cells #[.slice a n ca, vb] 35)).alloc (.cells #[.int .i64 0, .int .i64 0, .int .i64 0] 144)) w.heap.size (.slice a n ca) vb) := hide ((bx2_new w _ _ _).below ((Below.refl _ _).alloc (Nat.le_refl _) _))
  have HV : Hid (SV ((w.alloc (.cells #[.slice a n ca, vb] 35)).alloc (.cells #[.int .i64 0, .int .i64 0, .int .i64 0] 144)) (w.heap.size + 1) So.R.zero) := hide (by have := sv_new (w.alloc (.cells #[.slice a n ca, vb] 35)) So.R.zero; rw [show (w.alloc (.cells #[.slice a n ca, vb] 35)).heap.size = w.heap.size + 1 by simp] at this; exact this)
  have HR := hide ((unhide HR0).below (unhide HA))
  have hsz : w.heap.size ≤ w.heap.size + 1 := by omega
  clear HA0 HR0
  go_enter Tryz.func96, Tryz.ntmps96
  go_wp2_with fail
  generalize hW : (w.alloc (.cells #[.slice a n ca, vb] 35)).alloc (.cells #[.int .i64 0, .int .i64 0, .int .i64 0] 144) = W0 at *
  clear hW
  go_loopw [6] (fun i wr => ∃ j : Nat, j ≤ n ∧ i = .int .i64 j ∧ Hid (∀ i, i < j → isS k (ss.getD i So.R.zero) = false) ∧ W0 = wr) (fun i _ => n - (intOf i).toNat)
  case atStart => exact ⟨0, by omega, rfl, hide (fun i hi => by omega), rfl⟩
  case round =>
    obtain ⟨j, hj, rfl, hrl, rfl⟩ := hrel
    obtain ⟨x0, x1, x2⟩ := (unhide HV).cells
    simp only [Nat.zero_add] at x1 x2
    have y0 := (unhide HV).free 0
    have y1 := (unhide HV).free 1
    have y2 := (unhide HV).free 2
    unfold So.R.zero at x0 x1 x2
    dsimp only at x0 x1 x2
    obtain ⟨z0, z1⟩ := unhide HX
    by_cases hlt : (j : Int) < (n : Int)
    · have k0 : (0 : Int) ≤ (j : Int) := by omega
      have hlen : j < ss.length := by rw [unhide HL]; omega
      obtain ⟨g, off, rfl⟩ := (unhide HR).form (by omega)
      have hA := (unhide HR).at hlen
      cases hk : isS k (ss.getD j So.R.zero)
      · have HST : Hid (∀ i, i < j + 1 → isS k (ss.getD i So.R.zero) = false) := hide (fun i hi => by
          by_cases e : i = j
          · subst e; exact hk
          · exact unhide hrl i (by omega))
        have hne : ((ss.getD j So.R.zero).ad == k) = false := hk
        clear hk
        generalize ss.getD j So.R.zero = m at *
        obtain ⟨ad, an, til⟩ := m
        obtain ⟨c0, c1, c2⟩ := hA
        dsimp only at c0 c1 c2 hne
        go_wp2_with fail
        go_roundw
        case rel => exact ⟨j + 1, by omega, by go_num, HST, trivial⟩
        case measure => simp [intOf]; omega
      · have HAE := hide (unhide HT j (by omega) (unhide hrl) hk)
        have hne : ((ss.getD j So.R.zero).ad == k) = true := hk
        clear hk
        generalize ss.getD j So.R.zero = m at *
        obtain ⟨ad, an, til⟩ := m
        obtain ⟨c0, c1, c2⟩ := hA
        dsimp only at c0 c1 c2 hne
        go_wp2_with fail
        refine bodyPost_ret (v := .tuple #[.agg #[.int .i64 ad, .int .i64 an, .int .i64 til], .bool true]) (by simp [results, Tryz.results96, go_sem, x0, x1, x2]) rfl ⟨by rw [(unhide HAE).1, (unhide HAE).2]; rfl, ?_⟩
        have hB := unhide HA
        (repeat (first | (with_reducible exact hB) | (with_reducible refine Below.drew ?_) | (with_reducible refine Below.setCell ?_ ?_ _; rotate_left; (first | exact Nat.le_refl _ | (simp; done) | (dsimp only; omega))) | (with_reducible refine Below.alloc ?_ ?_ _; rotate_left; (first | exact Nat.le_refl _ | omega | (simp [World.setCell]; omega)))))
    · obtain rfl : j = n := by omega
      have HAE := hide (unhide HN (unhide hrl))
      go_wp2_with fail
      refine bodyPost_ret (v := .tuple #[.agg #[.int .i64 0, .int .i64 0, .int .i64 0], .bool false]) (by simp [results, Tryz.results96, go_sem, x0, x1, x2]) rfl ⟨by rw [(unhide HAE).1, (unhide HAE).2]; rfl, ?_⟩
      have hB := unhide HA
      (repeat (first | (with_reducible exact hB) | (with_reducible refine Below.drew ?_) | (with_reducible refine Below.setCell ?_ ?_ _; rotate_left; (first | exact Nat.le_refl _ | (simp; done) | (dsimp only; omega))) | (with_reducible refine Below.alloc ?_ ?_ _; rotate_left; (first | exact Nat.le_refl _ | omega | (simp [World.setCell]; omega)))))
theorem l09FindL (a : Option Addr) (ss : List So.R) (n ca : Nat) (vb : Value) (k : Int) (w : World) (hn : ss.length = n) (hm : n ≤ 1048576) (hr : So.RM w a ss) :
    Calls Tryz.prog 96 #[.agg #[.slice a n ca, vb], .int .i64 k] w fun e w' => e = .returned (.tuple #[(fS ss k).value, .bool (hasS ss k)]) ∧ Below w.heap.size w w' := by
  subst hn; exact l09Find a ss ca vb k w hm hr
end Tp
end Go.Proofs.YtffclijcfngeeaaGreat
namespace Go.Proofs.YtffclijcfngeeaaGreat
open Go.ChangeShapes Go.WideShapes Go.ChangeAt Go.RowKit
set_option linter.unusedVariables false
set_option linter.unusedSimpArgs false
set_option maxRecDepth 100000
attribute [local go_sem ↓] Go.wp_at_zero Go.wp_at_succ
namespace Tq
open W1 Tp
set_option maxHeartbeats 2000000 in
theorem sz (a : Option Addr) (n ca : Nat) (b : Option Addr) (m cb : Nat) (L : Int) (w : World) (hL : 0 ≤ L) (hL1 : L ≤ 1048576) (hn : n ≤ maxLen) (hm : m ≤ maxLen) :
    Calls Tryz.prog 32 #[.agg #[.slice a n ca, .slice b m cb], .int .i64 L] w fun e w' => ∃ r : Int, e = .returned (.int .i64 r) ∧ Below w.heap.size w w' ∧ (r < 0 ∨ (0 ≤ r ∧ r = L - n - m)) := by
  go_enter Tryz.func32, Tryz.ntmps32
  go_wp2_with fail
  refine (So.szS a n ca L _ hL hL1 hn).mono ?_
  rintro e w1 ⟨r, rfl, rfl, hr⟩
  rcases hr with hr | ⟨hr, hr1⟩
  · go_wp2_with fail
    go_ret
    exact ⟨_, rfl, (Below.refl _ _).alloc (Nat.le_refl _) _, .inl (by omega)⟩
  · have hnn : ¬ r < 0 := by omega
    have hr2 : r ≤ 1048576 := by omega
    have HR1 := hide hr1
    clear hr1
    go_wp2_with fail
    refine (Tu.szS b m cb r _ hr hr2 hm).mono ?_
    rintro e w2 ⟨s, rfl, rfl, hs⟩
    rcases hs with hs | ⟨hs, hs1⟩
    · go_wp2_with fail
      go_ret
      exact ⟨_, rfl, (Below.refl _ _).alloc (Nat.le_refl _) _, .inl (by omega)⟩
    · have hns : ¬ s < 0 := by omega
      have HS1 := hide hs1
      clear hs1
      go_wp2_with fail
      go_ret
      exact ⟨_, rfl, (Below.refl _ _).alloc (Nat.le_refl _) _, .inr ⟨hs, by rw [unhide HS1, unhide HR1]⟩⟩
theorem uptoS_set {w : World} {g n j : Nat} {ms : List So.R} {p : Addr} {v : Value} (h : So.Upto w g n j ms) (hne : p.block ≠ g) : So.Upto (w.setCell p v) g n j ms :=
  h.of_block (Below.heap_setCell _ _ _ _ (fun e => hne e.symm))
theorem uptoT_set {w : World} {g n j : Nat} {ms : List Tu.R} {p : Addr} {v : Value} (h : Tu.Upto w g n j ms) (hne : p.block ≠ g) : Tu.Upto (w.setCell p v) g n j ms :=
  h.of_block (Below.heap_setCell _ _ _ _ (fun e => hne e.symm))
set_option maxHeartbeats 4000000 in
theorem to (a : Option Addr) (ss : List So.R) (ca : Nat) (b : Option Addr) (es : List Tu.R) (cb : Nat) (w : World) (hm : ss.length ≤ 1048576) (hl : es.length ≤ 1048576) (hr : So.RM w a ss) (hr' : Tu.RM w b es) :
    Calls Tryz.prog 39 #[.agg #[.slice a ss.length ca, .slice b es.length cb]] w fun e w' => ∃ g h, e = .returned (.agg #[.slice (some ⟨g, 0, none⟩) ss.length ss.length, .slice (some ⟨h, 0, none⟩) es.length es.length]) ∧ Below w.heap.size w w' ∧ (w.heap.size ≤ g ∧ g < h ∧ h < w'.heap.size) ∧ So.Upto w' g ss.length ss.length ss ∧ Tu.Upto w' h es.length es.length es := by
  have HA0 : Hid (Below w.heap.size w (w.alloc (.cells #[.slice a ss.length ca, .slice b es.length cb] 26))) := hide ((Below.refl _ _).alloc (Nat.le_refl _) _)
  have HA1 : Hid (Below w.heap.size w ((w.alloc (.cells #[.slice a ss.length ca, .slice b es.length cb] 26)).alloc (.cells #[.slice none 0 0, .slice none 0 0] 35))) := hide ((unhide HA0).alloc (unhide HA0).size _)
  have HA : Hid (Below w.heap.size w (((w.alloc (.cells #[.slice a ss.length ca, .slice b es.length cb] 26)).alloc (.cells #[.slice none 0 0, .slice none 0 0] 35)).alloc (.cells #[.slice none 0 0, .slice none 0 0] 35))) := hide ((unhide HA1).alloc (unhide HA1).size _)
  have HX : Hid (Bx2 (((w.alloc (.cells #[.slice a ss.length ca, .slice b es.length cb] 26)).alloc (.cells #[.slice none 0 0, .slice none 0 0] 35)).alloc (.cells #[.slice none 0 0, .slice none 0 0] 35)) w.heap.size (.slice a ss.length ca) (.slice b es.length cb)) := hide (((bx2_new w _ _ _).below ((Below.refl _ _).alloc (Nat.le_refl _) _)).below ((Below.refl _ _).alloc (Nat.le_refl _) _))
  have HZ : Hid (TV (((w.alloc (.cells #[.slice a ss.length ca, .slice b es.length cb] 26)).alloc (.cells #[.slice none 0 0, .slice none 0 0] 35)).alloc (.cells #[.slice none 0 0, .slice none 0 0] 35)) (w.heap.size + 1) (.slice none 0 0) (.slice none 0 0)) := hide (by have := (tv_new (w.alloc (.cells #[.slice a ss.length ca, .slice b es.length cb] 26)) (.slice none 0 0) (.slice none 0 0)).below ((Below.refl _ _).alloc (Nat.le_refl _) (.cells #[.slice none 0 0, .slice none 0 0] 35)); rw [show (w.alloc (.cells #[.slice a ss.length ca, .slice b es.length cb] 26)).heap.size = w.heap.size + 1 by simp] at this; exact this)
  have HO : Hid (TV (((w.alloc (.cells #[.slice a ss.length ca, .slice b es.length cb] 26)).alloc (.cells #[.slice none 0 0, .slice none 0 0] 35)).alloc (.cells #[.slice none 0 0, .slice none 0 0] 35)) (w.heap.size + 2) (.slice none 0 0) (.slice none 0 0)) := hide (by have := tv_new ((w.alloc (.cells #[.slice a ss.length ca, .slice b es.length cb] 26)).alloc (.cells #[.slice none 0 0, .slice none 0 0] 35)) (.slice none 0 0) (.slice none 0 0); rw [show ((w.alloc (.cells #[.slice a ss.length ca, .slice b es.length cb] 26)).alloc (.cells #[.slice none 0 0, .slice none 0 0] 35)).heap.size = w.heap.size + 2 by simp] at this; exact this)
  have HR := hide (hr.below (unhide HA))
  have HE0 := hide hr'
  have hw3 : ((((w.alloc (.cells #[.slice a ss.length ca, .slice b es.length cb] 26)).alloc (.cells #[.slice none 0 0, .slice none 0 0] 35)).alloc (.cells #[.slice none 0 0, .slice none 0 0] 35))).heap.size = w.heap.size + 3 := by simp
  clear hr hr' HA0 HA1
  go_enter Tryz.func39, Tryz.ntmps39
  go_wp2_with fail
  generalize hW : (((w.alloc (.cells #[.slice a ss.length ca, .slice b es.length cb] 26)).alloc (.cells #[.slice none 0 0, .slice none 0 0] 35)).alloc (.cells #[.slice none 0 0, .slice none 0 0] 35)) = w0 at *
  clear hW
  refine (So.toS a ss ca _ hm (unhide HR)).mono ?_
  rintro e w1 ⟨g, rfl, b1, hg, hz, u1⟩
  have HB1 := hide ((unhide HA).trans (b1.mono (unhide HA).size))
  have HX1 := hide ((unhide HX).below b1)
  have HZ1 := hide ((unhide HZ).below b1)
  have HO1 := hide ((unhide HO).below b1)
  have HU1 := hide u1
  have hs1 := b1.size
  clear b1 u1 HX HZ HO HR HA
  have hp2 : w.heap.size ≤ w.heap.size + 2 := by omega
  have hp1 : w.heap.size ≤ w.heap.size + 1 := by omega
  obtain ⟨w2, hw2⟩ : ∃ w2, w1.setCell ⟨w.heap.size + 2, 0, none⟩ (.slice (some ⟨g, 0, none⟩) ss.length ss.length) = w2 := ⟨_, rfl⟩
  have HB2 : Hid (Below w.heap.size w w2) := hide (by rw [← hw2]; exact (unhide HB1).setCell (p := ⟨w.heap.size + 2, 0, none⟩) hp2 _)
  have HX2 : Hid (Bx2 w2 w.heap.size (.slice a ss.length ca) (.slice b es.length cb)) := hide (by rw [← hw2]; exact (unhide HX1).but (Below.heap_setCell _ _ _ _ (by show w.heap.size ≠ w.heap.size + 2; omega)))
  have HZ2 : Hid (TV w2 (w.heap.size + 1) (.slice none 0 0) (.slice none 0 0)) := hide (by rw [← hw2]; exact (unhide HZ1).other (p := ⟨w.heap.size + 2, 0, none⟩) (by show w.heap.size + 1 ≠ w.heap.size + 2; omega) _)
  have HO2 : Hid (TV w2 (w.heap.size + 2) (.slice (some ⟨g, 0, none⟩) ss.length ss.length) (.slice none 0 0)) := hide (by rw [← hw2]; exact (unhide HO1).set0 _)
  have HU2 : Hid (So.Upto w2 g ss.length ss.length ss) := hide (by rw [← hw2]; exact uptoS_set (p := ⟨w.heap.size + 2, 0, none⟩) (unhide HU1) (by show w.heap.size + 2 ≠ g; omega))
  have hs2 : w2.heap.size = w1.heap.size := by rw [← hw2]; simp [World.setCell]
  obtain ⟨o0, o1⟩ := (unhide HO1).bx
  have f0 := (unhide HO1).free 0
  have HE2 := hide ((unhide HE0).below (unhide HB2))
  have HW2 := hide hw2
  obtain ⟨z0, z1⟩ := unhide HX1
  have hne : ¬ w.heap.size = w.heap.size + 2 := by omega
  clear hw2 HX1 HZ1 HU1
  go_wp2_with fail
  rw [unhide HW2]
  refine (Tu.toS b es cb _ hl (unhide HE2)).mono ?_
  rintro e w3 ⟨h, rfl, b3, hh, hz3, u3⟩
  have HB3 := hide ((unhide HB2).trans (b3.mono (unhide HB2).size))
  have HZ3 := hide ((unhide HZ2).below b3)
  have HO3 := hide ((unhide HO2).below b3)
  have HU3 := hide ((unhide HU2).below b3 (by omega))
  have HV3 := hide u3
  have hs3 := b3.size
  clear b3 u3 z0 z1 o0 o1 f0 HX2 HZ2 HO2 HU2 HW2 HO1 HE2
  obtain ⟨o0, o1⟩ := (unhide HO3).bx
  obtain ⟨r0, r1⟩ := (unhide HZ3).bx
  have f1 := (unhide HO3).free 1
  have q0 := (unhide HZ3).free 0
  have q1 := (unhide HZ3).free 1
  have hne2 : ¬ w.heap.size + 2 = w.heap.size + 1 := by omega
  have hne3 : ¬ w.heap.size + 1 = w.heap.size + 2 := by omega
  go_wp2_with fail
  refine bodyPost_ret (v := .agg #[.slice (some ⟨g, 0, none⟩) ss.length ss.length, .slice (some ⟨h, 0, none⟩) es.length es.length]) (by simp [results, Tryz.results39, go_sem, r0, r1, o0, o1]) rfl ⟨g, h, rfl, ?_, ⟨by omega, by omega, by simp [World.setCell]; omega⟩, ?_, ?_⟩
  · have hB := unhide HB3
    (repeat (first | (with_reducible exact hB) | (with_reducible refine Below.drew ?_) | (with_reducible refine Below.setCell ?_ ?_ _; rotate_left; (first | exact Nat.le_refl _ | (simp; done) | (dsimp only; omega))) | (with_reducible refine Below.alloc ?_ ?_ _; rotate_left; (first | exact Nat.le_refl _ | omega | (simp [World.setCell]; omega)))))
  · have := unhide HU3
    repeat (first | exact this | refine uptoS_set ?_ (by simp; omega))
  · have := unhide HV3
    repeat (first | exact this | refine uptoT_set ?_ (by simp; omega))
set_option maxHeartbeats 2000000 in
theorem eq (a : Option Addr) (ss : List So.R) (ca : Nat) (b : Option Addr) (es : List Tu.R) (cb : Nat) (c : Option Addr) (cc : Nat) (d : Option Addr) (cd : Nat) (w : World) (hm : ss.length ≤ 1048576) (hl : es.length ≤ 1048576) (h1 : So.RM w a ss) (h2 : Tu.RM w b es) (h3 : So.RM w c ss) (h4 : Tu.RM w d es) :
    Calls Tryz.prog 53 #[.agg #[.slice a ss.length ca, .slice b es.length cb], .agg #[.slice c ss.length cc, .slice d es.length cd]] w fun e w' => e = .returned (.bool true) ∧ Below w.heap.size w w' := by
  have HA0 : Hid (Below w.heap.size w (w.alloc (.cells #[.slice a ss.length ca, .slice b es.length cb] 35))) := hide ((Below.refl _ _).alloc (Nat.le_refl _) _)
  have HA : Hid (Below w.heap.size w ((w.alloc (.cells #[.slice a ss.length ca, .slice b es.length cb] 35)).alloc (.cells #[.slice c ss.length cc, .slice d es.length cd] 35))) := hide ((unhide HA0).alloc (unhide HA0).size _)
  have HX : Hid (Bx2 ((w.alloc (.cells #[.slice a ss.length ca, .slice b es.length cb] 35)).alloc (.cells #[.slice c ss.length cc, .slice d es.length cd] 35)) w.heap.size (.slice a ss.length ca) (.slice b es.length cb)) := hide ((bx2_new w _ _ _).below ((Below.refl _ _).alloc (Nat.le_refl _) _))
  have HY : Hid (Bx2 ((w.alloc (.cells #[.slice a ss.length ca, .slice b es.length cb] 35)).alloc (.cells #[.slice c ss.length cc, .slice d es.length cd] 35)) (w.heap.size + 1) (.slice c ss.length cc) (.slice d es.length cd)) := hide (by have := bx2_new (w.alloc (.cells #[.slice a ss.length ca, .slice b es.length cb] 35)) (.slice c ss.length cc) (.slice d es.length cd) 35; rw [show (w.alloc (.cells #[.slice a ss.length ca, .slice b es.length cb] 35)).heap.size = w.heap.size + 1 by simp] at this; exact this)
  have H1 := hide (h1.below (unhide HA))
  have H2 := hide (h2.below (unhide HA))
  have H3 := hide (h3.below (unhide HA))
  have H4 := hide (h4.below (unhide HA))
  clear h1 h2 h3 h4 HA0
  go_enter Tryz.func53, Tryz.ntmps53
  go_wp2_with fail
  refine (So.eqS a c ss ca cc _ hm (unhide H1) (unhide H3)).mono ?_
  rintro e w1 ⟨rfl, b1⟩
  have B1 := hide ((unhide HA).trans (b1.mono (unhide HA).size))
  obtain ⟨z0, z1⟩ := (unhide HX).below b1
  obtain ⟨y0, y1⟩ := (unhide HY).below b1
  have H2' := hide ((unhide H2).below b1)
  have H4' := hide ((unhide H4).below b1)
  clear b1
  go_wp2_with fail
  refine (Tu.eqS b d es cb cd _ hl (unhide H2') (unhide H4')).mono ?_
  rintro e w2 ⟨rfl, b2⟩
  have B2 := hide ((unhide B1).trans (b2.mono (unhide B1).size))
  clear b2 z0 z1 y0 y1
  go_wp2_with fail
  go_ret
  exact ⟨rfl, unhide B2⟩
set_option maxHeartbeats 2000000 in
theorem mark (a : Option Addr) (ca : Nat) (b : Option Addr) (cb lo mid hi : Nat) (K : Int) (ss : List So.R) (es : List Tu.R) (w : World) (hK : 0 ≤ K) (hK1 : K ≤ 1000000000) (hm : ss.length ≤ 1048576) (hl : es.length ≤ 1048576) (hlm : lo ≤ mid) (hmh : mid ≤ hi) (hhi : hi ≤ w.heap.size) (hs : So.Lst w a ss lo mid) (he : Tu.Lst w b es mid hi) :
    Calls Tryz.prog 57 #[.agg #[.slice a ss.length ca, .slice b es.length cb], .int .i64 K] w fun e w' => e = .returned (.int .i64 (K + 3 * (ss.length : Int) + 3 * (es.length : Int))) ∧ w.heap.size ≤ w'.heap.size ∧ Below (min lo w.heap.size) w w' ∧ (So.Lst w' a (So.marks K ss.length) lo mid ∧ Tu.Lst w' b (Tu.marks (K + 3 * (ss.length : Int)) es.length) mid hi) ∧ ∀ k, k < w.heap.size → (k < lo ∨ hi ≤ k) → w'.heap[k]? = w.heap[k]? := by
  have HA : Hid (Below w.heap.size w (w.alloc (.cells #[.slice a ss.length ca, .slice b es.length cb] 35))) := hide ((Below.refl _ _).alloc (Nat.le_refl _) _)
  have HX : Hid (Bx2 (w.alloc (.cells #[.slice a ss.length ca, .slice b es.length cb] 35)) w.heap.size (.slice a ss.length ca) (.slice b es.length cb)) := hide (bx2_new w _ _ _)
  have HS := hide (hs.below (unhide HA))
  have HE := hide (he.below (unhide HA))
  have hsz : (w.alloc (.cells #[.slice a ss.length ca, .slice b es.length cb] 35)).heap.size = w.heap.size + 1 := by simp
  clear hs he
  go_enter Tryz.func57, Tryz.ntmps57
  go_wp2_with fail
  generalize hW : w.alloc (.cells #[.slice a ss.length ca, .slice b es.length cb] 35) = w0 at *
  clear hW
  refine (So.markF a ca lo mid K ss _ hK (by omega) hm (unhide HS)).mono ?_
  rintro e w1 ⟨rfl, hz, b1, f1, k1⟩
  have HB1 := hide (((unhide HA).mono (Nat.min_le_right lo w.heap.size)).trans (b1.mono (by omega)))
  have HF1 := hide f1
  have HX1 := hide ((unhide HX).but (k1 w.heap.size (by omega) (.inr (by omega))))
  have HE1 := hide ((unhide HE).but (p := fun k => k < lo ∨ mid ≤ k) hz (fun k hk h => k1 k hk h) (fun k h1 h2 => .inr h1))
  have HK1 := hide k1
  clear b1 f1 k1
  obtain ⟨z0, z1⟩ := unhide HX1
  go_wp2_with fail
  refine (Tu.markF b cb mid hi (K + 3 * (ss.length : Int)) es _ (by omega) (by omega) hl (unhide HE1)).mono ?_
  rintro e w2 ⟨rfl, hz2, b2, f2, k2⟩
  clear z0 z1
  have HB2 := hide ((unhide HB1).trans (b2.mono (by omega)))
  have HF2 := hide f2
  have HG2 := hide ((unhide HF1).but (p := fun k => k < mid ∨ hi ≤ k) hz2 (fun k hk h => k2 k hk h) (fun k h1 h2 => .inl h2))
  have HK2 := hide k2
  clear b2 f2 k2
  go_wp2_with fail
  go_ret
  refine ⟨rfl, by omega, unhide HB2, ⟨unhide HG2, unhide HF2⟩, fun k hk h => ?_⟩
  rw [unhide HK2 k (by omega) (by omega), unhide HK1 k (by omega) (by omega), (unhide HA).block k hk]
set_option maxHeartbeats 2000000 in
theorem held (a : Option Addr) (n ca : Nat) (b : Option Addr) (m cb lo mid hi : Nat) (K : Int) (w : World) (hK : 0 ≤ K) (hK1 : K ≤ 1000000000) (hm : n ≤ 1048576) (hl : m ≤ 1048576) (hs : So.Lst w a (So.marks K n) lo mid) (he : Tu.Lst w b (Tu.marks (K + 3 * (n : Int)) m) mid hi) :
    Calls Tryz.prog 61 #[.agg #[.slice a n ca, .slice b m cb], .int .i64 K] w fun e w' => e = .returned (.int .i64 (K + 3 * (n : Int) + 3 * (m : Int))) ∧ Below w.heap.size w w' := by
  have HA : Hid (Below w.heap.size w (w.alloc (.cells #[.slice a n ca, .slice b m cb] 35))) := hide ((Below.refl _ _).alloc (Nat.le_refl _) _)
  have HX : Hid (Bx2 (w.alloc (.cells #[.slice a n ca, .slice b m cb] 35)) w.heap.size (.slice a n ca) (.slice b m cb)) := hide (bx2_new w _ _ _)
  have HS := hide (hs.below (unhide HA))
  have HE := hide (he.below (unhide HA))
  clear hs he
  have hn1 : ¬ (K + 3 * (n : Int)) < 0 := by omega
  have hn2 : ¬ (K + 3 * (n : Int) + 3 * (m : Int)) < 0 := by omega
  go_enter Tryz.func61, Tryz.ntmps61
  go_wp2_with fail
  generalize hW : w.alloc (.cells #[.slice a n ca, .slice b m cb] 35) = w0 at *
  clear hW
  refine (So.heldF a ca n lo mid K _ hK (by omega) hm (unhide HS)).mono ?_
  rintro e w1 ⟨rfl, hw1⟩
  rw [hw1]
  clear hw1
  obtain ⟨z0, z1⟩ := unhide HX
  go_wp2_with fail
  refine (Tu.heldF b cb m mid hi (K + 3 * (n : Int)) _ (by omega) (by omega) hl (unhide HE)).mono ?_
  rintro e w2 ⟨rfl, hw2⟩
  rw [hw2]
  clear hw2 z0 z1
  go_wp2_with fail
  go_ret
  exact ⟨rfl, unhide HA⟩
theorem cellsR : Tryz.prog.cellsOf 26 = 2 := by kernel_rfl
theorem listR {α : Type} {l : List α} (h : l.length = 2) : ∃ c0 c1, l = [c0, c1] := by
  match l, h with
  | [c0, c1], _ => exact ⟨c0, c1, rfl⟩
open Tu in
theorem open_cellT {H : Type} {enc : TypeId × Value → H} {W : World} {v : Value} {fuel : Nat} {y : DataW H × List MemPlace}
    (hf : DataW.trod enc Tryz.prog W 0 (fun _ => true) true fuel 23 [v] = some y) : ∃ a len cap, ∃ ms : List Tu.R, v = .slice a len cap ∧ ms.length = len ∧ len ≤ maxLen ∧ Tu.RM W a ms := by
  rcases Deep.open_slice Tryz.underlying23 hf with ⟨hcs, _⟩ | ⟨x, len, cap, m, n, D, Pl, hcs, _, hl, hm, hmm, _, hx⟩
  · simp only [List.cons.injEq, and_true] at hcs
    subst hcs
    exact ⟨none, 0, 0, [], rfl, rfl, Nat.zero_le _, .inl rfl⟩
  · simp only [List.cons.injEq, and_true] at hcs
    subst hcs
    simp at hmm
    subst hmm
    rw [Tu.cellsR] at hx
    by_cases h0 : len = 0
    · subst h0; exact ⟨_, _, _, [], rfl, rfl, Nat.zero_le _, .inl rfl⟩
    obtain ⟨b, off, spot⟩ := x
    have hsp : spot = none := by
      obtain ⟨cs', h1, _⟩ := hx 0 (by omega)
      obtain ⟨_, hlen, hc⟩ := World.cells?_some h1
      have h2 := hc 0 (by omega)
      rw [List.getElem?_eq_getElem (by omega)] at h2
      simpa [Addr.add] using World.cell?_spot h2
    subst hsp
    have hex : ∀ i, i < len → ∃ m : R, At W b (off + i * 3) m := by
      intro i hi
      obtain ⟨cs', h1, h2⟩ := hx i (by omega)
      obtain ⟨_, hlen, hc⟩ := World.cells?_some h1
      obtain ⟨m, rfl⟩ := open_one hlen h2
      have q0 := hc 0 (by omega)
      have q1 := hc 1 (by omega)
      have q2 := hc 2 (by omega)
      rw [plain_add, plain_add] at q0 q1 q2
      exact ⟨m, q0, q1, q2⟩
    have hin : Inhabited R := ⟨R.zero⟩
    obtain ⟨V, hV⟩ := Deep.choose_lt hex
    refine ⟨_, _, _, (List.range len).map V, rfl, by simp, Nat.le_trans hl hm, .inr ⟨b, off, rfl, fun i hi => ?_⟩⟩
    have hi' : i < len := by simpa using hi
    have e : ((List.range len).map V).getD i R.zero = V i := by
      rw [List.getD_eq_getElem?_getD, List.getElem?_map, List.getElem?_range hi']; rfl
    rw [e]
    exact hV i hi'
end Tq
end Go.Proofs.YtffclijcfngeeaaGreat
namespace Go.Proofs.YtffclijcfngeeaaGreat
open Go.ChangeShapes Go.WideShapes Go.ChangeAt Go.RowKit
set_option linter.unusedVariables false
set_option maxRecDepth 100000
set_option linter.unusedSimpArgs false
attribute [local go_sem ↓] Go.wp_at_zero Go.wp_at_succ
namespace Lk
open W1
structure R where
  ad : Int
  hd : Int
  sy : Int
  ci : Int
  co : Int
  wl : Int
def R.zero : R := ⟨0, 0, 0, 0, 0, 0⟩
/-- The value of one. -/
def R.value (m : R) : Value := .agg #[.int .i64 m.ad, .int .i64 m.hd, .int .i64 m.sy, .int .i64 m.ci, .int .i64 m.co, .int .i64 m.wl]
/-- The cells of one, of a list of them. -/
def R.cells (m : R) : List Value := [.int .i64 m.ad, .int .i64 m.hd, .int .i64 m.sy, .int .i64 m.ci, .int .i64 m.co, .int .i64 m.wl]
def flat (ms : List R) : List Value := ms.flatMap R.cells
/-- The cells of one that lies at an address. -/
def At (w : World) (g o : Nat) (m : R) : Prop :=
  w.cell? ⟨g, o, none⟩ = some (.int .i64 m.ad) ∧ w.cell? ⟨g, o + 1, none⟩ = some (.int .i64 m.hd) ∧ w.cell? ⟨g, o + 2, none⟩ = some (.int .i64 m.sy) ∧ w.cell? ⟨g, o + 3, none⟩ = some (.int .i64 m.ci) ∧ w.cell? ⟨g, o + 4, none⟩ = some (.int .i64 m.co) ∧ w.cell? ⟨g, o + 5, none⟩ = some (.int .i64 m.wl)
/-- The slice at a reads as these. -/
def RM (w : World) (a : Option Addr) (ms : List R) : Prop :=
  ms = [] ∨ ∃ g off, a = some ⟨g, off, none⟩ ∧ ∀ i, i < ms.length → At w g (off + i * 6) (ms.getD i R.zero)
theorem At.below {w w' : World} {g o : Nat} {m : R} (h : At w g o m) (hb : Below w.heap.size w w') : At w' g o m := by
  have hg : g < w.heap.size := World.block_lt_of_cell? _ _ h.1
  obtain ⟨h0, h1, h2, h3, h4, h5⟩ := h
  refine ⟨?_, ?_, ?_, ?_, ?_, ?_⟩ <;> (rw [hb.cell hg]; assumption)
theorem At.drew {w : World} {g o : Nat} {m : R} (h : At w g o m) : At w.drew g o m := h
theorem RM.below {w w' : World} {a : Option Addr} {ms : List R} (h : RM w a ms) (hb : Below w.heap.size w w') : RM w' a ms := by
  rcases h with h | ⟨g, off, rfl, hc⟩
  · exact .inl h
  · exact .inr ⟨g, off, rfl, fun i hi => (hc i hi).below hb⟩
theorem RM.drew {w : World} {a : Option Addr} {ms : List R} (h : RM w a ms) : RM w.drew a ms := h
theorem RM.at {w : World} {g off : Nat} {ms : List R} {i : Nat} (h : RM w (some ⟨g, off, none⟩) ms) (hi : i < ms.length) : At w g (off + i * 6) (ms.getD i R.zero) := by
  rcases h with rfl | ⟨g', off', e, hc⟩
  · simp at hi
  · cases e; exact hc i hi
theorem RM.form {w : World} {a : Option Addr} {ms : List R} (h : RM w a ms) (h0 : 0 < ms.length) : ∃ g off, a = some ⟨g, off, none⟩ := by
  rcases h with rfl | ⟨g, off, e, _⟩
  · simp at h0
  · exact ⟨g, off, e⟩
theorem getD_mem {ms : List R} {j : Nat} (h : j < ms.length) : ms.getD j R.zero ∈ ms := by rw [List.getD_eq_getElem?_getD, List.getElem?_eq_getElem h]; exact List.getElem_mem h
theorem R.len (m : R) : m.cells.length = 6 := rfl
theorem flat_len (ms : List R) : (flat ms).length = ms.length * 6 := by
  unfold flat
  induction ms with
  | nil => rfl
  | cons m t ih => rw [List.flatMap_cons, List.length_append, ih, R.len, List.length_cons]; omega
theorem flat_append (xs ys : List R) : flat (xs ++ ys) = flat xs ++ flat ys := by unfold flat; rw [List.flatMap_append]
theorem flat_get : ∀ (ms : List R) (i j : Nat), j < 6 → i < ms.length → (flat ms)[i * 6 + j]? = (ms.getD i R.zero).cells[j]?
  | [], i, j, hj, hi => by simp at hi
  | m :: t, 0, j, hj, hi => by
    unfold flat
    rw [List.flatMap_cons, Nat.zero_mul, Nat.zero_add, List.getElem?_append_left (by rw [R.len]; exact hj)]; rfl
  | m :: t, i + 1, j, hj, hi => by
    have ih := flat_get t i j hj (by simpa using hi)
    unfold flat at ih ⊢
    rw [List.flatMap_cons, show (i + 1) * 6 + j = m.cells.length + (i * 6 + j) by rw [R.len]; omega, List.getElem?_append_right (by omega), Nat.add_sub_cancel_left, ih]; rfl
theorem cell_one {m : R} {u : Value} (h : u ∈ m.cells) : u.oneCell' = true := by
  unfold R.cells at h; simp only [List.mem_cons, List.not_mem_nil, or_false] at h
  rcases h with rfl | rfl | rfl | rfl | rfl | rfl <;> rfl
theorem flat_one_cell {ms : List R} {u : Value} (h : u ∈ flat ms) : u.oneCell' = true := by
  obtain ⟨m, _, hu⟩ := List.mem_flatMap.1 h; exact cell_one hu
theorem at_cells {w : World} {g o : Nat} {m : R} (h : At w g o m) : ∀ j u, m.cells[j]? = some u → w.cell? ⟨g, o + j, none⟩ = some u := by
  intro j u hj
  match j, hj with
  | 0, hj => simp [R.cells] at hj; subst hj; exact h.1
  | 1, hj => simp [R.cells] at hj; subst hj; exact h.2.1
  | 2, hj => simp [R.cells] at hj; subst hj; exact h.2.2.1
  | 3, hj => simp [R.cells] at hj; subst hj; exact h.2.2.2.1
  | 4, hj => simp [R.cells] at hj; subst hj; exact h.2.2.2.2.1
  | 5, hj => simp [R.cells] at hj; subst hj; exact h.2.2.2.2.2
  | n + 6, hj => simp [R.cells] at hj
theorem plain_add (b off k : Nat) : (⟨b, off, none⟩ : Addr).add k = ⟨b, off + k, none⟩ := by unfold Addr.add; split <;> simp_all
/-- A list that is read, cell by cell. -/
theorem RM.cells {w : World} {g off : Nat} {ms : List R} (h : RM w (some ⟨g, off, none⟩) ms) : ∀ j u, (flat ms)[j]? = some u → w.cell? ((⟨g, off, none⟩ : Addr).add j) = some u := by
  intro j u hj
  have hl : j < ms.length * 6 := by
    rw [← flat_len]; exact (List.getElem?_eq_some_iff.1 hj).1
  have hi : j / 6 < ms.length := by omega
  have e : j / 6 * 6 + j % 6 = j := by omega
  rw [← e, flat_get ms _ _ (by omega) hi] at hj
  rw [plain_add, ← e, ← Nat.add_assoc]
  exact at_cells (h.at hi) _ _ hj
/-- A row of one's own that holds a list. -/
theorem at_own {w : World} {base g n cap : Nat} {ms : List R} (hn : n = ms.length) (h : w.ownsRow base 140 6 (.slice (some ⟨g, 0, none⟩) n cap) n (flat ms)) (i : Nat) (hi : i < ms.length) : At w g (i * 6) (ms.getD i R.zero) := by
  have hc : ∀ j, j < 6 → ∀ u, (ms.getD i R.zero).cells[j]? = some u → w.cell? ⟨g, i * 6 + j, none⟩ = some u := by
    intro j hj u hu
    have := h.cells (g := g) rfl (i * 6 + j) u (by rw [flat_get ms i j hj hi]; exact hu)
    rw [plain_add, Nat.zero_add] at this
    exact this
  exact ⟨hc 0 (by omega) _ rfl, hc 1 (by omega) _ rfl, hc 2 (by omega) _ rfl, hc 3 (by omega) _ rfl, hc 4 (by omega) _ rfl, hc 5 (by omega) _ rfl⟩

/-- One laid at an address. -/
def put (w : World) (g o : Nat) (m : R) : World := (((((w.setCell ⟨g, o, none⟩ (.int .i64 m.ad)).setCell ⟨g, o + 1, none⟩ (.int .i64 m.hd)).setCell ⟨g, o + 2, none⟩ (.int .i64 m.sy)).setCell ⟨g, o + 3, none⟩ (.int .i64 m.ci)).setCell ⟨g, o + 4, none⟩ (.int .i64 m.co)).setCell ⟨g, o + 5, none⟩ (.int .i64 m.wl)
theorem put_below {B : Nat} {w0 w : World} {g o : Nat} {m : R} (h : Below B w0 w) (hg : B ≤ g) : Below B w0 (put w g o m) := by
  unfold put
  exact (((((h.setCell (p := ⟨g, o, none⟩) hg _).setCell (p := ⟨g, o + 1, none⟩) hg _).setCell (p := ⟨g, o + 2, none⟩) hg _).setCell (p := ⟨g, o + 3, none⟩) hg _).setCell (p := ⟨g, o + 4, none⟩) hg _).setCell (p := ⟨g, o + 5, none⟩) hg _
theorem put_size (w : World) (g o : Nat) (m : R) : (put w g o m).heap.size = w.heap.size := by simp [put, World.setCell]
theorem put_frozen (w : World) (g o : Nat) (m : R) (a : Addr) : (put w g o m).frozen? a = w.frozen? a := by
  unfold put; rw [World.frozen?_setCell, World.frozen?_setCell, World.frozen?_setCell, World.frozen?_setCell, World.frozen?_setCell, World.frozen?_setCell]
theorem put_far (w : World) (g o : Nat) (m : R) {b q : Nat} (h : b ≠ g ∨ q < o ∨ o + 6 ≤ q) : (put w g o m).cell? ⟨b, q, none⟩ = w.cell? ⟨b, q, none⟩ := by
  unfold put
  rw [World.cell?_setCell_other _ _ _ _ (by intro e; cases e <;> omega), World.cell?_setCell_other _ _ _ _ (by intro e; cases e <;> omega), World.cell?_setCell_other _ _ _ _ (by intro e; cases e <;> omega), World.cell?_setCell_other _ _ _ _ (by intro e; cases e <;> omega), World.cell?_setCell_other _ _ _ _ (by intro e; cases e <;> omega), World.cell?_setCell_other _ _ _ _ (by intro e; cases e <;> omega)]
theorem put_at (w : World) (g o : Nat) (m : R) (h : ∀ k, k < 6 → (w.cell? ⟨g, o + k, none⟩).isSome = true) : At (put w g o m) g o m := by
  obtain ⟨v0, h0⟩ := Option.isSome_iff_exists.1 (h 0 (by omega))
  obtain ⟨v1, h1⟩ := Option.isSome_iff_exists.1 (h 1 (by omega))
  obtain ⟨v2, h2⟩ := Option.isSome_iff_exists.1 (h 2 (by omega))
  obtain ⟨v3, h3⟩ := Option.isSome_iff_exists.1 (h 3 (by omega))
  obtain ⟨v4, h4⟩ := Option.isSome_iff_exists.1 (h 4 (by omega))
  obtain ⟨v5, h5⟩ := Option.isSome_iff_exists.1 (h 5 (by omega))
  rw [Nat.add_zero] at h0
  have n : ∀ {w : World} {v : Value} {a b : Nat}, a ≠ b → (w.setCell ⟨g, a, none⟩ v).cell? ⟨g, b, none⟩ = w.cell? ⟨g, b, none⟩ := fun {w v a b} e => World.cell?_setCell_other _ _ _ _ (by intro h; cases h; exact e rfl)
  unfold put
  refine ⟨?_, ?_, ?_, ?_, ?_, ?_⟩
  · rw [n (by omega), n (by omega), n (by omega), n (by omega), n (by omega), World.cell?_setCell_same _ _ _ h0]
  · rw [n (by omega), n (by omega), n (by omega), n (by omega), World.cell?_setCell_same _ _ _ ((n (by omega)).trans h1)]
  · rw [n (by omega), n (by omega), n (by omega), World.cell?_setCell_same _ _ _ ((n (by omega)).trans ((n (by omega)).trans h2))]
  · rw [n (by omega), n (by omega), World.cell?_setCell_same _ _ _ ((n (by omega)).trans ((n (by omega)).trans ((n (by omega)).trans h3)))]
  · rw [n (by omega), World.cell?_setCell_same _ _ _ ((n (by omega)).trans ((n (by omega)).trans ((n (by omega)).trans ((n (by omega)).trans h4))))]
  · rw [World.cell?_setCell_same _ _ _ ((n (by omega)).trans ((n (by omega)).trans ((n (by omega)).trans ((n (by omega)).trans ((n (by omega)).trans h5)))))]
theorem put_some (w : World) (g o : Nat) (m : R) (b q : Nat) (h : (w.cell? ⟨b, q, none⟩).isSome = true) : ((put w g o m).cell? ⟨b, q, none⟩).isSome = true := by
  obtain ⟨v, y0⟩ := Option.isSome_iff_exists.1 h
  unfold put
  obtain ⟨v1, y1⟩ := cell?_setCell_some (p := ⟨g, o, none⟩) (x := .int .i64 m.ad) y0
  obtain ⟨v2, y2⟩ := cell?_setCell_some (p := ⟨g, o + 1, none⟩) (x := .int .i64 m.hd) y1
  obtain ⟨v3, y3⟩ := cell?_setCell_some (p := ⟨g, o + 2, none⟩) (x := .int .i64 m.sy) y2
  obtain ⟨v4, y4⟩ := cell?_setCell_some (p := ⟨g, o + 3, none⟩) (x := .int .i64 m.ci) y3
  obtain ⟨v5, y5⟩ := cell?_setCell_some (p := ⟨g, o + 4, none⟩) (x := .int .i64 m.co) y4
  obtain ⟨v6, y6⟩ := cell?_setCell_some (p := ⟨g, o + 5, none⟩) (x := .int .i64 m.wl) y5
  rw [y6]; rfl
/-- The first j stand at the head of block g, whose n times 6 cells may be written. -/
def Upto (w : World) (g n j : Nat) (ms : List R) : Prop :=
  (∀ i, i < j → At w g (i * 6) (ms.getD i R.zero)) ∧ ∀ i, i < n * 6 → (w.cell? ⟨g, i, none⟩).isSome = true ∧ w.frozen? ⟨g, i, none⟩ = false
theorem Upto.step {w : World} {g n j : Nat} {ms : List R} (h : Upto w g n j ms) (hj : j < n) : Upto (put w g (j * 6) (ms.getD j R.zero)) g n (j + 1) ms := by
  refine ⟨fun i hi => ?_, fun i hi => ⟨put_some _ _ _ _ _ _ (h.2 i hi).1, by rw [put_frozen]; exact (h.2 i hi).2⟩⟩
  by_cases e : i = j
  · subst e
    exact put_at _ _ _ _ (fun k hk => (h.2 _ (by omega)).1)
  · obtain ⟨h0, h1, h2, h3, h4, h5⟩ := h.1 i (by omega)
    exact ⟨(put_far _ _ _ _ (by omega)).trans h0, (put_far _ _ _ _ (by omega)).trans h1, (put_far _ _ _ _ (by omega)).trans h2, (put_far _ _ _ _ (by omega)).trans h3, (put_far _ _ _ _ (by omega)).trans h4, (put_far _ _ _ _ (by omega)).trans h5⟩
theorem Upto.below {w w' : World} {g n j : Nat} {ms : List R} (h : Upto w g n j ms) (hb : Below w.heap.size w w') (hg : g < w.heap.size) : Upto w' g n j ms :=
  ⟨fun i hi => (h.1 i hi).below hb, fun i hi => ⟨by rw [hb.cell (p := ⟨g, i, none⟩) hg]; exact (h.2 i hi).1, by rw [hb.frozen (p := ⟨g, i, none⟩) hg]; exact (h.2 i hi).2⟩⟩
theorem Upto.of_block {w w' : World} {g n j : Nat} {ms : List R} (h : Upto w g n j ms) (hb : w'.heap[g]? = w.heap[g]?) : Upto w' g n j ms := by
  have c : ∀ q, w'.cell? ⟨g, q, none⟩ = w.cell? ⟨g, q, none⟩ := fun q => World.cell?_of_block (a := ⟨g, q, none⟩) hb
  have f : ∀ q, w'.frozen? ⟨g, q, none⟩ = w.frozen? ⟨g, q, none⟩ := fun q => World.frozen?_of_block (a := ⟨g, q, none⟩) hb
  refine ⟨fun i hi => ?_, fun i hi => ⟨by rw [c]; exact (h.2 i hi).1, by rw [f]; exact (h.2 i hi).2⟩⟩
  obtain ⟨h0, h1, h2, h3, h4, h5⟩ := h.1 i hi
  exact ⟨(c _).trans h0, (c _).trans h1, (c _).trans h2, (c _).trans h3, (c _).trans h4, (c _).trans h5⟩
theorem rm_of {w : World} {g n : Nat} {ms : List R} (h : Upto w g n ms.length ms) : RM w (some ⟨g, 0, none⟩) ms := .inr ⟨g, 0, rfl, fun i hi => by rw [Nat.zero_add]; exact h.1 i hi⟩
theorem upto_own {w : World} {base g cap n : Nat} {ms : List R} (hn : n = ms.length) (h : w.ownsRow base 140 6 (.slice (some ⟨g, 0, none⟩) n cap) n (flat ms)) : Upto w g n n ms := by
  subst hn
  refine ⟨fun i hi => at_own rfl h i hi, fun i hi => ?_⟩
  obtain ⟨_, ⟨e, _⟩ | ⟨g', cap', cur, e, _, hg, h1, _, h3, _⟩⟩ := h
  · cases e
  · cases e
    have hlt : i < cur.size := by rw [h3]; exact Nat.lt_of_lt_of_le hi (Nat.mul_le_mul_right _ h1)
    refine ⟨?_, ?_⟩
    · simp [World.cell?, hg, hlt]
    · simp [World.frozen?, hg]
/-- A list between two bounds of the heap, in memory that may be written. -/
def Lst (W : World) (a : Option Addr) (ms : List R) (lo hi : Nat) : Prop := ms = [] ∨ ∃ g, a = some ⟨g, 0, none⟩ ∧ lo ≤ g ∧ g < hi ∧ g < W.heap.size ∧ Upto W g ms.length ms.length ms
theorem Lst.rm {W : World} {a : Option Addr} {ms : List R} {lo hi : Nat} (h : Lst W a ms lo hi) : RM W a ms := by
  rcases h with rfl | ⟨g, rfl, _, _, _, hu⟩
  · exact .inl rfl
  · exact rm_of hu
theorem Lst.below {W W' : World} {a : Option Addr} {ms : List R} {lo hi : Nat} (h : Lst W a ms lo hi) (hb : Below W.heap.size W W') : Lst W' a ms lo hi := by
  rcases h with rfl | ⟨g, rfl, h1, h2, h3, hu⟩
  · exact .inl rfl
  · exact .inr ⟨g, rfl, h1, h2, Nat.lt_of_lt_of_le h3 hb.size, hu.below hb h3⟩
theorem Lst.mono {W : World} {a : Option Addr} {ms : List R} {lo hi lo' hi' : Nat} (h : Lst W a ms lo hi) (h1 : lo' ≤ lo) (h2 : hi ≤ hi') : Lst W a ms lo' hi' := by
  rcases h with rfl | ⟨g, rfl, h3, h4, h5, hu⟩
  · exact .inl rfl
  · exact .inr ⟨g, rfl, by omega, by omega, h5, hu⟩
theorem Lst.but {W W' : World} {a : Option Addr} {ms : List R} {lo hi : Nat} {p : Nat → Prop} (h : Lst W a ms lo hi) (hs : W.heap.size ≤ W'.heap.size) (hb : ∀ k, k < W.heap.size → p k → W'.heap[k]? = W.heap[k]?) (hp : ∀ k, lo ≤ k → k < hi → p k) : Lst W' a ms lo hi := by
  rcases h with rfl | ⟨g, rfl, h1, h2, h3, hu⟩
  · exact .inl rfl
  · exact .inr ⟨g, rfl, h1, h2, Nat.lt_of_lt_of_le h3 hs, hu.of_block (hb g h3 (hp g h1 h2))⟩
/-- The same of a value. -/
def LstV (W : World) (v : Value) (ms : List R) (lo hi : Nat) : Prop := ∃ a c, v = .slice a ms.length c ∧ Lst W a ms lo hi
theorem LstV.below {W W' : World} {v : Value} {ms : List R} {lo hi : Nat} (h : LstV W v ms lo hi) (hb : Below W.heap.size W W') : LstV W' v ms lo hi := by
  obtain ⟨a, c, e, hl⟩ := h; exact ⟨a, c, e, hl.below hb⟩
theorem LstV.mono {W : World} {v : Value} {ms : List R} {lo hi lo' hi' : Nat} (h : LstV W v ms lo hi) (h1 : lo' ≤ lo) (h2 : hi ≤ hi') : LstV W v ms lo' hi' := by
  obtain ⟨a, c, e, hl⟩ := h; exact ⟨a, c, e, hl.mono h1 h2⟩
theorem lstV_nil (W : World) (a : Option Addr) (c lo hi : Nat) : LstV W (.slice a 0 c) [] lo hi := ⟨a, c, rfl, .inl rfl⟩
/-- A row of one's own as such a list. -/
theorem lst_own {w : World} {base n : Nat} {v : Value} {ms : List R} (hn : n = ms.length) (h : w.ownsRow base 140 6 v n (flat ms)) : LstV w v ms base w.heap.size := by
  unfold LstV
  have h' := h
  obtain ⟨hl, ⟨rfl, h0⟩ | ⟨g, cap, cur, rfl, hb, hg, _, _, _, _⟩⟩ := h
  · exact ⟨none, 0, by rw [← hn, h0], .inl (List.eq_nil_of_length_eq_zero (by omega))⟩
  · have hlt : g < w.heap.size := by
      rcases Nat.lt_or_ge g w.heap.size with h | h
      · exact h
      · rw [Array.getElem?_eq_none h] at hg; cases hg
    refine ⟨_, cap, by rw [hn], .inr ⟨g, rfl, hb, hlt, hlt, ?_⟩⟩
    have := upto_own hn h'
    rw [hn] at this; exact this

set_option maxHeartbeats 1000000 in
theorem szS (a : Option Addr) (n cap : Nat) (L : Int) (w : World) (hL : 0 ≤ L) (hL1 : L ≤ 1048576) (hm : n ≤ maxLen) :
    Calls Tryz.prog 30 #[.slice a n cap, .int .i64 L] w fun e w' => ∃ r : Int, e = .returned (.int .i64 r) ∧ w' = w ∧ (r < 0 ∨ (0 ≤ r ∧ r = L - n)) := by
  unfold maxLen at hm
  by_cases h0 : L - n < 0
  all_goals
    go_enter Tryz.func30, Tryz.ntmps30
    go_wp2
    go_ret
  · exact ⟨_, rfl, rfl, .inl (by omega)⟩
  · exact ⟨_, rfl, rfl, .inr ⟨by omega, rfl⟩⟩

theorem infoR : ∃ i, Tryz.prog.info? 140 = some i ∧ i.zero = some (Value.agg #[.int .i64 0, .int .i64 0, .int .i64 0, .int .i64 0, .int .i64 0, .int .i64 0]) ∧ i.size = 6 ∧ i.bytes = 48 := by
  have h : (Tryz.prog.info? 140).map (fun i => (i.zero, i.size, i.bytes)) = some (some (Value.agg #[.int .i64 0, .int .i64 0, .int .i64 0, .int .i64 0, .int .i64 0, .int .i64 0]), 6, 48) := by kernel_rfl
  obtain ⟨i, hi, he⟩ := Option.map_eq_some_iff.1 h
  simp only [Prod.mk.injEq] at he
  exact ⟨i, hi, he.1, he.2.1, he.2.2⟩

/-- append of a list to a row of one's own, as a walk meets it. -/
theorem wpList_apS {ops : Array Oper} {rest : List Oper} {o : Oper} {a : Act} {Q : Exit → Act → World → Prop} {w : World} {base : Nat} {v : Value} {xs : List R} (hown : w.ownsRow base 140 6 v xs.length (flat xs)) (g off m c : Nat) (ms : List R) (hm : ms.length = m) (hr : RM w (some ⟨g, off, none⟩) ms) (hlen : xs.length + ms.length ≤ 4194304) (hbase : base ≤ w.heap.size)
    (hgd : o.guard = none) (s x : Operand) (ho : o.op = .call { callee := .builtin .append, args := #[s, x], argTypes := #[31, 31] }) (hs : a.eval s = v) (hx : a.eval x = .slice (some ⟨g, off, none⟩) m c)
    (h : ∀ v' w', w'.ownsRow base 140 6 v' (xs ++ ms).length (flat (xs ++ ms)) → w.grownBy w' v.ownBlock → wpList Tryz.prog ops Q rest (a.put o.dst v') w') : wpList Tryz.prog ops Q (o :: rest) a w := by
  subst hm
  obtain ⟨i0, hi, hz0, hz1, hz2⟩ := infoR
  refine wpList_append_own w hgd s x _ ho base 140 i0 _ 6 48 Tryz.underlying31 hi hz0 hz1 hz2 rfl (by decide) v xs.length (flat xs) hs hown ⟨g, off, none⟩ ms.length c (flat ms) hx (flat_len ms) hr.cells (fun u hu => flat_one_cell hu) (by unfold maxLen; omega) (by omega) hbase (fun v' w' h1 h2 _ => ?_)
  refine h v' w' ?_ h2
  rw [List.length_append, flat_append]; exact h1
/-- The same, inside a region that draws its order. -/
theorem wp_apS {o : Oper} {a : Act} {K : Act → World → Prop} {Q : Exit → Act → World → Prop} {w : World} {base d : Nat} {v : Value} {xs : List R} (hown : w.ownsRow base 140 6 v xs.length (flat xs)) (g off m c : Nat) (ms : List R) (hm : ms.length = m) (hr : RM w (some ⟨g, off, none⟩) ms) (hlen : xs.length + ms.length ≤ 4194304) (hbase : base ≤ w.heap.size)
    (s x : Operand) (ho : o.op = .call { callee := .builtin .append, args := #[s, x], argTypes := #[31, 31] }) (hd : o.dst = some d) (hs : a.eval s = v) (hx : a.eval x = .slice (some ⟨g, off, none⟩) m c)
    (h : ∀ v' w', w'.ownsRow base 140 6 v' (xs ++ ms).length (flat (xs ++ ms)) → w.grownBy w' v.ownBlock → K (a.put (some d) v') w') : o.wp Tryz.prog a w K Q := by
  subst hm
  obtain ⟨i0, hi, hz0, hz1, hz2⟩ := infoR
  refine wp_append_own w s x _ ho base 140 i0 _ 6 48 Tryz.underlying31 hi hz0 hz1 hz2 rfl (by decide) v xs.length (flat xs) hs hown ⟨g, off, none⟩ ms.length c (flat ms) hx (flat_len ms) hr.cells (fun u hu => flat_one_cell hu) (by unfold maxLen; omega) (by omega) hbase (fun v' w' h1 h2 _ => ?_)
  rw [hd]
  refine h v' w' ?_ h2
  rw [List.length_append, flat_append]; exact h1
theorem rm_new (w : World) (m : R) : RM (w.alloc (.cells #[.int .i64 m.ad, .int .i64 m.hd, .int .i64 m.sy, .int .i64 m.ci, .int .i64 m.co, .int .i64 m.wl] 140)) (some ⟨w.heap.size, 0, none⟩) [m] := by
  refine .inr ⟨_, _, rfl, fun i hi => ?_⟩
  obtain rfl : i = 0 := by simp at hi; omega
  refine ⟨?_, ?_, ?_, ?_, ?_, ?_⟩ <;> simp [World.cell?_alloc_new]
theorem own_empty (w : World) (base : Nat) (hb : base ≤ w.heap.size) : (w.alloc (.cells #[] 140)).ownsRow base 140 6 (.slice (some ⟨w.heap.size, 0, none⟩) 0 0) ([] : List R).length (flat []) := World.ownsRow_made w #[] 0 hb (Nat.zero_le _) (by simp)
theorem own_nil (w : World) (base : Nat) : w.ownsRow base 140 6 (.slice none 0 0) ([] : List R).length (flat []) := World.ownsRow_nil w base _ _
theorem below_own {B : Nat} {w0 w w' : World} {base : Nat} {v : Value} {n : Nat} {xs : List Value} (h : Below B w0 w) (ho : w.ownsRow base 140 6 v n xs) (hg : w.grownBy w' v.ownBlock) (hb : B ≤ base) (hB : B ≤ w.heap.size) : Below B w0 w' :=
  h.grown hg hB (fun k hk => Nat.le_trans hb (ho.lt k hk).1)

set_option maxHeartbeats 1000000 in
theorem toR (ad : Int) (hd : Int) (sy : Int) (ci : Int) (co : Int) (wl : Int) (w : World) :
    Calls Tryz.prog 107 #[.agg #[.int .i64 ad, .int .i64 hd, .int .i64 sy, .int .i64 ci, .int .i64 co, .int .i64 wl]] w fun e w' => e = .returned (Value.agg #[.int .i64 ad, .int .i64 hd, .int .i64 sy, .int .i64 ci, .int .i64 co, .int .i64 wl]) ∧ Below w.heap.size w w' := by
  go_enter Tryz.func107, Tryz.ntmps107
  go_wp2
  refine bodyPost_ret (v := .agg #[.int .i64 ad, .int .i64 hd, .int .i64 sy, .int .i64 ci, .int .i64 co, .int .i64 wl]) (by simp [results, Tryz.results107, go_sem]) rfl ⟨rfl, ?_⟩
  repeat (first | exact Below.refl _ _ | refine Below.setCell ?_ (by simp <;> omega) _ | refine Below.alloc ?_ (by simp <;> omega) _)

set_option maxHeartbeats 2000000 in
theorem toS (a : Option Addr) (ms : List R) (cap : Nat) (w : World) (hm : ms.length ≤ 1048576) (hr : RM w a ms) :
    Calls Tryz.prog 37 #[.slice a ms.length cap] w fun e w' => ∃ g, e = .returned (.slice (some ⟨g, 0, none⟩) ms.length ms.length) ∧ Below w.heap.size w w' ∧ w.heap.size ≤ g ∧ g < w'.heap.size ∧ Upto w' g ms.length ms.length ms := by
  obtain ⟨i0, hi, hz0, hz1, hz2⟩ := infoR
  have hmk := run_make (P := Tryz.prog) w 31 140 i0 _ Tryz.underlying31 hi hz0 .i64 .i64 (ms.length : Int) (ms.length : Int) (by omega) (by omega) (by rw [hz2]; omega) (by omega)
  have HR := hide hr
  clear hr
  generalize hN : ms.length = n at *
  have HN := hide hN
  clear hN
  rw [Int.toNat_natCast, hz1] at hmk
  have hcs : (madeCells (Value.agg #[.int .i64 0, .int .i64 0, .int .i64 0, .int .i64 0, .int .i64 0, .int .i64 0]).cells (n * 6)).size = n * 6 := size_madeCells _ _
  generalize madeCells (Value.agg #[.int .i64 0, .int .i64 0, .int .i64 0, .int .i64 0, .int .i64 0, .int .i64 0]).cells (n * 6) = cs at *
  have hup0 : Upto (w.alloc (.cells cs 140)) w.heap.size n 0 ms := by
    refine ⟨fun i hi => by omega, fun i hi => ⟨?_, by simp⟩⟩
    rw [World.cell?_alloc_new, Array.getElem?_eq_getElem (by omega)]; rfl
  have HU := hide hup0
  clear hup0 hcs hi hz0 hz1 hz2
  go_enter Tryz.func37, Tryz.ntmps37
  go_wp2
  go_loopw [4] (fun i wr => ∃ j : Nat, j ≤ n ∧ i = .int .i64 j ∧ Hid (w.heap.size < wr.heap.size) ∧ Hid (Below w.heap.size w wr) ∧ Hid (Upto wr w.heap.size n j ms)) (fun i _ => n - (intOf i).toNat)
  case atStart => exact ⟨0, by omega, rfl, hide (by simp), hide ((Below.refl _ _).alloc (Nat.le_refl _) _), HU⟩
  case round =>
    obtain ⟨j, hj, rfl, hsz, hb, hu⟩ := hrel
    by_cases hlt : (j : Int) < (n : Int)
    · have k0 : (0 : Int) ≤ (j : Int) := by omega
      rcases (unhide HR).below (unhide hb) with e0 | ⟨g, off, rfl, hc⟩
      · exfalso
        have := unhide HN
        rw [e0] at this
        simp at this
        omega
      have hlen : j < ms.length := by rw [unhide HN]; omega
      obtain ⟨c0, c1, c2, c3, c4, c5⟩ := hc j hlen
      have hstep : Hid (∀ w1, Below wr.heap.size wr w1 → Upto (put w1 w.heap.size (j * 6) (ms.getD j R.zero)) w.heap.size n (j + 1) ms) := fun w1 h1 => ((unhide hu).below h1 (unhide hsz)).step (by omega)
      have hsome : Hid (∀ w1, Below wr.heap.size wr w1 → ∀ k, k < 6 → (w1.cell? ⟨w.heap.size, j * 6 + k, none⟩).isSome = true ∧ w1.frozen? ⟨w.heap.size, j * 6 + k, none⟩ = false) := fun w1 h1 k hk => ((unhide hu).below h1 (unhide hsz)).2 (j * 6 + k) (by omega)
      generalize ms.getD j R.zero = m at *
      obtain ⟨ad, hd, sy, ci, co, wl⟩ := m
      dsimp only at c0 c1 c2 c3 c4 c5
      clear hc
      go_wp2_with fail
      refine (toR ad hd sy ci co wl _).mono ?_
      rintro e w1 ⟨rfl, b1⟩
      clear c0 c1 c2 c3 c4 c5
      obtain ⟨v0, x0⟩ := Option.isSome_iff_exists.1 (unhide hsome w1 b1 0 (by omega)).1
      obtain ⟨v1, x1⟩ := Option.isSome_iff_exists.1 (unhide hsome w1 b1 1 (by omega)).1
      obtain ⟨v2, x2⟩ := Option.isSome_iff_exists.1 (unhide hsome w1 b1 2 (by omega)).1
      obtain ⟨v3, x3⟩ := Option.isSome_iff_exists.1 (unhide hsome w1 b1 3 (by omega)).1
      obtain ⟨v4, x4⟩ := Option.isSome_iff_exists.1 (unhide hsome w1 b1 4 (by omega)).1
      obtain ⟨v5, x5⟩ := Option.isSome_iff_exists.1 (unhide hsome w1 b1 5 (by omega)).1
      have y0 := (unhide hsome w1 b1 0 (by omega)).2
      have y1 := (unhide hsome w1 b1 1 (by omega)).2
      have y2 := (unhide hsome w1 b1 2 (by omega)).2
      have y3 := (unhide hsome w1 b1 3 (by omega)).2
      have y4 := (unhide hsome w1 b1 4 (by omega)).2
      have y5 := (unhide hsome w1 b1 5 (by omega)).2
      rw [Nat.add_zero] at x0 y0
      have hs1 := hide (unhide hstep w1 b1)
      have hb1 := hide ((unhide hb).trans (b1.mono (unhide hb).size))
      have hz1 := hide (Nat.lt_of_lt_of_le (unhide hsz) b1.size)
      clear hsome hstep b1
      go_wp2_with fail
      exact ⟨⟨j + 1, by omega, by go_num, hide (Nat.lt_of_lt_of_le (unhide hz1) (Nat.le_of_eq (put_size w1 w.heap.size (j * 6) ⟨ad, hd, sy, ci, co, wl⟩).symm)), hide (put_below (m := ⟨ad, hd, sy, ci, co, wl⟩) (unhide hb1) (Nat.le_refl _)), hs1⟩, by simp [intOf]; omega⟩
    · obtain rfl : j = n := by omega
      go_wp2
      go_ret
      exact ⟨w.heap.size, rfl, unhide hb, Nat.le_refl _, unhide hsz, unhide hu⟩

set_option maxHeartbeats 1000000 in
theorem eqR (ad : Int) (hd : Int) (sy : Int) (ci : Int) (co : Int) (wl : Int) (w : World) :
    Calls Tryz.prog 139 #[.agg #[.int .i64 ad, .int .i64 hd, .int .i64 sy, .int .i64 ci, .int .i64 co, .int .i64 wl], .agg #[.int .i64 ad, .int .i64 hd, .int .i64 sy, .int .i64 ci, .int .i64 co, .int .i64 wl]] w
      fun e w' => e = .returned (.bool true) ∧ Below w.heap.size w w' := by
  go_enter Tryz.func139, Tryz.ntmps139
  go_wp2
  go_ret
  repeat (first | exact ⟨rfl, Below.refl _ _⟩ | refine ⟨rfl, ?_⟩ | exact Below.refl _ _ | refine Below.alloc ?_ (by simp <;> omega) _)

theorem sAt {w : World} {g g' o o' : Nat} {ad hd sy ci co wl : Int}  (h : At w g o ⟨ad, hd, sy, ci, co, wl⟩) (h' : At w g' o' ⟨ad, hd, sy, ci, co, wl⟩) :
    (At w g o ⟨ad, hd, sy, ci, co, wl⟩ ∧ At w g' o' ⟨ad, hd, sy, ci, co, wl⟩) ∧ w.cell? ⟨g, o, none⟩ = some (.int .i64 ad) ∧ w.cell? ⟨g, o + 1, none⟩ = some (.int .i64 hd) ∧ w.cell? ⟨g, o + 2, none⟩ = some (.int .i64 sy) ∧ w.cell? ⟨g, o + 3, none⟩ = some (.int .i64 ci) ∧ w.cell? ⟨g, o + 4, none⟩ = some (.int .i64 co) ∧ w.cell? ⟨g, o + 5, none⟩ = some (.int .i64 wl) ∧ w.cell? ⟨g', o', none⟩ = some (.int .i64 ad) ∧ w.cell? ⟨g', o' + 1, none⟩ = some (.int .i64 hd) ∧ w.cell? ⟨g', o' + 2, none⟩ = some (.int .i64 sy) ∧ w.cell? ⟨g', o' + 3, none⟩ = some (.int .i64 ci) ∧ w.cell? ⟨g', o' + 4, none⟩ = some (.int .i64 co) ∧ w.cell? ⟨g', o' + 5, none⟩ = some (.int .i64 wl) := ⟨⟨h, h'⟩, h.1, h.2.1, h.2.2.1, h.2.2.2.1, h.2.2.2.2.1, h.2.2.2.2.2, h'⟩

set_option maxRecDepth 100000 in
set_option maxHeartbeats 4000000 in
theorem eqS (a b : Option Addr) (ms : List R) (ca cb : Nat) (w : World) (hm : ms.length ≤ 1048576) (hr : RM w a ms) (hr' : RM w b ms) :
    Calls Tryz.prog 51 #[.slice a ms.length ca, .slice b ms.length cb] w fun e w' => e = .returned (.bool true) ∧ Below w.heap.size w w' := by
  have HR := hide hr
  have HR' := hide hr'
  clear hr hr'
  generalize hN : ms.length = n at *
  have HN := hide hN
  clear hN
  go_enter Tryz.func51, Tryz.ntmps51
  go_wp2
  go_loopw [5] (fun i wr => ∃ j : Nat, j ≤ n ∧ i = .int .i64 j ∧ Hid (Below w.heap.size w wr)) (fun i _ => n - (intOf i).toNat)
  case atStart => exact ⟨0, by omega, rfl, hide (Below.refl _ _)⟩
  case round =>
    obtain ⟨j, hj, rfl, hbl⟩ := hrel
    by_cases hlt : (j : Int) < (n : Int)
    · have k0 : (0 : Int) ≤ (j : Int) := by omega
      have hlen : j < ms.length := by rw [unhide HN]; omega
      rcases (unhide HR).below (by exact (unhide hbl)) with e0 | ⟨g, off, rfl, hc⟩
      · exfalso; rw [e0] at hlen; simp at hlen
      rcases (unhide HR').below (by exact (unhide hbl)) with e0 | ⟨g', off', rfl, hc'⟩
      · exfalso; rw [e0] at hlen; simp at hlen
      have hA := hc j hlen
      have hA' := hc' j hlen
      clear hc hc'
      generalize ms.getD j R.zero = m at *
      obtain ⟨ad, hd, sy, ci, co, wl⟩ := m
      go_wp2_with fail
      go_region_held3 (fun w' => (At w' g (off + j * 6) ⟨ad, hd, sy, ci, co, wl⟩ ∧ At w' g' (off' + j * 6) ⟨ad, hd, sy, ci, co, wl⟩) ∧ w'.cell? ⟨g, off + j * 6, none⟩ = some (.int .i64 ad) ∧ w'.cell? ⟨g, off + j * 6 + 1, none⟩ = some (.int .i64 hd) ∧ w'.cell? ⟨g, off + j * 6 + 2, none⟩ = some (.int .i64 sy) ∧ w'.cell? ⟨g, off + j * 6 + 3, none⟩ = some (.int .i64 ci) ∧ w'.cell? ⟨g, off + j * 6 + 4, none⟩ = some (.int .i64 co) ∧ w'.cell? ⟨g, off + j * 6 + 5, none⟩ = some (.int .i64 wl) ∧ w'.cell? ⟨g', off' + j * 6, none⟩ = some (.int .i64 ad) ∧ w'.cell? ⟨g', off' + j * 6 + 1, none⟩ = some (.int .i64 hd) ∧ w'.cell? ⟨g', off' + j * 6 + 2, none⟩ = some (.int .i64 sy) ∧ w'.cell? ⟨g', off' + j * 6 + 3, none⟩ = some (.int .i64 ci) ∧ w'.cell? ⟨g', off' + j * 6 + 4, none⟩ = some (.int .i64 co) ∧ w'.cell? ⟨g', off' + j * 6 + 5, none⟩ = some (.int .i64 wl))
        ((go_split_ands; exact sAt (by first | with_reducible assumption | (with_reducible refine At.drew ?_; with_reducible assumption) | (exact At.below (by with_reducible assumption) b1)) (by first | with_reducible assumption | (with_reducible refine At.drew ?_; with_reducible assumption) | (exact At.below (by with_reducible assumption) b1))))
        (first | (go_at_call 139; refine (eqR ad hd sy ci co wl _).mono ?_; rintro e w1 ⟨rfl, b1⟩))
      have hb1 := hide ((unhide hbl).drew.trans (b1.mono (by show w.heap.size ≤ wr.heap.size; exact (unhide hbl).size)))
      go_wp2_with fail
      go_roundw
      case rel => exact ⟨j + 1, by omega, by go_num, hb1⟩
      case measure => simp [intOf]; omega
    · go_wp2
      go_ret
      exact ⟨rfl, unhide hbl⟩

/-- The marks from K on. -/
def markR (K : Int) : R := ⟨K, K + 1, K + 1 + 1, K + 1 + 1 + 1, K + 1 + 1 + 1 + 1, K + 1 + 1 + 1 + 1 + 1⟩
def marks (K : Int) (n : Nat) : List R := (List.range n).map fun t : Nat => markR (K + 6 * (t : Int))
theorem marks_len (K : Int) (n : Nat) : (marks K n).length = n := by simp [marks]
theorem marks_at (K : Int) (n t : Nat) (h : t < n) : (marks K n).getD t R.zero = markR (K + 6 * (t : Int)) := by
  unfold marks
  rw [List.getD_eq_getElem?_getD, List.getElem?_map, List.getElem?_range h]; rfl
theorem grown_set {w w1 : World} {g o : Nat} {v : Value} (h : w.grownBy w1 (some g)) : w.grownBy (w1.setCell ⟨g, o, none⟩ v) (some g) :=
  ⟨h.os, h.tape, h.output, by have := h.size; simp [World.setCell]; exact this, fun k hk hne => (Below.heap_setCell _ _ _ _ (fun e => hne (by rw [e]))).trans (h.block k hk hne)⟩
theorem grown_put {w w1 : World} {g o : Nat} {m : R} (h : w.grownBy w1 (some g)) : w.grownBy (put w1 g o m) (some g) := grown_set (grown_set (grown_set (grown_set (grown_set (grown_set (h))))))

set_option maxHeartbeats 4000000 in
theorem markS (g n c : Nat) (K : Int) (ms : List R) (w : World) (hK : 0 ≤ K) (hK1 : K ≤ 1073741824) (hn : n ≤ 1048576) (hg : g < w.heap.size) (hU : Upto w g n n ms) :
    Calls Tryz.prog 55 #[.slice (some ⟨g, 0, none⟩) n c, .int .i64 K] w fun e w' => e = .returned (.int .i64 (K + 6 * (n : Int))) ∧ w.grownBy w' (some g) ∧ Upto w' g n n (marks K n) := by
  have hU0 : Hid (Upto w g n 0 (marks K n)) := hide ⟨fun i hi => by omega, hU.2⟩
  clear hU
  go_enter Tryz.func55, Tryz.ntmps55
  go_wp2
  go_loopw [1, 5] (fun q i wr => ∃ j : Nat, j ≤ n ∧ i = .int .i64 j ∧ q = .int .i64 (K + 6 * (j : Int)) ∧ Hid (w.grownBy wr (some g)) ∧ Hid (Upto wr g n j (marks K n))) (fun _ i _ => n - (intOf i).toNat)
  case atStart => exact ⟨0, by omega, rfl, by simp, hide ⟨rfl, rfl, rfl, Nat.le_refl _, fun _ _ _ => rfl⟩, hU0⟩
  case round =>
    obtain ⟨j, hj, rfl, rfl, hgr, hu⟩ := hrel
    by_cases hlt : (j : Int) < (n : Int)
    · have k0 : (0 : Int) ≤ (j : Int) := by omega
      obtain ⟨v0, x0⟩ := Option.isSome_iff_exists.1 ((unhide hu).2 (j * 6) (by omega)).1
      obtain ⟨v1, x1⟩ := Option.isSome_iff_exists.1 ((unhide hu).2 (j * 6 + 1) (by omega)).1
      obtain ⟨v2, x2⟩ := Option.isSome_iff_exists.1 ((unhide hu).2 (j * 6 + 2) (by omega)).1
      obtain ⟨v3, x3⟩ := Option.isSome_iff_exists.1 ((unhide hu).2 (j * 6 + 3) (by omega)).1
      obtain ⟨v4, x4⟩ := Option.isSome_iff_exists.1 ((unhide hu).2 (j * 6 + 4) (by omega)).1
      obtain ⟨v5, x5⟩ := Option.isSome_iff_exists.1 ((unhide hu).2 (j * 6 + 5) (by omega)).1
      have y0 := ((unhide hu).2 (j * 6) (by omega)).2
      have y1 := ((unhide hu).2 (j * 6 + 1) (by omega)).2
      have y2 := ((unhide hu).2 (j * 6 + 2) (by omega)).2
      have y3 := ((unhide hu).2 (j * 6 + 3) (by omega)).2
      have y4 := ((unhide hu).2 (j * 6 + 4) (by omega)).2
      have y5 := ((unhide hu).2 (j * 6 + 5) (by omega)).2
      have hst := (unhide hu).step (by omega)
      rw [marks_at K n j (by omega)] at hst
      have HST := hide hst
      have HGN := hide (grown_put (o := j * 6) (m := markR (K + 6 * (j : Int))) (unhide hgr))
      clear hst
      generalize hq : K + 6 * (j : Int) = q at *
      have hq0 : 0 ≤ q := by omega
      have hq1 : q ≤ 1109393408 := by omega
      go_wp2_with fail
      exact ⟨⟨j + 1, by omega, by go_num, by go_num, HGN, HST⟩, by simp [intOf]; omega⟩
    · obtain rfl : j = n := by omega
      go_wp2
      go_ret
      exact ⟨rfl, unhide hgr, unhide hu⟩
theorem markS0 (a : Option Addr) (c : Nat) (K : Int) (w : World) :
    Calls Tryz.prog 55 #[.slice a 0 c, .int .i64 K] w fun e w' => e = .returned (.int .i64 K) ∧ w' = w := by
  go_enter Tryz.func55, Tryz.ntmps55
  go_wp2
  go_loop [1, 5] (fun q i => q = .int .i64 K ∧ i = .int .i64 0) (fun _ i => 0)
  case atStart => exact ⟨rfl, rfl⟩
  case round =>
    obtain ⟨rfl, rfl⟩ := hrel
    go_wp2
    go_ret
    exact ⟨rfl, rfl⟩
theorem heldS0 (a : Option Addr) (c : Nat) (K : Int) (w : World) :
    Calls Tryz.prog 59 #[.slice a 0 c, .int .i64 K] w fun e w' => e = .returned (.int .i64 K) ∧ w' = w := by
  go_enter Tryz.func59, Tryz.ntmps59
  go_wp2
  go_loop [1, 5] (fun q i => q = .int .i64 K ∧ i = .int .i64 0) (fun _ i => 0)
  case atStart => exact ⟨rfl, rfl⟩
  case round =>
    obtain ⟨rfl, rfl⟩ := hrel
    go_wp2
    go_ret
    exact ⟨rfl, rfl⟩

set_option maxHeartbeats 4000000 in
theorem heldS (g n c : Nat) (K : Int) (w : World) (hK : 0 ≤ K) (hK1 : K ≤ 1073741824) (hn : n ≤ 1048576) (hU : Upto w g n n (marks K n)) :
    Calls Tryz.prog 59 #[.slice (some ⟨g, 0, none⟩) n c, .int .i64 K] w fun e w' => e = .returned (.int .i64 (K + 6 * (n : Int))) ∧ w' = w := by
  have HU := hide hU
  clear hU
  go_enter Tryz.func59, Tryz.ntmps59
  go_wp2
  go_loopw [1, 5] (fun q i wr => wr = w ∧ ∃ j : Nat, j ≤ n ∧ i = .int .i64 j ∧ q = .int .i64 (K + 6 * (j : Int))) (fun _ i _ => n - (intOf i).toNat)
  case atStart => exact ⟨rfl, 0, by omega, rfl, by simp⟩
  case round =>
    obtain ⟨rfl, j, hj, rfl, rfl⟩ := hrel
    by_cases hlt : (j : Int) < (n : Int)
    · have k0 : (0 : Int) ≤ (j : Int) := by omega
      have hA := (unhide HU).1 j (by omega)
      rw [marks_at K n j (by omega)] at hA
      obtain ⟨c0, c1, c2, c3, c4, c5⟩ := hA
      unfold markR at c0 c1 c2 c3 c4 c5
      dsimp only at c0 c1 c2 c3 c4 c5
      generalize hq : K + 6 * (j : Int) = q at *
      have hq0 : 0 ≤ q := by omega
      have hq1 : q ≤ 1109393408 := by omega
      go_wp2_with fail
      go_roundw
      case rel => exact ⟨by first | trivial | rfl, j + 1, by omega, by go_num, by go_num⟩
      case measure => simp [intOf]; omega
    · obtain rfl : j = n := by omega
      go_wp2
      go_ret
      exact ⟨by first | trivial | rfl, rfl⟩
/-- Marks on a list that may be written, whether it has any or not. -/
theorem markF (a : Option Addr) (c lo hi : Nat) (K : Int) (ms : List R) (w : World) (hK : 0 ≤ K) (hK1 : K ≤ 1073741824) (hn : ms.length ≤ 1048576) (h : Lst w a ms lo hi) :
    Calls Tryz.prog 55 #[.slice a ms.length c, .int .i64 K] w fun e w' => e = .returned (.int .i64 (K + 6 * (ms.length : Int))) ∧ w.heap.size ≤ w'.heap.size ∧ Below (min lo w.heap.size) w w' ∧ Lst w' a (marks K ms.length) lo hi ∧ ∀ k, k < w.heap.size → (k < lo ∨ hi ≤ k) → w'.heap[k]? = w.heap[k]? := by
  have hnil : ∀ w', w' = w → w.heap.size ≤ w'.heap.size ∧ Below (min lo w.heap.size) w w' ∧ ∀ k, k < w.heap.size → (k < lo ∨ hi ≤ k) → w'.heap[k]? = w.heap[k]? := by
    rintro w' rfl
    exact ⟨Nat.le_refl _, Below.refl _ _, fun _ _ _ => rfl⟩
  by_cases h0 : ms.length = 0
  · obtain rfl : ms = [] := List.eq_nil_of_length_eq_zero h0
    refine (markS0 a c K w).mono ?_
    rintro e w' ⟨rfl, hw⟩
    obtain ⟨q1, q2, q3⟩ := hnil w' hw
    exact ⟨by simp, q1, q2, .inl rfl, q3⟩
  rcases h with rfl | ⟨g, rfl, h1, h2, h3, hu⟩
  · simp at h0
  refine (markS g ms.length c K ms w hK hK1 hn h3 hu).mono ?_
  rintro e w' ⟨rfl, gr, hu'⟩
  exact ⟨rfl, gr.size, ⟨gr.os, gr.tape, gr.output, gr.size, fun k hk => gr.block k (by omega) (fun e => by cases e; omega)⟩, .inr ⟨g, rfl, h1, h2, Nat.lt_of_lt_of_le h3 gr.size, by rw [marks_len]; exact hu'⟩, fun k hk hne => gr.block k hk (fun e => by cases e; omega)⟩
theorem heldF (a : Option Addr) (c n lo hi : Nat) (K : Int) (w : World) (hK : 0 ≤ K) (hK1 : K ≤ 1073741824) (hn : n ≤ 1048576) (h : Lst w a (marks K n) lo hi) :
    Calls Tryz.prog 59 #[.slice a n c, .int .i64 K] w fun e w' => e = .returned (.int .i64 (K + 6 * (n : Int))) ∧ w' = w := by
  by_cases h0 : n = 0
  · subst h0
    refine (heldS0 a c K w).mono ?_
    rintro e w' ⟨rfl, rfl⟩
    exact ⟨by simp, rfl⟩
  rcases h with h | ⟨g, rfl, _, _, _, hu⟩
  · have := marks_len K n; rw [h] at this; simp at this; omega
  · rw [marks_len] at hu
    exact heldS g n c K w hK hK1 hn hu
theorem cellsR : Tryz.prog.cellsOf 160 = 6 := by kernel_rfl
theorem cells_int : Tryz.prog.cellsOf 3 = 1 := by kernel_rfl
theorem listR {α : Type} {l : List α} (h : l.length = 6) : ∃ c0 c1 c2 c3 c4 c5, l = [c0, c1, c2, c3, c4, c5] := by
  match l, h with
  | [c0, c1, c2, c3, c4, c5], _ => exact ⟨c0, c1, c2, c3, c4, c5, rfl⟩
/-- The cells that read as one. -/
theorem open_one {H : Type} {enc : TypeId × Value → H} {W : World} {base n : Nat} {spare : Nat → Bool} {held : Bool} {c : List Value} {y : DataW H × List MemPlace} (hl : c.length = 6)
    (h : DataW.trod enc Tryz.prog W base spare held n 160 c = some y) : ∃ m : R, c = m.cells := by
  obtain ⟨c0, c1, c2, c3, c4, c5, rfl⟩ := listR hl
  obtain ⟨xs, n, _, _, _, hlen, hf⟩ := DataW.trod_struct Tryz.underlying160 h
  obtain ⟨x0, x1, x2, x3, x4, x5, rfl⟩ := listR hlen
  have k0 := hf 0 _ rfl
  have k1 := hf 1 _ rfl
  have k2 := hf 2 _ rfl
  have k3 := hf 3 _ rfl
  have k4 := hf 4 _ rfl
  have k5 := hf 5 _ rfl
  simp [cells_int] at k0 k1 k2 k3 k4 k5
  obtain ⟨a0, e0, _, _⟩ := DataW.trod_int Tryz.underlying3 k0
  obtain ⟨a1, e1, _, _⟩ := DataW.trod_int Tryz.underlying3 k1
  obtain ⟨a2, e2, _, _⟩ := DataW.trod_int Tryz.underlying3 k2
  obtain ⟨a3, e3, _, _⟩ := DataW.trod_int Tryz.underlying3 k3
  obtain ⟨a4, e4, _, _⟩ := DataW.trod_int Tryz.underlying3 k4
  obtain ⟨a5, e5, _, _⟩ := DataW.trod_int Tryz.underlying3 k5
  simp at e0 e1 e2 e3 e4 e5
  subst e0 e1 e2 e3 e4 e5
  exact ⟨⟨a0, a1, a2, a3, a4, a5⟩, rfl⟩
/-- A slice that came in: what it reads as. -/
theorem open_cell {H : Type} {enc : TypeId × Value → H} {W : World} {v : Value} {fuel : Nat} {y : DataW H × List MemPlace}
    (hf : DataW.trod enc Tryz.prog W 0 (fun _ => true) true fuel 22 [v] = some y) : ∃ a len cap, ∃ ms : List R, v = .slice a len cap ∧ ms.length = len ∧ len ≤ maxLen ∧ RM W a ms := by
  rcases Deep.open_slice Tryz.underlying22 hf with ⟨hcs, _⟩ | ⟨x, len, cap, m, n, D, Pl, hcs, _, hl, hm, hmm, _, hx⟩
  · simp only [List.cons.injEq, and_true] at hcs
    subst hcs
    exact ⟨none, 0, 0, [], rfl, rfl, Nat.zero_le _, .inl rfl⟩
  · simp only [List.cons.injEq, and_true] at hcs
    subst hcs
    simp at hmm
    subst hmm
    rw [cellsR] at hx
    by_cases h0 : len = 0
    · subst h0; exact ⟨_, _, _, [], rfl, rfl, Nat.zero_le _, .inl rfl⟩
    obtain ⟨b, off, spot⟩ := x
    have hsp : spot = none := by
      obtain ⟨cs', h1, _⟩ := hx 0 (by omega)
      obtain ⟨_, hlen, hc⟩ := World.cells?_some h1
      have h2 := hc 0 (by omega)
      rw [List.getElem?_eq_getElem (by omega)] at h2
      simpa [Addr.add] using World.cell?_spot h2
    subst hsp
    have hex : ∀ i, i < len → ∃ m : R, At W b (off + i * 6) m := by
      intro i hi
      obtain ⟨cs', h1, h2⟩ := hx i (by omega)
      obtain ⟨_, hlen, hc⟩ := World.cells?_some h1
      obtain ⟨m, rfl⟩ := open_one hlen h2
      have q0 := hc 0 (by omega)
      have q1 := hc 1 (by omega)
      have q2 := hc 2 (by omega)
      have q3 := hc 3 (by omega)
      have q4 := hc 4 (by omega)
      have q5 := hc 5 (by omega)
      rw [plain_add, plain_add] at q0 q1 q2 q3 q4 q5
      exact ⟨m, q0, q1, q2, q3, q4, q5⟩
    have hin : Inhabited R := ⟨R.zero⟩
    obtain ⟨V, hV⟩ := Deep.choose_lt hex
    refine ⟨_, _, _, (List.range len).map V, rfl, by simp, Nat.le_trans hl hm, .inr ⟨b, off, rfl, fun i hi => ?_⟩⟩
    have hi' : i < len := by simpa using hi
    have e : ((List.range len).map V).getD i R.zero = V i := by
      rw [List.getD_eq_getElem?_getD, List.getElem?_map, List.getElem?_range hi']; rfl
    rw [e]
    exact hV i hi'
end Lk
end Go.Proofs.YtffclijcfngeeaaGreat
namespace Go.Proofs.YtffclijcfngeeaaGreat
open Go.ChangeShapes Go.WideShapes Go.ChangeAt Go.RowKit
set_option linter.unusedVariables false
set_option maxRecDepth 100000
set_option linter.unusedSimpArgs false
attribute [local go_sem ↓] Go.wp_at_zero Go.wp_at_succ
namespace Ed
open W1
structure R where
  ad : Int
  mt : Int
def R.zero : R := ⟨0, 0⟩
/-- The value of one. -/
def R.value (m : R) : Value := .agg #[.int .i64 m.ad, .int .i64 m.mt]
/-- The cells of one, of a list of them. -/
def R.cells (m : R) : List Value := [.int .i64 m.ad, .int .i64 m.mt]
def flat (ms : List R) : List Value := ms.flatMap R.cells
/-- The cells of one that lies at an address. -/
def At (w : World) (g o : Nat) (m : R) : Prop :=
  w.cell? ⟨g, o, none⟩ = some (.int .i64 m.ad) ∧ w.cell? ⟨g, o + 1, none⟩ = some (.int .i64 m.mt)
/-- The slice at a reads as these. -/
def RM (w : World) (a : Option Addr) (ms : List R) : Prop :=
  ms = [] ∨ ∃ g off, a = some ⟨g, off, none⟩ ∧ ∀ i, i < ms.length → At w g (off + i * 2) (ms.getD i R.zero)
theorem At.below {w w' : World} {g o : Nat} {m : R} (h : At w g o m) (hb : Below w.heap.size w w') : At w' g o m := by
  have hg : g < w.heap.size := World.block_lt_of_cell? _ _ h.1
  obtain ⟨h0, h1⟩ := h
  refine ⟨?_, ?_⟩ <;> (rw [hb.cell hg]; assumption)
theorem At.drew {w : World} {g o : Nat} {m : R} (h : At w g o m) : At w.drew g o m := h
theorem RM.below {w w' : World} {a : Option Addr} {ms : List R} (h : RM w a ms) (hb : Below w.heap.size w w') : RM w' a ms := by
  rcases h with h | ⟨g, off, rfl, hc⟩
  · exact .inl h
  · exact .inr ⟨g, off, rfl, fun i hi => (hc i hi).below hb⟩
theorem RM.drew {w : World} {a : Option Addr} {ms : List R} (h : RM w a ms) : RM w.drew a ms := h
theorem RM.at {w : World} {g off : Nat} {ms : List R} {i : Nat} (h : RM w (some ⟨g, off, none⟩) ms) (hi : i < ms.length) : At w g (off + i * 2) (ms.getD i R.zero) := by
  rcases h with rfl | ⟨g', off', e, hc⟩
  · simp at hi
  · cases e; exact hc i hi
theorem RM.form {w : World} {a : Option Addr} {ms : List R} (h : RM w a ms) (h0 : 0 < ms.length) : ∃ g off, a = some ⟨g, off, none⟩ := by
  rcases h with rfl | ⟨g, off, e, _⟩
  · simp at h0
  · exact ⟨g, off, e⟩
theorem getD_mem {ms : List R} {j : Nat} (h : j < ms.length) : ms.getD j R.zero ∈ ms := by rw [List.getD_eq_getElem?_getD, List.getElem?_eq_getElem h]; exact List.getElem_mem h
theorem R.len (m : R) : m.cells.length = 2 := rfl
theorem flat_len (ms : List R) : (flat ms).length = ms.length * 2 := by
  unfold flat
  induction ms with
  | nil => rfl
  | cons m t ih => rw [List.flatMap_cons, List.length_append, ih, R.len, List.length_cons]; omega
theorem flat_append (xs ys : List R) : flat (xs ++ ys) = flat xs ++ flat ys := by unfold flat; rw [List.flatMap_append]
theorem flat_get : ∀ (ms : List R) (i j : Nat), j < 2 → i < ms.length → (flat ms)[i * 2 + j]? = (ms.getD i R.zero).cells[j]?
  | [], i, j, hj, hi => by simp at hi
  | m :: t, 0, j, hj, hi => by
    unfold flat
    rw [List.flatMap_cons, Nat.zero_mul, Nat.zero_add, List.getElem?_append_left (by rw [R.len]; exact hj)]; rfl
  | m :: t, i + 1, j, hj, hi => by
    have ih := flat_get t i j hj (by simpa using hi)
    unfold flat at ih ⊢
    rw [List.flatMap_cons, show (i + 1) * 2 + j = m.cells.length + (i * 2 + j) by rw [R.len]; omega, List.getElem?_append_right (by omega), Nat.add_sub_cancel_left, ih]; rfl
theorem cell_one {m : R} {u : Value} (h : u ∈ m.cells) : u.oneCell' = true := by
  unfold R.cells at h; simp only [List.mem_cons, List.not_mem_nil, or_false] at h
  rcases h with rfl | rfl <;> rfl
theorem flat_one_cell {ms : List R} {u : Value} (h : u ∈ flat ms) : u.oneCell' = true := by
  obtain ⟨m, _, hu⟩ := List.mem_flatMap.1 h; exact cell_one hu
theorem at_cells {w : World} {g o : Nat} {m : R} (h : At w g o m) : ∀ j u, m.cells[j]? = some u → w.cell? ⟨g, o + j, none⟩ = some u := by
  intro j u hj
  match j, hj with
  | 0, hj => simp [R.cells] at hj; subst hj; exact h.1
  | 1, hj => simp [R.cells] at hj; subst hj; exact h.2
  | n + 2, hj => simp [R.cells] at hj
theorem plain_add (b off k : Nat) : (⟨b, off, none⟩ : Addr).add k = ⟨b, off + k, none⟩ := by unfold Addr.add; split <;> simp_all
/-- A list that is read, cell by cell. -/
theorem RM.cells {w : World} {g off : Nat} {ms : List R} (h : RM w (some ⟨g, off, none⟩) ms) : ∀ j u, (flat ms)[j]? = some u → w.cell? ((⟨g, off, none⟩ : Addr).add j) = some u := by
  intro j u hj
  have hl : j < ms.length * 2 := by
    rw [← flat_len]; exact (List.getElem?_eq_some_iff.1 hj).1
  have hi : j / 2 < ms.length := by omega
  have e : j / 2 * 2 + j % 2 = j := by omega
  rw [← e, flat_get ms _ _ (by omega) hi] at hj
  rw [plain_add, ← e, ← Nat.add_assoc]
  exact at_cells (h.at hi) _ _ hj
/-- A row of one's own that holds a list. -/
theorem at_own {w : World} {base g n cap : Nat} {ms : List R} (hn : n = ms.length) (h : w.ownsRow base 165 2 (.slice (some ⟨g, 0, none⟩) n cap) n (flat ms)) (i : Nat) (hi : i < ms.length) : At w g (i * 2) (ms.getD i R.zero) := by
  have hc : ∀ j, j < 2 → ∀ u, (ms.getD i R.zero).cells[j]? = some u → w.cell? ⟨g, i * 2 + j, none⟩ = some u := by
    intro j hj u hu
    have := h.cells (g := g) rfl (i * 2 + j) u (by rw [flat_get ms i j hj hi]; exact hu)
    rw [plain_add, Nat.zero_add] at this
    exact this
  exact ⟨hc 0 (by omega) _ rfl, hc 1 (by omega) _ rfl⟩

/-- One laid at an address. -/
def put (w : World) (g o : Nat) (m : R) : World := (w.setCell ⟨g, o, none⟩ (.int .i64 m.ad)).setCell ⟨g, o + 1, none⟩ (.int .i64 m.mt)
theorem put_below {B : Nat} {w0 w : World} {g o : Nat} {m : R} (h : Below B w0 w) (hg : B ≤ g) : Below B w0 (put w g o m) := by
  unfold put
  exact (h.setCell (p := ⟨g, o, none⟩) hg _).setCell (p := ⟨g, o + 1, none⟩) hg _
theorem put_size (w : World) (g o : Nat) (m : R) : (put w g o m).heap.size = w.heap.size := by simp [put, World.setCell]
theorem put_frozen (w : World) (g o : Nat) (m : R) (a : Addr) : (put w g o m).frozen? a = w.frozen? a := by
  unfold put; rw [World.frozen?_setCell, World.frozen?_setCell]
theorem put_far (w : World) (g o : Nat) (m : R) {b q : Nat} (h : b ≠ g ∨ q < o ∨ o + 2 ≤ q) : (put w g o m).cell? ⟨b, q, none⟩ = w.cell? ⟨b, q, none⟩ := by
  unfold put
  rw [World.cell?_setCell_other _ _ _ _ (by intro e; cases e <;> omega), World.cell?_setCell_other _ _ _ _ (by intro e; cases e <;> omega)]
theorem put_at (w : World) (g o : Nat) (m : R) (h : ∀ k, k < 2 → (w.cell? ⟨g, o + k, none⟩).isSome = true) : At (put w g o m) g o m := by
  obtain ⟨v0, h0⟩ := Option.isSome_iff_exists.1 (h 0 (by omega))
  obtain ⟨v1, h1⟩ := Option.isSome_iff_exists.1 (h 1 (by omega))
  rw [Nat.add_zero] at h0
  have n : ∀ {w : World} {v : Value} {a b : Nat}, a ≠ b → (w.setCell ⟨g, a, none⟩ v).cell? ⟨g, b, none⟩ = w.cell? ⟨g, b, none⟩ := fun {w v a b} e => World.cell?_setCell_other _ _ _ _ (by intro h; cases h; exact e rfl)
  unfold put
  refine ⟨?_, ?_⟩
  · rw [n (by omega), World.cell?_setCell_same _ _ _ h0]
  · rw [World.cell?_setCell_same _ _ _ ((n (by omega)).trans h1)]
theorem put_some (w : World) (g o : Nat) (m : R) (b q : Nat) (h : (w.cell? ⟨b, q, none⟩).isSome = true) : ((put w g o m).cell? ⟨b, q, none⟩).isSome = true := by
  obtain ⟨v, y0⟩ := Option.isSome_iff_exists.1 h
  unfold put
  obtain ⟨v1, y1⟩ := cell?_setCell_some (p := ⟨g, o, none⟩) (x := .int .i64 m.ad) y0
  obtain ⟨v2, y2⟩ := cell?_setCell_some (p := ⟨g, o + 1, none⟩) (x := .int .i64 m.mt) y1
  rw [y2]; rfl
/-- The first j stand at the head of block g, whose n times 2 cells may be written. -/
def Upto (w : World) (g n j : Nat) (ms : List R) : Prop :=
  (∀ i, i < j → At w g (i * 2) (ms.getD i R.zero)) ∧ ∀ i, i < n * 2 → (w.cell? ⟨g, i, none⟩).isSome = true ∧ w.frozen? ⟨g, i, none⟩ = false
theorem Upto.step {w : World} {g n j : Nat} {ms : List R} (h : Upto w g n j ms) (hj : j < n) : Upto (put w g (j * 2) (ms.getD j R.zero)) g n (j + 1) ms := by
  refine ⟨fun i hi => ?_, fun i hi => ⟨put_some _ _ _ _ _ _ (h.2 i hi).1, by rw [put_frozen]; exact (h.2 i hi).2⟩⟩
  by_cases e : i = j
  · subst e
    exact put_at _ _ _ _ (fun k hk => (h.2 _ (by omega)).1)
  · obtain ⟨h0, h1⟩ := h.1 i (by omega)
    exact ⟨(put_far _ _ _ _ (by omega)).trans h0, (put_far _ _ _ _ (by omega)).trans h1⟩
theorem Upto.below {w w' : World} {g n j : Nat} {ms : List R} (h : Upto w g n j ms) (hb : Below w.heap.size w w') (hg : g < w.heap.size) : Upto w' g n j ms :=
  ⟨fun i hi => (h.1 i hi).below hb, fun i hi => ⟨by rw [hb.cell (p := ⟨g, i, none⟩) hg]; exact (h.2 i hi).1, by rw [hb.frozen (p := ⟨g, i, none⟩) hg]; exact (h.2 i hi).2⟩⟩
theorem Upto.of_block {w w' : World} {g n j : Nat} {ms : List R} (h : Upto w g n j ms) (hb : w'.heap[g]? = w.heap[g]?) : Upto w' g n j ms := by
  have c : ∀ q, w'.cell? ⟨g, q, none⟩ = w.cell? ⟨g, q, none⟩ := fun q => World.cell?_of_block (a := ⟨g, q, none⟩) hb
  have f : ∀ q, w'.frozen? ⟨g, q, none⟩ = w.frozen? ⟨g, q, none⟩ := fun q => World.frozen?_of_block (a := ⟨g, q, none⟩) hb
  refine ⟨fun i hi => ?_, fun i hi => ⟨by rw [c]; exact (h.2 i hi).1, by rw [f]; exact (h.2 i hi).2⟩⟩
  obtain ⟨h0, h1⟩ := h.1 i hi
  exact ⟨(c _).trans h0, (c _).trans h1⟩
theorem rm_of {w : World} {g n : Nat} {ms : List R} (h : Upto w g n ms.length ms) : RM w (some ⟨g, 0, none⟩) ms := .inr ⟨g, 0, rfl, fun i hi => by rw [Nat.zero_add]; exact h.1 i hi⟩
theorem upto_own {w : World} {base g cap n : Nat} {ms : List R} (hn : n = ms.length) (h : w.ownsRow base 165 2 (.slice (some ⟨g, 0, none⟩) n cap) n (flat ms)) : Upto w g n n ms := by
  subst hn
  refine ⟨fun i hi => at_own rfl h i hi, fun i hi => ?_⟩
  obtain ⟨_, ⟨e, _⟩ | ⟨g', cap', cur, e, _, hg, h1, _, h3, _⟩⟩ := h
  · cases e
  · cases e
    have hlt : i < cur.size := by rw [h3]; exact Nat.lt_of_lt_of_le hi (Nat.mul_le_mul_right _ h1)
    refine ⟨?_, ?_⟩
    · simp [World.cell?, hg, hlt]
    · simp [World.frozen?, hg]
/-- A list between two bounds of the heap, in memory that may be written. -/
def Lst (W : World) (a : Option Addr) (ms : List R) (lo hi : Nat) : Prop := ms = [] ∨ ∃ g, a = some ⟨g, 0, none⟩ ∧ lo ≤ g ∧ g < hi ∧ g < W.heap.size ∧ Upto W g ms.length ms.length ms
theorem Lst.rm {W : World} {a : Option Addr} {ms : List R} {lo hi : Nat} (h : Lst W a ms lo hi) : RM W a ms := by
  rcases h with rfl | ⟨g, rfl, _, _, _, hu⟩
  · exact .inl rfl
  · exact rm_of hu
theorem Lst.below {W W' : World} {a : Option Addr} {ms : List R} {lo hi : Nat} (h : Lst W a ms lo hi) (hb : Below W.heap.size W W') : Lst W' a ms lo hi := by
  rcases h with rfl | ⟨g, rfl, h1, h2, h3, hu⟩
  · exact .inl rfl
  · exact .inr ⟨g, rfl, h1, h2, Nat.lt_of_lt_of_le h3 hb.size, hu.below hb h3⟩
theorem Lst.mono {W : World} {a : Option Addr} {ms : List R} {lo hi lo' hi' : Nat} (h : Lst W a ms lo hi) (h1 : lo' ≤ lo) (h2 : hi ≤ hi') : Lst W a ms lo' hi' := by
  rcases h with rfl | ⟨g, rfl, h3, h4, h5, hu⟩
  · exact .inl rfl
  · exact .inr ⟨g, rfl, by omega, by omega, h5, hu⟩
theorem Lst.but {W W' : World} {a : Option Addr} {ms : List R} {lo hi : Nat} {p : Nat → Prop} (h : Lst W a ms lo hi) (hs : W.heap.size ≤ W'.heap.size) (hb : ∀ k, k < W.heap.size → p k → W'.heap[k]? = W.heap[k]?) (hp : ∀ k, lo ≤ k → k < hi → p k) : Lst W' a ms lo hi := by
  rcases h with rfl | ⟨g, rfl, h1, h2, h3, hu⟩
  · exact .inl rfl
  · exact .inr ⟨g, rfl, h1, h2, Nat.lt_of_lt_of_le h3 hs, hu.of_block (hb g h3 (hp g h1 h2))⟩
/-- The same of a value. -/
def LstV (W : World) (v : Value) (ms : List R) (lo hi : Nat) : Prop := ∃ a c, v = .slice a ms.length c ∧ Lst W a ms lo hi
theorem LstV.below {W W' : World} {v : Value} {ms : List R} {lo hi : Nat} (h : LstV W v ms lo hi) (hb : Below W.heap.size W W') : LstV W' v ms lo hi := by
  obtain ⟨a, c, e, hl⟩ := h; exact ⟨a, c, e, hl.below hb⟩
theorem LstV.mono {W : World} {v : Value} {ms : List R} {lo hi lo' hi' : Nat} (h : LstV W v ms lo hi) (h1 : lo' ≤ lo) (h2 : hi ≤ hi') : LstV W v ms lo' hi' := by
  obtain ⟨a, c, e, hl⟩ := h; exact ⟨a, c, e, hl.mono h1 h2⟩
theorem lstV_nil (W : World) (a : Option Addr) (c lo hi : Nat) : LstV W (.slice a 0 c) [] lo hi := ⟨a, c, rfl, .inl rfl⟩
/-- A row of one's own as such a list. -/
theorem lst_own {w : World} {base n : Nat} {v : Value} {ms : List R} (hn : n = ms.length) (h : w.ownsRow base 165 2 v n (flat ms)) : LstV w v ms base w.heap.size := by
  unfold LstV
  have h' := h
  obtain ⟨hl, ⟨rfl, h0⟩ | ⟨g, cap, cur, rfl, hb, hg, _, _, _, _⟩⟩ := h
  · exact ⟨none, 0, by rw [← hn, h0], .inl (List.eq_nil_of_length_eq_zero (by omega))⟩
  · have hlt : g < w.heap.size := by
      rcases Nat.lt_or_ge g w.heap.size with h | h
      · exact h
      · rw [Array.getElem?_eq_none h] at hg; cases hg
    refine ⟨_, cap, by rw [hn], .inr ⟨g, rfl, hb, hlt, hlt, ?_⟩⟩
    have := upto_own hn h'
    rw [hn] at this; exact this

set_option maxHeartbeats 1000000 in
theorem szS (a : Option Addr) (n cap : Nat) (L : Int) (w : World) (hL : 0 ≤ L) (hL1 : L ≤ 1048576) (hm : n ≤ maxLen) :
    Calls Tryz.prog 33 #[.slice a n cap, .int .i64 L] w fun e w' => ∃ r : Int, e = .returned (.int .i64 r) ∧ w' = w ∧ (r < 0 ∨ (0 ≤ r ∧ r = L - n)) := by
  unfold maxLen at hm
  by_cases h0 : L - n < 0
  all_goals
    go_enter Tryz.func33, Tryz.ntmps33
    go_wp2
    go_ret
  · exact ⟨_, rfl, rfl, .inl (by omega)⟩
  · exact ⟨_, rfl, rfl, .inr ⟨by omega, rfl⟩⟩

theorem infoR : ∃ i, Tryz.prog.info? 165 = some i ∧ i.zero = some (Value.agg #[.int .i64 0, .int .i64 0]) ∧ i.size = 2 ∧ i.bytes = 16 := by
  have h : (Tryz.prog.info? 165).map (fun i => (i.zero, i.size, i.bytes)) = some (some (Value.agg #[.int .i64 0, .int .i64 0]), 2, 16) := by kernel_rfl
  obtain ⟨i, hi, he⟩ := Option.map_eq_some_iff.1 h
  simp only [Prod.mk.injEq] at he
  exact ⟨i, hi, he.1, he.2.1, he.2.2⟩

/-- append of a list to a row of one's own, as a walk meets it. -/
theorem wpList_apS {ops : Array Oper} {rest : List Oper} {o : Oper} {a : Act} {Q : Exit → Act → World → Prop} {w : World} {base : Nat} {v : Value} {xs : List R} (hown : w.ownsRow base 165 2 v xs.length (flat xs)) (g off m c : Nat) (ms : List R) (hm : ms.length = m) (hr : RM w (some ⟨g, off, none⟩) ms) (hlen : xs.length + ms.length ≤ 4194304) (hbase : base ≤ w.heap.size)
    (hgd : o.guard = none) (s x : Operand) (ho : o.op = .call { callee := .builtin .append, args := #[s, x], argTypes := #[36, 36] }) (hs : a.eval s = v) (hx : a.eval x = .slice (some ⟨g, off, none⟩) m c)
    (h : ∀ v' w', w'.ownsRow base 165 2 v' (xs ++ ms).length (flat (xs ++ ms)) → w.grownBy w' v.ownBlock → wpList Tryz.prog ops Q rest (a.put o.dst v') w') : wpList Tryz.prog ops Q (o :: rest) a w := by
  subst hm
  obtain ⟨i0, hi, hz0, hz1, hz2⟩ := infoR
  refine wpList_append_own w hgd s x _ ho base 165 i0 _ 2 16 Tryz.underlying36 hi hz0 hz1 hz2 rfl (by decide) v xs.length (flat xs) hs hown ⟨g, off, none⟩ ms.length c (flat ms) hx (flat_len ms) hr.cells (fun u hu => flat_one_cell hu) (by unfold maxLen; omega) (by omega) hbase (fun v' w' h1 h2 _ => ?_)
  refine h v' w' ?_ h2
  rw [List.length_append, flat_append]; exact h1
/-- The same, inside a region that draws its order. -/
theorem wp_apS {o : Oper} {a : Act} {K : Act → World → Prop} {Q : Exit → Act → World → Prop} {w : World} {base d : Nat} {v : Value} {xs : List R} (hown : w.ownsRow base 165 2 v xs.length (flat xs)) (g off m c : Nat) (ms : List R) (hm : ms.length = m) (hr : RM w (some ⟨g, off, none⟩) ms) (hlen : xs.length + ms.length ≤ 4194304) (hbase : base ≤ w.heap.size)
    (s x : Operand) (ho : o.op = .call { callee := .builtin .append, args := #[s, x], argTypes := #[36, 36] }) (hd : o.dst = some d) (hs : a.eval s = v) (hx : a.eval x = .slice (some ⟨g, off, none⟩) m c)
    (h : ∀ v' w', w'.ownsRow base 165 2 v' (xs ++ ms).length (flat (xs ++ ms)) → w.grownBy w' v.ownBlock → K (a.put (some d) v') w') : o.wp Tryz.prog a w K Q := by
  subst hm
  obtain ⟨i0, hi, hz0, hz1, hz2⟩ := infoR
  refine wp_append_own w s x _ ho base 165 i0 _ 2 16 Tryz.underlying36 hi hz0 hz1 hz2 rfl (by decide) v xs.length (flat xs) hs hown ⟨g, off, none⟩ ms.length c (flat ms) hx (flat_len ms) hr.cells (fun u hu => flat_one_cell hu) (by unfold maxLen; omega) (by omega) hbase (fun v' w' h1 h2 _ => ?_)
  rw [hd]
  refine h v' w' ?_ h2
  rw [List.length_append, flat_append]; exact h1
theorem rm_new (w : World) (m : R) : RM (w.alloc (.cells #[.int .i64 m.ad, .int .i64 m.mt] 165)) (some ⟨w.heap.size, 0, none⟩) [m] := by
  refine .inr ⟨_, _, rfl, fun i hi => ?_⟩
  obtain rfl : i = 0 := by simp at hi; omega
  refine ⟨?_, ?_⟩ <;> simp [World.cell?_alloc_new]
theorem own_empty (w : World) (base : Nat) (hb : base ≤ w.heap.size) : (w.alloc (.cells #[] 165)).ownsRow base 165 2 (.slice (some ⟨w.heap.size, 0, none⟩) 0 0) ([] : List R).length (flat []) := World.ownsRow_made w #[] 0 hb (Nat.zero_le _) (by simp)
theorem own_nil (w : World) (base : Nat) : w.ownsRow base 165 2 (.slice none 0 0) ([] : List R).length (flat []) := World.ownsRow_nil w base _ _
theorem below_own {B : Nat} {w0 w w' : World} {base : Nat} {v : Value} {n : Nat} {xs : List Value} (h : Below B w0 w) (ho : w.ownsRow base 165 2 v n xs) (hg : w.grownBy w' v.ownBlock) (hb : B ≤ base) (hB : B ≤ w.heap.size) : Below B w0 w' :=
  h.grown hg hB (fun k hk => Nat.le_trans hb (ho.lt k hk).1)

set_option maxHeartbeats 1000000 in
theorem toR (ad : Int) (mt : Int) (w : World) :
    Calls Tryz.prog 110 #[.agg #[.int .i64 ad, .int .i64 mt]] w fun e w' => e = .returned (Value.agg #[.int .i64 ad, .int .i64 mt]) ∧ Below w.heap.size w w' := by
  go_enter Tryz.func110, Tryz.ntmps110
  go_wp2
  refine bodyPost_ret (v := .agg #[.int .i64 ad, .int .i64 mt]) (by simp [results, Tryz.results110, go_sem]) rfl ⟨rfl, ?_⟩
  repeat (first | exact Below.refl _ _ | refine Below.setCell ?_ (by simp <;> omega) _ | refine Below.alloc ?_ (by simp <;> omega) _)

set_option maxHeartbeats 2000000 in
theorem toS (a : Option Addr) (ms : List R) (cap : Nat) (w : World) (hm : ms.length ≤ 1048576) (hr : RM w a ms) :
    Calls Tryz.prog 40 #[.slice a ms.length cap] w fun e w' => ∃ g, e = .returned (.slice (some ⟨g, 0, none⟩) ms.length ms.length) ∧ Below w.heap.size w w' ∧ w.heap.size ≤ g ∧ g < w'.heap.size ∧ Upto w' g ms.length ms.length ms := by
  obtain ⟨i0, hi, hz0, hz1, hz2⟩ := infoR
  have hmk := run_make (P := Tryz.prog) w 36 165 i0 _ Tryz.underlying36 hi hz0 .i64 .i64 (ms.length : Int) (ms.length : Int) (by omega) (by omega) (by rw [hz2]; omega) (by omega)
  have HR := hide hr
  clear hr
  generalize hN : ms.length = n at *
  have HN := hide hN
  clear hN
  rw [Int.toNat_natCast, hz1] at hmk
  have hcs : (madeCells (Value.agg #[.int .i64 0, .int .i64 0]).cells (n * 2)).size = n * 2 := size_madeCells _ _
  generalize madeCells (Value.agg #[.int .i64 0, .int .i64 0]).cells (n * 2) = cs at *
  have hup0 : Upto (w.alloc (.cells cs 165)) w.heap.size n 0 ms := by
    refine ⟨fun i hi => by omega, fun i hi => ⟨?_, by simp⟩⟩
    rw [World.cell?_alloc_new, Array.getElem?_eq_getElem (by omega)]; rfl
  have HU := hide hup0
  clear hup0 hcs hi hz0 hz1 hz2
  go_enter Tryz.func40, Tryz.ntmps40
  go_wp2
  go_loopw [4] (fun i wr => ∃ j : Nat, j ≤ n ∧ i = .int .i64 j ∧ Hid (w.heap.size < wr.heap.size) ∧ Hid (Below w.heap.size w wr) ∧ Hid (Upto wr w.heap.size n j ms)) (fun i _ => n - (intOf i).toNat)
  case atStart => exact ⟨0, by omega, rfl, hide (by simp), hide ((Below.refl _ _).alloc (Nat.le_refl _) _), HU⟩
  case round =>
    obtain ⟨j, hj, rfl, hsz, hb, hu⟩ := hrel
    by_cases hlt : (j : Int) < (n : Int)
    · have k0 : (0 : Int) ≤ (j : Int) := by omega
      rcases (unhide HR).below (unhide hb) with e0 | ⟨g, off, rfl, hc⟩
      · exfalso
        have := unhide HN
        rw [e0] at this
        simp at this
        omega
      have hlen : j < ms.length := by rw [unhide HN]; omega
      obtain ⟨c0, c1⟩ := hc j hlen
      have hstep : Hid (∀ w1, Below wr.heap.size wr w1 → Upto (put w1 w.heap.size (j * 2) (ms.getD j R.zero)) w.heap.size n (j + 1) ms) := fun w1 h1 => ((unhide hu).below h1 (unhide hsz)).step (by omega)
      have hsome : Hid (∀ w1, Below wr.heap.size wr w1 → ∀ k, k < 2 → (w1.cell? ⟨w.heap.size, j * 2 + k, none⟩).isSome = true ∧ w1.frozen? ⟨w.heap.size, j * 2 + k, none⟩ = false) := fun w1 h1 k hk => ((unhide hu).below h1 (unhide hsz)).2 (j * 2 + k) (by omega)
      generalize ms.getD j R.zero = m at *
      obtain ⟨ad, mt⟩ := m
      dsimp only at c0 c1
      clear hc
      go_wp2_with fail
      refine (toR ad mt _).mono ?_
      rintro e w1 ⟨rfl, b1⟩
      clear c0 c1
      obtain ⟨v0, x0⟩ := Option.isSome_iff_exists.1 (unhide hsome w1 b1 0 (by omega)).1
      obtain ⟨v1, x1⟩ := Option.isSome_iff_exists.1 (unhide hsome w1 b1 1 (by omega)).1
      have y0 := (unhide hsome w1 b1 0 (by omega)).2
      have y1 := (unhide hsome w1 b1 1 (by omega)).2
      rw [Nat.add_zero] at x0 y0
      have hs1 := hide (unhide hstep w1 b1)
      have hb1 := hide ((unhide hb).trans (b1.mono (unhide hb).size))
      have hz1 := hide (Nat.lt_of_lt_of_le (unhide hsz) b1.size)
      clear hsome hstep b1
      go_wp2_with fail
      exact ⟨⟨j + 1, by omega, by go_num, hide (Nat.lt_of_lt_of_le (unhide hz1) (Nat.le_of_eq (put_size w1 w.heap.size (j * 2) ⟨ad, mt⟩).symm)), hide (put_below (m := ⟨ad, mt⟩) (unhide hb1) (Nat.le_refl _)), hs1⟩, by simp [intOf]; omega⟩
    · obtain rfl : j = n := by omega
      go_wp2
      go_ret
      exact ⟨w.heap.size, rfl, unhide hb, Nat.le_refl _, unhide hsz, unhide hu⟩

set_option maxHeartbeats 1000000 in
theorem eqR (ad : Int) (mt : Int) (w : World) :
    Calls Tryz.prog 142 #[.agg #[.int .i64 ad, .int .i64 mt], .agg #[.int .i64 ad, .int .i64 mt]] w
      fun e w' => e = .returned (.bool true) ∧ Below w.heap.size w w' := by
  go_enter Tryz.func142, Tryz.ntmps142
  go_wp2
  go_ret
  repeat (first | exact ⟨rfl, Below.refl _ _⟩ | refine ⟨rfl, ?_⟩ | exact Below.refl _ _ | refine Below.alloc ?_ (by simp <;> omega) _)

theorem sAt {w : World} {g g' o o' : Nat} {ad mt : Int}  (h : At w g o ⟨ad, mt⟩) (h' : At w g' o' ⟨ad, mt⟩) :
    (At w g o ⟨ad, mt⟩ ∧ At w g' o' ⟨ad, mt⟩) ∧ w.cell? ⟨g, o, none⟩ = some (.int .i64 ad) ∧ w.cell? ⟨g, o + 1, none⟩ = some (.int .i64 mt) ∧ w.cell? ⟨g', o', none⟩ = some (.int .i64 ad) ∧ w.cell? ⟨g', o' + 1, none⟩ = some (.int .i64 mt) := ⟨⟨h, h'⟩, h.1, h.2, h'⟩

set_option maxRecDepth 100000 in
set_option maxHeartbeats 4000000 in
theorem eqS (a b : Option Addr) (ms : List R) (ca cb : Nat) (w : World) (hm : ms.length ≤ 1048576) (hr : RM w a ms) (hr' : RM w b ms) :
    Calls Tryz.prog 54 #[.slice a ms.length ca, .slice b ms.length cb] w fun e w' => e = .returned (.bool true) ∧ Below w.heap.size w w' := by
  have HR := hide hr
  have HR' := hide hr'
  clear hr hr'
  generalize hN : ms.length = n at *
  have HN := hide hN
  clear hN
  go_enter Tryz.func54, Tryz.ntmps54
  go_wp2
  go_loopw [5] (fun i wr => ∃ j : Nat, j ≤ n ∧ i = .int .i64 j ∧ Hid (Below w.heap.size w wr)) (fun i _ => n - (intOf i).toNat)
  case atStart => exact ⟨0, by omega, rfl, hide (Below.refl _ _)⟩
  case round =>
    obtain ⟨j, hj, rfl, hbl⟩ := hrel
    by_cases hlt : (j : Int) < (n : Int)
    · have k0 : (0 : Int) ≤ (j : Int) := by omega
      have hlen : j < ms.length := by rw [unhide HN]; omega
      rcases (unhide HR).below (by exact (unhide hbl)) with e0 | ⟨g, off, rfl, hc⟩
      · exfalso; rw [e0] at hlen; simp at hlen
      rcases (unhide HR').below (by exact (unhide hbl)) with e0 | ⟨g', off', rfl, hc'⟩
      · exfalso; rw [e0] at hlen; simp at hlen
      have hA := hc j hlen
      have hA' := hc' j hlen
      clear hc hc'
      generalize ms.getD j R.zero = m at *
      obtain ⟨ad, mt⟩ := m
      go_wp2_with fail
      go_region_held3 (fun w' => (At w' g (off + j * 2) ⟨ad, mt⟩ ∧ At w' g' (off' + j * 2) ⟨ad, mt⟩) ∧ w'.cell? ⟨g, off + j * 2, none⟩ = some (.int .i64 ad) ∧ w'.cell? ⟨g, off + j * 2 + 1, none⟩ = some (.int .i64 mt) ∧ w'.cell? ⟨g', off' + j * 2, none⟩ = some (.int .i64 ad) ∧ w'.cell? ⟨g', off' + j * 2 + 1, none⟩ = some (.int .i64 mt))
        ((go_split_ands; exact sAt (by first | with_reducible assumption | (with_reducible refine At.drew ?_; with_reducible assumption) | (exact At.below (by with_reducible assumption) b1)) (by first | with_reducible assumption | (with_reducible refine At.drew ?_; with_reducible assumption) | (exact At.below (by with_reducible assumption) b1))))
        (first | (go_at_call 142; refine (eqR ad mt _).mono ?_; rintro e w1 ⟨rfl, b1⟩))
      have hb1 := hide ((unhide hbl).drew.trans (b1.mono (by show w.heap.size ≤ wr.heap.size; exact (unhide hbl).size)))
      go_wp2_with fail
      go_roundw
      case rel => exact ⟨j + 1, by omega, by go_num, hb1⟩
      case measure => simp [intOf]; omega
    · go_wp2
      go_ret
      exact ⟨rfl, unhide hbl⟩

/-- The marks from K on. -/
def markR (K : Int) : R := ⟨K, K + 1⟩
def marks (K : Int) (n : Nat) : List R := (List.range n).map fun t : Nat => markR (K + 2 * (t : Int))
theorem marks_len (K : Int) (n : Nat) : (marks K n).length = n := by simp [marks]
theorem marks_at (K : Int) (n t : Nat) (h : t < n) : (marks K n).getD t R.zero = markR (K + 2 * (t : Int)) := by
  unfold marks
  rw [List.getD_eq_getElem?_getD, List.getElem?_map, List.getElem?_range h]; rfl
theorem grown_set {w w1 : World} {g o : Nat} {v : Value} (h : w.grownBy w1 (some g)) : w.grownBy (w1.setCell ⟨g, o, none⟩ v) (some g) :=
  ⟨h.os, h.tape, h.output, by have := h.size; simp [World.setCell]; exact this, fun k hk hne => (Below.heap_setCell _ _ _ _ (fun e => hne (by rw [e]))).trans (h.block k hk hne)⟩
theorem grown_put {w w1 : World} {g o : Nat} {m : R} (h : w.grownBy w1 (some g)) : w.grownBy (put w1 g o m) (some g) := grown_set (grown_set (h))

set_option maxHeartbeats 4000000 in
theorem markS (g n c : Nat) (K : Int) (ms : List R) (w : World) (hK : 0 ≤ K) (hK1 : K ≤ 1073741824) (hn : n ≤ 1048576) (hg : g < w.heap.size) (hU : Upto w g n n ms) :
    Calls Tryz.prog 58 #[.slice (some ⟨g, 0, none⟩) n c, .int .i64 K] w fun e w' => e = .returned (.int .i64 (K + 2 * (n : Int))) ∧ w.grownBy w' (some g) ∧ Upto w' g n n (marks K n) := by
  have hU0 : Hid (Upto w g n 0 (marks K n)) := hide ⟨fun i hi => by omega, hU.2⟩
  clear hU
  go_enter Tryz.func58, Tryz.ntmps58
  go_wp2
  go_loopw [1, 5] (fun q i wr => ∃ j : Nat, j ≤ n ∧ i = .int .i64 j ∧ q = .int .i64 (K + 2 * (j : Int)) ∧ Hid (w.grownBy wr (some g)) ∧ Hid (Upto wr g n j (marks K n))) (fun _ i _ => n - (intOf i).toNat)
  case atStart => exact ⟨0, by omega, rfl, by simp, hide ⟨rfl, rfl, rfl, Nat.le_refl _, fun _ _ _ => rfl⟩, hU0⟩
  case round =>
    obtain ⟨j, hj, rfl, rfl, hgr, hu⟩ := hrel
    by_cases hlt : (j : Int) < (n : Int)
    · have k0 : (0 : Int) ≤ (j : Int) := by omega
      obtain ⟨v0, x0⟩ := Option.isSome_iff_exists.1 ((unhide hu).2 (j * 2) (by omega)).1
      obtain ⟨v1, x1⟩ := Option.isSome_iff_exists.1 ((unhide hu).2 (j * 2 + 1) (by omega)).1
      have y0 := ((unhide hu).2 (j * 2) (by omega)).2
      have y1 := ((unhide hu).2 (j * 2 + 1) (by omega)).2
      have hst := (unhide hu).step (by omega)
      rw [marks_at K n j (by omega)] at hst
      have HST := hide hst
      have HGN := hide (grown_put (o := j * 2) (m := markR (K + 2 * (j : Int))) (unhide hgr))
      clear hst
      generalize hq : K + 2 * (j : Int) = q at *
      have hq0 : 0 ≤ q := by omega
      have hq1 : q ≤ 1109393408 := by omega
      go_wp2_with fail
      exact ⟨⟨j + 1, by omega, by go_num, by go_num, HGN, HST⟩, by simp [intOf]; omega⟩
    · obtain rfl : j = n := by omega
      go_wp2
      go_ret
      exact ⟨rfl, unhide hgr, unhide hu⟩
theorem markS0 (a : Option Addr) (c : Nat) (K : Int) (w : World) :
    Calls Tryz.prog 58 #[.slice a 0 c, .int .i64 K] w fun e w' => e = .returned (.int .i64 K) ∧ w' = w := by
  go_enter Tryz.func58, Tryz.ntmps58
  go_wp2
  go_loop [1, 5] (fun q i => q = .int .i64 K ∧ i = .int .i64 0) (fun _ i => 0)
  case atStart => exact ⟨rfl, rfl⟩
  case round =>
    obtain ⟨rfl, rfl⟩ := hrel
    go_wp2
    go_ret
    exact ⟨rfl, rfl⟩
theorem heldS0 (a : Option Addr) (c : Nat) (K : Int) (w : World) :
    Calls Tryz.prog 62 #[.slice a 0 c, .int .i64 K] w fun e w' => e = .returned (.int .i64 K) ∧ w' = w := by
  go_enter Tryz.func62, Tryz.ntmps62
  go_wp2
  go_loop [1, 5] (fun q i => q = .int .i64 K ∧ i = .int .i64 0) (fun _ i => 0)
  case atStart => exact ⟨rfl, rfl⟩
  case round =>
    obtain ⟨rfl, rfl⟩ := hrel
    go_wp2
    go_ret
    exact ⟨rfl, rfl⟩

set_option maxHeartbeats 4000000 in
theorem heldS (g n c : Nat) (K : Int) (w : World) (hK : 0 ≤ K) (hK1 : K ≤ 1073741824) (hn : n ≤ 1048576) (hU : Upto w g n n (marks K n)) :
    Calls Tryz.prog 62 #[.slice (some ⟨g, 0, none⟩) n c, .int .i64 K] w fun e w' => e = .returned (.int .i64 (K + 2 * (n : Int))) ∧ w' = w := by
  have HU := hide hU
  clear hU
  go_enter Tryz.func62, Tryz.ntmps62
  go_wp2
  go_loopw [1, 5] (fun q i wr => wr = w ∧ ∃ j : Nat, j ≤ n ∧ i = .int .i64 j ∧ q = .int .i64 (K + 2 * (j : Int))) (fun _ i _ => n - (intOf i).toNat)
  case atStart => exact ⟨rfl, 0, by omega, rfl, by simp⟩
  case round =>
    obtain ⟨rfl, j, hj, rfl, rfl⟩ := hrel
    by_cases hlt : (j : Int) < (n : Int)
    · have k0 : (0 : Int) ≤ (j : Int) := by omega
      have hA := (unhide HU).1 j (by omega)
      rw [marks_at K n j (by omega)] at hA
      obtain ⟨c0, c1⟩ := hA
      unfold markR at c0 c1
      dsimp only at c0 c1
      generalize hq : K + 2 * (j : Int) = q at *
      have hq0 : 0 ≤ q := by omega
      have hq1 : q ≤ 1109393408 := by omega
      go_wp2_with fail
      go_roundw
      case rel => exact ⟨by first | trivial | rfl, j + 1, by omega, by go_num, by go_num⟩
      case measure => simp [intOf]; omega
    · obtain rfl : j = n := by omega
      go_wp2
      go_ret
      exact ⟨by first | trivial | rfl, rfl⟩
/-- Marks on a list that may be written, whether it has any or not. -/
theorem markF (a : Option Addr) (c lo hi : Nat) (K : Int) (ms : List R) (w : World) (hK : 0 ≤ K) (hK1 : K ≤ 1073741824) (hn : ms.length ≤ 1048576) (h : Lst w a ms lo hi) :
    Calls Tryz.prog 58 #[.slice a ms.length c, .int .i64 K] w fun e w' => e = .returned (.int .i64 (K + 2 * (ms.length : Int))) ∧ w.heap.size ≤ w'.heap.size ∧ Below (min lo w.heap.size) w w' ∧ Lst w' a (marks K ms.length) lo hi ∧ ∀ k, k < w.heap.size → (k < lo ∨ hi ≤ k) → w'.heap[k]? = w.heap[k]? := by
  have hnil : ∀ w', w' = w → w.heap.size ≤ w'.heap.size ∧ Below (min lo w.heap.size) w w' ∧ ∀ k, k < w.heap.size → (k < lo ∨ hi ≤ k) → w'.heap[k]? = w.heap[k]? := by
    rintro w' rfl
    exact ⟨Nat.le_refl _, Below.refl _ _, fun _ _ _ => rfl⟩
  by_cases h0 : ms.length = 0
  · obtain rfl : ms = [] := List.eq_nil_of_length_eq_zero h0
    refine (markS0 a c K w).mono ?_
    rintro e w' ⟨rfl, hw⟩
    obtain ⟨q1, q2, q3⟩ := hnil w' hw
    exact ⟨by simp, q1, q2, .inl rfl, q3⟩
  rcases h with rfl | ⟨g, rfl, h1, h2, h3, hu⟩
  · simp at h0
  refine (markS g ms.length c K ms w hK hK1 hn h3 hu).mono ?_
  rintro e w' ⟨rfl, gr, hu'⟩
  exact ⟨rfl, gr.size, ⟨gr.os, gr.tape, gr.output, gr.size, fun k hk => gr.block k (by omega) (fun e => by cases e; omega)⟩, .inr ⟨g, rfl, h1, h2, Nat.lt_of_lt_of_le h3 gr.size, by rw [marks_len]; exact hu'⟩, fun k hk hne => gr.block k hk (fun e => by cases e; omega)⟩
theorem heldF (a : Option Addr) (c n lo hi : Nat) (K : Int) (w : World) (hK : 0 ≤ K) (hK1 : K ≤ 1073741824) (hn : n ≤ 1048576) (h : Lst w a (marks K n) lo hi) :
    Calls Tryz.prog 62 #[.slice a n c, .int .i64 K] w fun e w' => e = .returned (.int .i64 (K + 2 * (n : Int))) ∧ w' = w := by
  by_cases h0 : n = 0
  · subst h0
    refine (heldS0 a c K w).mono ?_
    rintro e w' ⟨rfl, rfl⟩
    exact ⟨by simp, rfl⟩
  rcases h with h | ⟨g, rfl, _, _, _, hu⟩
  · have := marks_len K n; rw [h] at this; simp at this; omega
  · rw [marks_len] at hu
    exact heldS g n c K w hK hK1 hn hu
theorem cellsR : Tryz.prog.cellsOf 167 = 2 := by kernel_rfl
theorem cells_int : Tryz.prog.cellsOf 3 = 1 := by kernel_rfl
theorem listR {α : Type} {l : List α} (h : l.length = 2) : ∃ c0 c1, l = [c0, c1] := by
  match l, h with
  | [c0, c1], _ => exact ⟨c0, c1, rfl⟩
/-- The cells that read as one. -/
theorem open_one {H : Type} {enc : TypeId × Value → H} {W : World} {base n : Nat} {spare : Nat → Bool} {held : Bool} {c : List Value} {y : DataW H × List MemPlace} (hl : c.length = 2)
    (h : DataW.trod enc Tryz.prog W base spare held n 167 c = some y) : ∃ m : R, c = m.cells := by
  obtain ⟨c0, c1, rfl⟩ := listR hl
  obtain ⟨xs, n, _, _, _, hlen, hf⟩ := DataW.trod_struct Tryz.underlying167 h
  obtain ⟨x0, x1, rfl⟩ := listR hlen
  have k0 := hf 0 _ rfl
  have k1 := hf 1 _ rfl
  simp [cells_int] at k0 k1
  obtain ⟨a0, e0, _, _⟩ := DataW.trod_int Tryz.underlying3 k0
  obtain ⟨a1, e1, _, _⟩ := DataW.trod_int Tryz.underlying3 k1
  simp at e0 e1
  subst e0 e1
  exact ⟨⟨a0, a1⟩, rfl⟩
/-- A slice that came in: what it reads as. -/
theorem open_cell {H : Type} {enc : TypeId × Value → H} {W : World} {v : Value} {fuel : Nat} {y : DataW H × List MemPlace}
    (hf : DataW.trod enc Tryz.prog W 0 (fun _ => true) true fuel 27 [v] = some y) : ∃ a len cap, ∃ ms : List R, v = .slice a len cap ∧ ms.length = len ∧ len ≤ maxLen ∧ RM W a ms := by
  rcases Deep.open_slice Tryz.underlying27 hf with ⟨hcs, _⟩ | ⟨x, len, cap, m, n, D, Pl, hcs, _, hl, hm, hmm, _, hx⟩
  · simp only [List.cons.injEq, and_true] at hcs
    subst hcs
    exact ⟨none, 0, 0, [], rfl, rfl, Nat.zero_le _, .inl rfl⟩
  · simp only [List.cons.injEq, and_true] at hcs
    subst hcs
    simp at hmm
    subst hmm
    rw [cellsR] at hx
    by_cases h0 : len = 0
    · subst h0; exact ⟨_, _, _, [], rfl, rfl, Nat.zero_le _, .inl rfl⟩
    obtain ⟨b, off, spot⟩ := x
    have hsp : spot = none := by
      obtain ⟨cs', h1, _⟩ := hx 0 (by omega)
      obtain ⟨_, hlen, hc⟩ := World.cells?_some h1
      have h2 := hc 0 (by omega)
      rw [List.getElem?_eq_getElem (by omega)] at h2
      simpa [Addr.add] using World.cell?_spot h2
    subst hsp
    have hex : ∀ i, i < len → ∃ m : R, At W b (off + i * 2) m := by
      intro i hi
      obtain ⟨cs', h1, h2⟩ := hx i (by omega)
      obtain ⟨_, hlen, hc⟩ := World.cells?_some h1
      obtain ⟨m, rfl⟩ := open_one hlen h2
      have q0 := hc 0 (by omega)
      have q1 := hc 1 (by omega)
      rw [plain_add, plain_add] at q0 q1
      exact ⟨m, q0, q1⟩
    have hin : Inhabited R := ⟨R.zero⟩
    obtain ⟨V, hV⟩ := Deep.choose_lt hex
    refine ⟨_, _, _, (List.range len).map V, rfl, by simp, Nat.le_trans hl hm, .inr ⟨b, off, rfl, fun i hi => ?_⟩⟩
    have hi' : i < len := by simpa using hi
    have e : ((List.range len).map V).getD i R.zero = V i := by
      rw [List.getD_eq_getElem?_getD, List.getElem?_map, List.getElem?_range hi']; rfl
    rw [e]
    exact hV i hi'
end Ed
end Go.Proofs.YtffclijcfngeeaaGreat
namespace Go.Proofs.YtffclijcfngeeaaGreat
open Go.ChangeShapes Go.WideShapes Go.ChangeAt Go.RowKit
set_option linter.unusedVariables false
set_option linter.unusedSimpArgs false
set_option maxRecDepth 100000
attribute [local go_sem ↓] Go.wp_at_zero Go.wp_at_succ
namespace Rt
open W1
theorem RA.other {w : World} {b : Nat} {cs : List Value} (h : RA w b cs) {p : Addr} (hne : b ≠ p.block) (v : Value) : RA (w.setCell p v) b cs := by
  have hb : (w.setCell p v).heap[b]? = w.heap[b]? := Below.heap_setCell _ _ _ _ hne
  refine ⟨fun j u hu => ?_, fun j hj => ⟨?_, ?_⟩, h.2.2⟩
  · exact (World.cell?_of_block (a := ⟨b, 0 + j, none⟩) hb).trans (h.1 j u hu)
  · rw [World.cell?_of_block (a := ⟨b, 0 + j, none⟩) hb]; exact (h.2.1 j hj).1
  · rw [World.frozen?_setCell]; exact (h.2.1 j hj).2
set_option maxHeartbeats 8000000 in
theorem szR (x1 x2 x3 x4 x5 x6 : Int) (a1 a2 a3 a4 a5 a6 a7 : Option Addr) (n1 n2 n3 n4 n5 n6 n7 : Nat) (c1 c2 c3 c4 c5 c6 c7 : Nat) (L : Int) (w : World) (hL : 0 ≤ L) (hL1 : L ≤ 1048576) (h1 : n1 ≤ maxLen) (h2 : n2 ≤ maxLen) (h3 : n3 ≤ maxLen) (h4 : n4 ≤ maxLen) (h5 : n5 ≤ maxLen) (h6 : n6 ≤ maxLen) (h7 : n7 ≤ maxLen) :
    Calls Tryz.prog 7 #[.agg #[.int .i64 x1, .int .i64 x2, .int .i64 x3, .int .i64 x4, .int .i64 x5, .slice a1 n1 c1, .slice a2 n2 c2, .slice a3 n3 c3, .slice a4 n4 c4, .slice a5 n5 c5, .slice a6 n6 c6, .slice a7 n7 c7, .int .i64 x6], .int .i64 L] w fun e w' => ∃ r : Int, e = .returned (.int .i64 r) ∧ Below w.heap.size w w' ∧ (r < 0 ∨ (0 ≤ r ∧ r = L - n1 - n2 - n3 - n4 - n5 - n6 - n7)) := by
  have HX : Hid (RA (w.alloc (.cells #[.int .i64 x1, .int .i64 x2, .int .i64 x3, .int .i64 x4, .int .i64 x5, .slice a1 n1 c1, .slice a2 n2 c2, .slice a3 n3 c3, .slice a4 n4 c4, .slice a5 n5 c5, .slice a6 n6 c6, .slice a7 n7 c7, .int .i64 x6] 29)) w.heap.size (rC x1 x2 x3 x4 x5 (.slice a1 n1 c1) (.slice a2 n2 c2) (.slice a3 n3 c3) (.slice a4 n4 c4) (.slice a5 n5 c5) (.slice a6 n6 c6) (.slice a7 n7 c7) x6)) := hide (ra_new w _ rfl _)
  have HB0 : Hid (Below w.heap.size w (w.alloc (.cells #[.int .i64 x1, .int .i64 x2, .int .i64 x3, .int .i64 x4, .int .i64 x5, .slice a1 n1 c1, .slice a2 n2 c2, .slice a3 n3 c3, .slice a4 n4 c4, .slice a5 n5 c5, .slice a6 n6 c6, .slice a7 n7 c7, .int .i64 x6] 29))) := hide ((Below.refl _ _).alloc (Nat.le_refl _) _)
  obtain ⟨r0, hr0⟩ : ∃ r0, L = r0 := ⟨_, rfl⟩
  have HR0 := hide hr0.symm
  rw [hr0] at hL hL1 ⊢
  clear hr0
  go_enter Tryz.func7, Tryz.ntmps7
  go_wp2_with fail
  refine (Lk.szS a1 n1 c1 r0 _ hL hL1 h1).mono ?_
  rintro e w1 ⟨r1, rfl, hw1, hs⟩
  subst hw1
  rcases hs with hs | ⟨hs, hs1⟩
  · go_wp2_with fail
    go_ret
    exact ⟨_, rfl, unhide HB0, .inl (by omega)⟩
  have hn0 : ¬ r1 < 0 := by omega
  have hh0 : r1 ≤ 1048576 := by omega
  have HS0 := hide hs1
  clear hs1
  have hp0 := hs
  clear hs
  go_wp2_with fail
  refine (Tu.szS a2 n2 c2 r1 _ hp0 hh0 h2).mono ?_
  rintro e w2 ⟨r2, rfl, hw2, hs⟩
  subst hw2
  rcases hs with hs | ⟨hs, hs1⟩
  · go_wp2_with fail
    go_ret
    exact ⟨_, rfl, unhide HB0, .inl (by omega)⟩
  have hn1 : ¬ r2 < 0 := by omega
  have hh1 : r2 ≤ 1048576 := by omega
  have HS1 := hide hs1
  clear hs1
  have hp1 := hs
  clear hs
  go_wp2_with fail
  refine (Tu.szS a3 n3 c3 r2 _ hp1 hh1 h3).mono ?_
  rintro e w3 ⟨r3, rfl, hw3, hs⟩
  subst hw3
  rcases hs with hs | ⟨hs, hs1⟩
  · go_wp2_with fail
    go_ret
    exact ⟨_, rfl, unhide HB0, .inl (by omega)⟩
  have hn2 : ¬ r3 < 0 := by omega
  have hh2 : r3 ≤ 1048576 := by omega
  have HS2 := hide hs1
  clear hs1
  have hp2 := hs
  clear hs
  go_wp2_with fail
  refine (Tu.szS a4 n4 c4 r3 _ hp2 hh2 h4).mono ?_
  rintro e w4 ⟨r4, rfl, hw4, hs⟩
  subst hw4
  rcases hs with hs | ⟨hs, hs1⟩
  · go_wp2_with fail
    go_ret
    exact ⟨_, rfl, unhide HB0, .inl (by omega)⟩
  have hn3 : ¬ r4 < 0 := by omega
  have hh3 : r4 ≤ 1048576 := by omega
  have HS3 := hide hs1
  clear hs1
  have hp3 := hs
  clear hs
  go_wp2_with fail
  refine (Tq.sz a5 n5 c5 a6 n6 c6 r4 _ hp3 hh3 h5 h6).mono ?_
  rintro e w5 ⟨r5, rfl, b5, hs⟩
  have HB5 := hide ((unhide HB0).trans (b5.mono (unhide HB0).size))
  have z11 := ((unhide HX).below b5).at (i := 11) rfl
  clear b5
  rcases hs with hs | ⟨hs, hs1⟩
  · go_wp2_with fail
    go_ret
    exact ⟨_, rfl, unhide HB5, .inl (by omega)⟩
  have hn4 : ¬ r5 < 0 := by omega
  have hh4 : r5 ≤ 1048576 := by omega
  have HS4 := hide hs1
  clear hs1
  have hp4 := hs
  clear hs
  go_wp2_with fail
  clear z11
  refine (Ed.szS a7 n7 c7 r5 _ hp4 hh4 h7).mono ?_
  rintro e w6 ⟨r6, rfl, hw6, hs⟩
  subst hw6
  rcases hs with hs | ⟨hs, hs1⟩
  · go_wp2_with fail
    go_ret
    exact ⟨_, rfl, unhide HB5, .inl (by omega)⟩
  have hn5 : ¬ r6 < 0 := by omega
  have hh5 : r6 ≤ 1048576 := by omega
  have HS5 := hide hs1
  clear hs1
  have hp5 := hs
  clear hs
  go_wp2_with fail
  go_ret
  exact ⟨_, rfl, unhide HB5, .inr ⟨hp5, by have e0 := unhide HS0; have e1 := unhide HS1; have e2 := unhide HS2; have e3 := unhide HS3; have e4 := unhide HS4; have e5 := unhide HS5; omega⟩⟩
theorem uptoL_set {w : World} {g n j : Nat} {ms : List Lk.R} {p : Addr} {v : Value} (h : Lk.Upto w g n j ms) (hne : p.block ≠ g) : Lk.Upto (w.setCell p v) g n j ms :=
  h.of_block (Below.heap_setCell _ _ _ _ (fun e => hne e.symm))
theorem uptoE_set {w : World} {g n j : Nat} {ms : List Ed.R} {p : Addr} {v : Value} (h : Ed.Upto w g n j ms) (hne : p.block ≠ g) : Ed.Upto (w.setCell p v) g n j ms :=
  h.of_block (Below.heap_setCell _ _ _ _ (fun e => hne e.symm))
set_option maxHeartbeats 16000000 in
theorem toR (x1 x2 x3 x4 x5 x6 : Int) (a1 a2 a3 a4 a5 a6 a7 : Option Addr) (c1 c2 c3 c4 c5 c6 c7 : Nat) (ls : List Lk.R) (tw : List Tu.R) (se : List Tu.R) (du : List Tu.R) (ss : List So.R) (es : List Tu.R) (la : List Ed.R) (w : World) (hm1 : ls.length ≤ 1048576) (hm2 : tw.length ≤ 1048576) (hm3 : se.length ≤ 1048576) (hm4 : du.length ≤ 1048576) (hm5 : ss.length ≤ 1048576) (hm6 : es.length ≤ 1048576) (hm7 : la.length ≤ 1048576) (hr1 : Lk.RM w a1 ls) (hr2 : Tu.RM w a2 tw) (hr3 : Tu.RM w a3 se) (hr4 : Tu.RM w a4 du) (hr5 : So.RM w a5 ss) (hr6 : Tu.RM w a6 es) (hr7 : Ed.RM w a7 la) :
    Calls Tryz.prog 9 #[.agg #[.int .i64 x1, .int .i64 x2, .int .i64 x3, .int .i64 x4, .int .i64 x5, .slice a1 ls.length c1, .slice a2 tw.length c2, .slice a3 se.length c3, .slice a4 du.length c4, .slice a5 ss.length c5, .slice a6 es.length c6, .slice a7 la.length c7, .int .i64 x6]] w fun e w' => ∃ g1 g2 g3 g4 g5 g6 g7, e = .returned (.agg (rC x1 x2 x3 x4 x5 (.slice (some ⟨g1, 0, none⟩) ls.length ls.length) (.slice (some ⟨g2, 0, none⟩) tw.length tw.length) (.slice (some ⟨g3, 0, none⟩) se.length se.length) (.slice (some ⟨g4, 0, none⟩) du.length du.length) (.slice (some ⟨g5, 0, none⟩) ss.length ss.length) (.slice (some ⟨g6, 0, none⟩) es.length es.length) (.slice (some ⟨g7, 0, none⟩) la.length la.length) x6).toArray) ∧ Below w.heap.size w w' ∧ (w.heap.size ≤ g1 ∧ g1 < g2 ∧ g2 < g3 ∧ g3 < g4 ∧ g4 < g5 ∧ g5 < g6 ∧ g6 < g7 ∧ g7 < w'.heap.size) ∧ Lk.Upto w' g1 ls.length ls.length ls ∧ Tu.Upto w' g2 tw.length tw.length tw ∧ Tu.Upto w' g3 se.length se.length se ∧ Tu.Upto w' g4 du.length du.length du ∧ So.Upto w' g5 ss.length ss.length ss ∧ Tu.Upto w' g6 es.length es.length es ∧ Ed.Upto w' g7 la.length la.length la := by
  have HA1 : Hid (Below w.heap.size w (w.alloc (.cells #[.int .i64 x1, .int .i64 x2, .int .i64 x3, .int .i64 x4, .int .i64 x5, .slice a1 ls.length c1, .slice a2 tw.length c2, .slice a3 se.length c3, .slice a4 du.length c4, .slice a5 ss.length c5, .slice a6 es.length c6, .slice a7 la.length c7, .int .i64 x6] 29))) := hide ((Below.refl _ _).alloc (Nat.le_refl _) _)
  have HA2 : Hid (Below w.heap.size w ((w.alloc (.cells #[.int .i64 x1, .int .i64 x2, .int .i64 x3, .int .i64 x4, .int .i64 x5, .slice a1 ls.length c1, .slice a2 tw.length c2, .slice a3 se.length c3, .slice a4 du.length c4, .slice a5 ss.length c5, .slice a6 es.length c6, .slice a7 la.length c7, .int .i64 x6] 29)).alloc (.cells #[.int .i64 0, .int .i64 0, .int .i64 0, .int .i64 0, .int .i64 0, .slice none 0 0, .slice none 0 0, .slice none 0 0, .slice none 0 0, .slice none 0 0, .slice none 0 0, .slice none 0 0, .int .i64 0] 38))) := hide ((unhide HA1).alloc (unhide HA1).size _)
  have HB0 : Hid (Below w.heap.size w (((w.alloc (.cells #[.int .i64 x1, .int .i64 x2, .int .i64 x3, .int .i64 x4, .int .i64 x5, .slice a1 ls.length c1, .slice a2 tw.length c2, .slice a3 se.length c3, .slice a4 du.length c4, .slice a5 ss.length c5, .slice a6 es.length c6, .slice a7 la.length c7, .int .i64 x6] 29)).alloc (.cells #[.int .i64 0, .int .i64 0, .int .i64 0, .int .i64 0, .int .i64 0, .slice none 0 0, .slice none 0 0, .slice none 0 0, .slice none 0 0, .slice none 0 0, .slice none 0 0, .slice none 0 0, .int .i64 0] 38)).alloc (.cells #[.int .i64 x1, .int .i64 x2, .int .i64 x3, .int .i64 x4, .int .i64 x5, .slice none 0 0, .slice none 0 0, .slice none 0 0, .slice none 0 0, .slice none 0 0, .slice none 0 0, .slice none 0 0, .int .i64 0] 38))) := hide ((unhide HA2).alloc (unhide HA2).size _)
  have HX0 : Hid (RA (((w.alloc (.cells #[.int .i64 x1, .int .i64 x2, .int .i64 x3, .int .i64 x4, .int .i64 x5, .slice a1 ls.length c1, .slice a2 tw.length c2, .slice a3 se.length c3, .slice a4 du.length c4, .slice a5 ss.length c5, .slice a6 es.length c6, .slice a7 la.length c7, .int .i64 x6] 29)).alloc (.cells #[.int .i64 0, .int .i64 0, .int .i64 0, .int .i64 0, .int .i64 0, .slice none 0 0, .slice none 0 0, .slice none 0 0, .slice none 0 0, .slice none 0 0, .slice none 0 0, .slice none 0 0, .int .i64 0] 38)).alloc (.cells #[.int .i64 x1, .int .i64 x2, .int .i64 x3, .int .i64 x4, .int .i64 x5, .slice none 0 0, .slice none 0 0, .slice none 0 0, .slice none 0 0, .slice none 0 0, .slice none 0 0, .slice none 0 0, .int .i64 0] 38)) w.heap.size (rC x1 x2 x3 x4 x5 (.slice a1 ls.length c1) (.slice a2 tw.length c2) (.slice a3 se.length c3) (.slice a4 du.length c4) (.slice a5 ss.length c5) (.slice a6 es.length c6) (.slice a7 la.length c7) x6)) := hide (((ra_new w _ rfl _).below ((Below.refl _ _).alloc (Nat.le_refl _) _)).below ((Below.refl _ _).alloc (Nat.le_refl _) _))
  have HZ0 : Hid (RA (((w.alloc (.cells #[.int .i64 x1, .int .i64 x2, .int .i64 x3, .int .i64 x4, .int .i64 x5, .slice a1 ls.length c1, .slice a2 tw.length c2, .slice a3 se.length c3, .slice a4 du.length c4, .slice a5 ss.length c5, .slice a6 es.length c6, .slice a7 la.length c7, .int .i64 x6] 29)).alloc (.cells #[.int .i64 0, .int .i64 0, .int .i64 0, .int .i64 0, .int .i64 0, .slice none 0 0, .slice none 0 0, .slice none 0 0, .slice none 0 0, .slice none 0 0, .slice none 0 0, .slice none 0 0, .int .i64 0] 38)).alloc (.cells #[.int .i64 x1, .int .i64 x2, .int .i64 x3, .int .i64 x4, .int .i64 x5, .slice none 0 0, .slice none 0 0, .slice none 0 0, .slice none 0 0, .slice none 0 0, .slice none 0 0, .slice none 0 0, .int .i64 0] 38)) (w.heap.size + 1) (rC 0 0 0 0 0 (.slice none 0 0) (.slice none 0 0) (.slice none 0 0) (.slice none 0 0) (.slice none 0 0) (.slice none 0 0) (.slice none 0 0) 0)) := hide (by have := (ra_new (w.alloc (.cells #[.int .i64 x1, .int .i64 x2, .int .i64 x3, .int .i64 x4, .int .i64 x5, .slice a1 ls.length c1, .slice a2 tw.length c2, .slice a3 se.length c3, .slice a4 du.length c4, .slice a5 ss.length c5, .slice a6 es.length c6, .slice a7 la.length c7, .int .i64 x6] 29)) (rC 0 0 0 0 0 (.slice none 0 0) (.slice none 0 0) (.slice none 0 0) (.slice none 0 0) (.slice none 0 0) (.slice none 0 0) (.slice none 0 0) 0) rfl 38).below ((Below.refl _ _).alloc (Nat.le_refl _) (.cells #[.int .i64 x1, .int .i64 x2, .int .i64 x3, .int .i64 x4, .int .i64 x5, .slice none 0 0, .slice none 0 0, .slice none 0 0, .slice none 0 0, .slice none 0 0, .slice none 0 0, .slice none 0 0, .int .i64 0] 38)); rw [show (w.alloc (.cells #[.int .i64 x1, .int .i64 x2, .int .i64 x3, .int .i64 x4, .int .i64 x5, .slice a1 ls.length c1, .slice a2 tw.length c2, .slice a3 se.length c3, .slice a4 du.length c4, .slice a5 ss.length c5, .slice a6 es.length c6, .slice a7 la.length c7, .int .i64 x6] 29)).heap.size = w.heap.size + 1 by simp] at this; exact this)
  have HO0 : Hid (RA (((w.alloc (.cells #[.int .i64 x1, .int .i64 x2, .int .i64 x3, .int .i64 x4, .int .i64 x5, .slice a1 ls.length c1, .slice a2 tw.length c2, .slice a3 se.length c3, .slice a4 du.length c4, .slice a5 ss.length c5, .slice a6 es.length c6, .slice a7 la.length c7, .int .i64 x6] 29)).alloc (.cells #[.int .i64 0, .int .i64 0, .int .i64 0, .int .i64 0, .int .i64 0, .slice none 0 0, .slice none 0 0, .slice none 0 0, .slice none 0 0, .slice none 0 0, .slice none 0 0, .slice none 0 0, .int .i64 0] 38)).alloc (.cells #[.int .i64 x1, .int .i64 x2, .int .i64 x3, .int .i64 x4, .int .i64 x5, .slice none 0 0, .slice none 0 0, .slice none 0 0, .slice none 0 0, .slice none 0 0, .slice none 0 0, .slice none 0 0, .int .i64 0] 38)) (w.heap.size + 2) (rC x1 x2 x3 x4 x5 (.slice none 0 0) (.slice none 0 0) (.slice none 0 0) (.slice none 0 0) (.slice none 0 0) (.slice none 0 0) (.slice none 0 0) 0)) := hide (by have := ra_new ((w.alloc (.cells #[.int .i64 x1, .int .i64 x2, .int .i64 x3, .int .i64 x4, .int .i64 x5, .slice a1 ls.length c1, .slice a2 tw.length c2, .slice a3 se.length c3, .slice a4 du.length c4, .slice a5 ss.length c5, .slice a6 es.length c6, .slice a7 la.length c7, .int .i64 x6] 29)).alloc (.cells #[.int .i64 0, .int .i64 0, .int .i64 0, .int .i64 0, .int .i64 0, .slice none 0 0, .slice none 0 0, .slice none 0 0, .slice none 0 0, .slice none 0 0, .slice none 0 0, .slice none 0 0, .int .i64 0] 38)) (rC x1 x2 x3 x4 x5 (.slice none 0 0) (.slice none 0 0) (.slice none 0 0) (.slice none 0 0) (.slice none 0 0) (.slice none 0 0) (.slice none 0 0) 0) rfl 38; rw [show ((w.alloc (.cells #[.int .i64 x1, .int .i64 x2, .int .i64 x3, .int .i64 x4, .int .i64 x5, .slice a1 ls.length c1, .slice a2 tw.length c2, .slice a3 se.length c3, .slice a4 du.length c4, .slice a5 ss.length c5, .slice a6 es.length c6, .slice a7 la.length c7, .int .i64 x6] 29)).alloc (.cells #[.int .i64 0, .int .i64 0, .int .i64 0, .int .i64 0, .int .i64 0, .slice none 0 0, .slice none 0 0, .slice none 0 0, .slice none 0 0, .slice none 0 0, .slice none 0 0, .slice none 0 0, .int .i64 0] 38)).heap.size = w.heap.size + 2 by simp] at this; exact this)
  have hq0 : ((((w.alloc (.cells #[.int .i64 x1, .int .i64 x2, .int .i64 x3, .int .i64 x4, .int .i64 x5, .slice a1 ls.length c1, .slice a2 tw.length c2, .slice a3 se.length c3, .slice a4 du.length c4, .slice a5 ss.length c5, .slice a6 es.length c6, .slice a7 la.length c7, .int .i64 x6] 29)).alloc (.cells #[.int .i64 0, .int .i64 0, .int .i64 0, .int .i64 0, .int .i64 0, .slice none 0 0, .slice none 0 0, .slice none 0 0, .slice none 0 0, .slice none 0 0, .slice none 0 0, .slice none 0 0, .int .i64 0] 38)).alloc (.cells #[.int .i64 x1, .int .i64 x2, .int .i64 x3, .int .i64 x4, .int .i64 x5, .slice none 0 0, .slice none 0 0, .slice none 0 0, .slice none 0 0, .slice none 0 0, .slice none 0 0, .slice none 0 0, .int .i64 0] 38))).heap.size = w.heap.size + 3 := by simp
  have hp2 : w.heap.size ≤ w.heap.size + 2 := by omega
  have HR1 := hide hr1
  have HR2 := hide hr2
  have HR3 := hide hr3
  have HR4 := hide hr4
  have HR5 := hide hr5
  have HR6 := hide hr6
  have HR7 := hide hr7
  clear hr1 hr2 hr3 hr4 hr5 hr6 hr7 HA1 HA2
  go_enter Tryz.func9, Tryz.ntmps9
  go_wp2_with fail
  generalize hW : (((w.alloc (.cells #[.int .i64 x1, .int .i64 x2, .int .i64 x3, .int .i64 x4, .int .i64 x5, .slice a1 ls.length c1, .slice a2 tw.length c2, .slice a3 se.length c3, .slice a4 du.length c4, .slice a5 ss.length c5, .slice a6 es.length c6, .slice a7 la.length c7, .int .i64 x6] 29)).alloc (.cells #[.int .i64 0, .int .i64 0, .int .i64 0, .int .i64 0, .int .i64 0, .slice none 0 0, .slice none 0 0, .slice none 0 0, .slice none 0 0, .slice none 0 0, .slice none 0 0, .slice none 0 0, .int .i64 0] 38)).alloc (.cells #[.int .i64 x1, .int .i64 x2, .int .i64 x3, .int .i64 x4, .int .i64 x5, .slice none 0 0, .slice none 0 0, .slice none 0 0, .slice none 0 0, .slice none 0 0, .slice none 0 0, .slice none 0 0, .int .i64 0] 38)) = V0 at *
  clear hW
  refine (Lk.toS a1 ls c1 _ hm1 ((unhide HR1).below (unhide HB0))).mono ?_
  rintro e V1 ⟨g1, rfl, d1, hg1, hz1, u1⟩
  have HB1 := hide ((unhide HB0).trans (d1.mono (unhide HB0).size))
  have HX1 := hide ((unhide HX0).below d1)
  have HZ1 := hide ((unhide HZ0).below d1)
  have HO1 := hide ((unhide HO0).below d1)
  have hq1 := d1.size
  clear HX0 HZ0 HO0 
  have U1_1 := hide u1
  clear d1 u1
  obtain ⟨V2, hV2⟩ : ∃ V, (V1.setCell ⟨w.heap.size + 2, 5, none⟩ (.slice (some ⟨g1, 0, none⟩) ls.length ls.length)) = V := ⟨_, rfl⟩
  have HB2 : Hid (Below w.heap.size w V2) := hide (by rw [← hV2]; exact ((unhide HB1).setCell (p := ⟨w.heap.size + 2, 5, none⟩) hp2 (.slice (some ⟨g1, 0, none⟩) ls.length ls.length)))
  have HX2 : Hid (RA V2 w.heap.size (rC x1 x2 x3 x4 x5 (.slice a1 ls.length c1) (.slice a2 tw.length c2) (.slice a3 se.length c3) (.slice a4 du.length c4) (.slice a5 ss.length c5) (.slice a6 es.length c6) (.slice a7 la.length c7) x6)) := hide (by rw [← hV2]; exact (RA.other (unhide HX1) (p := ⟨w.heap.size + 2, 5, none⟩) (by show w.heap.size ≠ w.heap.size + 2; omega) (.slice (some ⟨g1, 0, none⟩) ls.length ls.length)))
  have HZ2 : Hid (RA V2 (w.heap.size + 1) (rC 0 0 0 0 0 (.slice none 0 0) (.slice none 0 0) (.slice none 0 0) (.slice none 0 0) (.slice none 0 0) (.slice none 0 0) (.slice none 0 0) 0)) := hide (by rw [← hV2]; exact (RA.other (unhide HZ1) (p := ⟨w.heap.size + 2, 5, none⟩) (by show w.heap.size + 1 ≠ w.heap.size + 2; omega) (.slice (some ⟨g1, 0, none⟩) ls.length ls.length)))
  have HO2 : Hid (RA V2 (w.heap.size + 2) (rC x1 x2 x3 x4 x5 (.slice (some ⟨g1, 0, none⟩) ls.length ls.length) (.slice none 0 0) (.slice none 0 0) (.slice none 0 0) (.slice none 0 0) (.slice none 0 0) (.slice none 0 0) 0)) := hide (by rw [← hV2]; exact (RA.set (unhide HO1) (k := 5) (by omega) (.slice (some ⟨g1, 0, none⟩) ls.length ls.length)))
  have U1_2 : Hid (Lk.Upto V2 g1 ls.length ls.length ls) := hide (by rw [← hV2]; exact (uptoL_set (p := ⟨w.heap.size + 2, 5, none⟩) (v := (.slice (some ⟨g1, 0, none⟩) ls.length ls.length)) (unhide U1_1) (by show w.heap.size + 2 ≠ g1; omega)))
  have hq2 : V2.heap.size = V1.heap.size := by rw [← hV2]; simp [World.setCell]
  have HV2 := hide hV2
  clear hV2
  have o5 := (unhide HO1).at (i := 5) rfl
  have f5 := (unhide HO1).free (i := 5) (by omega)
  have z6 := (unhide HX1).at (i := 6) rfl
  have hne : ¬ w.heap.size = w.heap.size + 2 := by omega
  go_wp2_with fail
  rw [unhide HV2]
  clear hne o5 f5 z6 HX1 HZ1 HO1 U1_1
  refine (Tu.toS a2 tw c2 _ hm2 ((unhide HR2).below (unhide HB2))).mono ?_
  rintro e V3 ⟨g2, rfl, d3, hg2, hz2, u3⟩
  have HB3 := hide ((unhide HB2).trans (d3.mono (unhide HB2).size))
  have HX3 := hide ((unhide HX2).below d3)
  have HZ3 := hide ((unhide HZ2).below d3)
  have HO3 := hide ((unhide HO2).below d3)
  have U1_3 := hide ((unhide U1_2).below d3 (by omega))
  have hq3 := d3.size
  clear HX2 HZ2 HO2 U1_2
  have U2_3 := hide u3
  clear d3 u3
  obtain ⟨V4, hV4⟩ : ∃ V, (V3.setCell ⟨w.heap.size + 2, 6, none⟩ (.slice (some ⟨g2, 0, none⟩) tw.length tw.length)) = V := ⟨_, rfl⟩
  have HB4 : Hid (Below w.heap.size w V4) := hide (by rw [← hV4]; exact ((unhide HB3).setCell (p := ⟨w.heap.size + 2, 6, none⟩) hp2 (.slice (some ⟨g2, 0, none⟩) tw.length tw.length)))
  have HX4 : Hid (RA V4 w.heap.size (rC x1 x2 x3 x4 x5 (.slice a1 ls.length c1) (.slice a2 tw.length c2) (.slice a3 se.length c3) (.slice a4 du.length c4) (.slice a5 ss.length c5) (.slice a6 es.length c6) (.slice a7 la.length c7) x6)) := hide (by rw [← hV4]; exact (RA.other (unhide HX3) (p := ⟨w.heap.size + 2, 6, none⟩) (by show w.heap.size ≠ w.heap.size + 2; omega) (.slice (some ⟨g2, 0, none⟩) tw.length tw.length)))
  have HZ4 : Hid (RA V4 (w.heap.size + 1) (rC 0 0 0 0 0 (.slice none 0 0) (.slice none 0 0) (.slice none 0 0) (.slice none 0 0) (.slice none 0 0) (.slice none 0 0) (.slice none 0 0) 0)) := hide (by rw [← hV4]; exact (RA.other (unhide HZ3) (p := ⟨w.heap.size + 2, 6, none⟩) (by show w.heap.size + 1 ≠ w.heap.size + 2; omega) (.slice (some ⟨g2, 0, none⟩) tw.length tw.length)))
  have HO4 : Hid (RA V4 (w.heap.size + 2) (rC x1 x2 x3 x4 x5 (.slice (some ⟨g1, 0, none⟩) ls.length ls.length) (.slice (some ⟨g2, 0, none⟩) tw.length tw.length) (.slice none 0 0) (.slice none 0 0) (.slice none 0 0) (.slice none 0 0) (.slice none 0 0) 0)) := hide (by rw [← hV4]; exact (RA.set (unhide HO3) (k := 6) (by omega) (.slice (some ⟨g2, 0, none⟩) tw.length tw.length)))
  have U1_4 : Hid (Lk.Upto V4 g1 ls.length ls.length ls) := hide (by rw [← hV4]; exact (uptoL_set (p := ⟨w.heap.size + 2, 6, none⟩) (v := (.slice (some ⟨g2, 0, none⟩) tw.length tw.length)) (unhide U1_3) (by show w.heap.size + 2 ≠ g1; omega)))
  have U2_4 : Hid (Tu.Upto V4 g2 tw.length tw.length tw) := hide (by rw [← hV4]; exact (Tq.uptoT_set (p := ⟨w.heap.size + 2, 6, none⟩) (v := (.slice (some ⟨g2, 0, none⟩) tw.length tw.length)) (unhide U2_3) (by show w.heap.size + 2 ≠ g2; omega)))
  have hq4 : V4.heap.size = V3.heap.size := by rw [← hV4]; simp [World.setCell]
  have HV4 := hide hV4
  clear hV4
  have o6 := (unhide HO3).at (i := 6) rfl
  have f6 := (unhide HO3).free (i := 6) (by omega)
  have z7 := (unhide HX3).at (i := 7) rfl
  have hne : ¬ w.heap.size = w.heap.size + 2 := by omega
  go_wp2_with fail
  rw [unhide HV4]
  clear hne o6 f6 z7 HX3 HZ3 HO3 U1_3 U2_3
  refine (Tu.toS a3 se c3 _ hm3 ((unhide HR3).below (unhide HB4))).mono ?_
  rintro e V5 ⟨g3, rfl, d5, hg3, hz3, u5⟩
  have HB5 := hide ((unhide HB4).trans (d5.mono (unhide HB4).size))
  have HX5 := hide ((unhide HX4).below d5)
  have HZ5 := hide ((unhide HZ4).below d5)
  have HO5 := hide ((unhide HO4).below d5)
  have U1_5 := hide ((unhide U1_4).below d5 (by omega))
  have U2_5 := hide ((unhide U2_4).below d5 (by omega))
  have hq5 := d5.size
  clear HX4 HZ4 HO4 U1_4 U2_4
  have U3_5 := hide u5
  clear d5 u5
  obtain ⟨V6, hV6⟩ : ∃ V, (V5.setCell ⟨w.heap.size + 2, 7, none⟩ (.slice (some ⟨g3, 0, none⟩) se.length se.length)) = V := ⟨_, rfl⟩
  have HB6 : Hid (Below w.heap.size w V6) := hide (by rw [← hV6]; exact ((unhide HB5).setCell (p := ⟨w.heap.size + 2, 7, none⟩) hp2 (.slice (some ⟨g3, 0, none⟩) se.length se.length)))
  have HX6 : Hid (RA V6 w.heap.size (rC x1 x2 x3 x4 x5 (.slice a1 ls.length c1) (.slice a2 tw.length c2) (.slice a3 se.length c3) (.slice a4 du.length c4) (.slice a5 ss.length c5) (.slice a6 es.length c6) (.slice a7 la.length c7) x6)) := hide (by rw [← hV6]; exact (RA.other (unhide HX5) (p := ⟨w.heap.size + 2, 7, none⟩) (by show w.heap.size ≠ w.heap.size + 2; omega) (.slice (some ⟨g3, 0, none⟩) se.length se.length)))
  have HZ6 : Hid (RA V6 (w.heap.size + 1) (rC 0 0 0 0 0 (.slice none 0 0) (.slice none 0 0) (.slice none 0 0) (.slice none 0 0) (.slice none 0 0) (.slice none 0 0) (.slice none 0 0) 0)) := hide (by rw [← hV6]; exact (RA.other (unhide HZ5) (p := ⟨w.heap.size + 2, 7, none⟩) (by show w.heap.size + 1 ≠ w.heap.size + 2; omega) (.slice (some ⟨g3, 0, none⟩) se.length se.length)))
  have HO6 : Hid (RA V6 (w.heap.size + 2) (rC x1 x2 x3 x4 x5 (.slice (some ⟨g1, 0, none⟩) ls.length ls.length) (.slice (some ⟨g2, 0, none⟩) tw.length tw.length) (.slice (some ⟨g3, 0, none⟩) se.length se.length) (.slice none 0 0) (.slice none 0 0) (.slice none 0 0) (.slice none 0 0) 0)) := hide (by rw [← hV6]; exact (RA.set (unhide HO5) (k := 7) (by omega) (.slice (some ⟨g3, 0, none⟩) se.length se.length)))
  have U1_6 : Hid (Lk.Upto V6 g1 ls.length ls.length ls) := hide (by rw [← hV6]; exact (uptoL_set (p := ⟨w.heap.size + 2, 7, none⟩) (v := (.slice (some ⟨g3, 0, none⟩) se.length se.length)) (unhide U1_5) (by show w.heap.size + 2 ≠ g1; omega)))
  have U2_6 : Hid (Tu.Upto V6 g2 tw.length tw.length tw) := hide (by rw [← hV6]; exact (Tq.uptoT_set (p := ⟨w.heap.size + 2, 7, none⟩) (v := (.slice (some ⟨g3, 0, none⟩) se.length se.length)) (unhide U2_5) (by show w.heap.size + 2 ≠ g2; omega)))
  have U3_6 : Hid (Tu.Upto V6 g3 se.length se.length se) := hide (by rw [← hV6]; exact (Tq.uptoT_set (p := ⟨w.heap.size + 2, 7, none⟩) (v := (.slice (some ⟨g3, 0, none⟩) se.length se.length)) (unhide U3_5) (by show w.heap.size + 2 ≠ g3; omega)))
  have hq6 : V6.heap.size = V5.heap.size := by rw [← hV6]; simp [World.setCell]
  have HV6 := hide hV6
  clear hV6
  have o7 := (unhide HO5).at (i := 7) rfl
  have f7 := (unhide HO5).free (i := 7) (by omega)
  have z8 := (unhide HX5).at (i := 8) rfl
  have hne : ¬ w.heap.size = w.heap.size + 2 := by omega
  go_wp2_with fail
  rw [unhide HV6]
  clear hne o7 f7 z8 HX5 HZ5 HO5 U1_5 U2_5 U3_5
  refine (Tu.toS a4 du c4 _ hm4 ((unhide HR4).below (unhide HB6))).mono ?_
  rintro e V7 ⟨g4, rfl, d7, hg4, hz4, u7⟩
  have HB7 := hide ((unhide HB6).trans (d7.mono (unhide HB6).size))
  have HX7 := hide ((unhide HX6).below d7)
  have HZ7 := hide ((unhide HZ6).below d7)
  have HO7 := hide ((unhide HO6).below d7)
  have U1_7 := hide ((unhide U1_6).below d7 (by omega))
  have U2_7 := hide ((unhide U2_6).below d7 (by omega))
  have U3_7 := hide ((unhide U3_6).below d7 (by omega))
  have hq7 := d7.size
  clear HX6 HZ6 HO6 U1_6 U2_6 U3_6
  have U4_7 := hide u7
  clear d7 u7
  obtain ⟨V8, hV8⟩ : ∃ V, (V7.setCell ⟨w.heap.size + 2, 8, none⟩ (.slice (some ⟨g4, 0, none⟩) du.length du.length)) = V := ⟨_, rfl⟩
  have HB8 : Hid (Below w.heap.size w V8) := hide (by rw [← hV8]; exact ((unhide HB7).setCell (p := ⟨w.heap.size + 2, 8, none⟩) hp2 (.slice (some ⟨g4, 0, none⟩) du.length du.length)))
  have HX8 : Hid (RA V8 w.heap.size (rC x1 x2 x3 x4 x5 (.slice a1 ls.length c1) (.slice a2 tw.length c2) (.slice a3 se.length c3) (.slice a4 du.length c4) (.slice a5 ss.length c5) (.slice a6 es.length c6) (.slice a7 la.length c7) x6)) := hide (by rw [← hV8]; exact (RA.other (unhide HX7) (p := ⟨w.heap.size + 2, 8, none⟩) (by show w.heap.size ≠ w.heap.size + 2; omega) (.slice (some ⟨g4, 0, none⟩) du.length du.length)))
  have HZ8 : Hid (RA V8 (w.heap.size + 1) (rC 0 0 0 0 0 (.slice none 0 0) (.slice none 0 0) (.slice none 0 0) (.slice none 0 0) (.slice none 0 0) (.slice none 0 0) (.slice none 0 0) 0)) := hide (by rw [← hV8]; exact (RA.other (unhide HZ7) (p := ⟨w.heap.size + 2, 8, none⟩) (by show w.heap.size + 1 ≠ w.heap.size + 2; omega) (.slice (some ⟨g4, 0, none⟩) du.length du.length)))
  have HO8 : Hid (RA V8 (w.heap.size + 2) (rC x1 x2 x3 x4 x5 (.slice (some ⟨g1, 0, none⟩) ls.length ls.length) (.slice (some ⟨g2, 0, none⟩) tw.length tw.length) (.slice (some ⟨g3, 0, none⟩) se.length se.length) (.slice (some ⟨g4, 0, none⟩) du.length du.length) (.slice none 0 0) (.slice none 0 0) (.slice none 0 0) 0)) := hide (by rw [← hV8]; exact (RA.set (unhide HO7) (k := 8) (by omega) (.slice (some ⟨g4, 0, none⟩) du.length du.length)))
  have U1_8 : Hid (Lk.Upto V8 g1 ls.length ls.length ls) := hide (by rw [← hV8]; exact (uptoL_set (p := ⟨w.heap.size + 2, 8, none⟩) (v := (.slice (some ⟨g4, 0, none⟩) du.length du.length)) (unhide U1_7) (by show w.heap.size + 2 ≠ g1; omega)))
  have U2_8 : Hid (Tu.Upto V8 g2 tw.length tw.length tw) := hide (by rw [← hV8]; exact (Tq.uptoT_set (p := ⟨w.heap.size + 2, 8, none⟩) (v := (.slice (some ⟨g4, 0, none⟩) du.length du.length)) (unhide U2_7) (by show w.heap.size + 2 ≠ g2; omega)))
  have U3_8 : Hid (Tu.Upto V8 g3 se.length se.length se) := hide (by rw [← hV8]; exact (Tq.uptoT_set (p := ⟨w.heap.size + 2, 8, none⟩) (v := (.slice (some ⟨g4, 0, none⟩) du.length du.length)) (unhide U3_7) (by show w.heap.size + 2 ≠ g3; omega)))
  have U4_8 : Hid (Tu.Upto V8 g4 du.length du.length du) := hide (by rw [← hV8]; exact (Tq.uptoT_set (p := ⟨w.heap.size + 2, 8, none⟩) (v := (.slice (some ⟨g4, 0, none⟩) du.length du.length)) (unhide U4_7) (by show w.heap.size + 2 ≠ g4; omega)))
  have hq8 : V8.heap.size = V7.heap.size := by rw [← hV8]; simp [World.setCell]
  have HV8 := hide hV8
  clear hV8
  have o8 := (unhide HO7).at (i := 8) rfl
  have f8 := (unhide HO7).free (i := 8) (by omega)
  have z9 := (unhide HX7).at (i := 9) rfl
  have z10 := (unhide HX7).at (i := 10) rfl
  have hne : ¬ w.heap.size = w.heap.size + 2 := by omega
  go_wp2_with fail
  rw [unhide HV8]
  clear hne o8 f8 z9 z10 HX7 HZ7 HO7 U1_7 U2_7 U3_7 U4_7
  refine (Tq.to a5 ss c5 a6 es c6 _ hm5 hm6 ((unhide HR5).below (unhide HB8)) ((unhide HR6).below (unhide HB8))).mono ?_
  rintro e V9 ⟨g5, g6, rfl, d9, hg5, u9, v9⟩
  have HB9 := hide ((unhide HB8).trans (d9.mono (unhide HB8).size))
  have HX9 := hide ((unhide HX8).below d9)
  have HZ9 := hide ((unhide HZ8).below d9)
  have HO9 := hide ((unhide HO8).below d9)
  have U1_9 := hide ((unhide U1_8).below d9 (by omega))
  have U2_9 := hide ((unhide U2_8).below d9 (by omega))
  have U3_9 := hide ((unhide U3_8).below d9 (by omega))
  have U4_9 := hide ((unhide U4_8).below d9 (by omega))
  have hq9 := d9.size
  clear HX8 HZ8 HO8 U1_8 U2_8 U3_8 U4_8
  have U5_9 := hide u9
  have U6_9 := hide v9
  clear d9 u9 v9
  obtain ⟨V10, hV10⟩ : ∃ V, ((V9.setCell ⟨w.heap.size + 2, 9, none⟩ (.slice (some ⟨g5, 0, none⟩) ss.length ss.length)).setCell ⟨w.heap.size + 2, 10, none⟩ (.slice (some ⟨g6, 0, none⟩) es.length es.length)) = V := ⟨_, rfl⟩
  have HB10 : Hid (Below w.heap.size w V10) := hide (by rw [← hV10]; exact (((unhide HB9).setCell (p := ⟨w.heap.size + 2, 9, none⟩) hp2 (.slice (some ⟨g5, 0, none⟩) ss.length ss.length)).setCell (p := ⟨w.heap.size + 2, 10, none⟩) hp2 (.slice (some ⟨g6, 0, none⟩) es.length es.length)))
  have HX10 : Hid (RA V10 w.heap.size (rC x1 x2 x3 x4 x5 (.slice a1 ls.length c1) (.slice a2 tw.length c2) (.slice a3 se.length c3) (.slice a4 du.length c4) (.slice a5 ss.length c5) (.slice a6 es.length c6) (.slice a7 la.length c7) x6)) := hide (by rw [← hV10]; exact (RA.other (RA.other (unhide HX9) (p := ⟨w.heap.size + 2, 9, none⟩) (by show w.heap.size ≠ w.heap.size + 2; omega) (.slice (some ⟨g5, 0, none⟩) ss.length ss.length)) (p := ⟨w.heap.size + 2, 10, none⟩) (by show w.heap.size ≠ w.heap.size + 2; omega) (.slice (some ⟨g6, 0, none⟩) es.length es.length)))
  have HZ10 : Hid (RA V10 (w.heap.size + 1) (rC 0 0 0 0 0 (.slice none 0 0) (.slice none 0 0) (.slice none 0 0) (.slice none 0 0) (.slice none 0 0) (.slice none 0 0) (.slice none 0 0) 0)) := hide (by rw [← hV10]; exact (RA.other (RA.other (unhide HZ9) (p := ⟨w.heap.size + 2, 9, none⟩) (by show w.heap.size + 1 ≠ w.heap.size + 2; omega) (.slice (some ⟨g5, 0, none⟩) ss.length ss.length)) (p := ⟨w.heap.size + 2, 10, none⟩) (by show w.heap.size + 1 ≠ w.heap.size + 2; omega) (.slice (some ⟨g6, 0, none⟩) es.length es.length)))
  have HO10 : Hid (RA V10 (w.heap.size + 2) (rC x1 x2 x3 x4 x5 (.slice (some ⟨g1, 0, none⟩) ls.length ls.length) (.slice (some ⟨g2, 0, none⟩) tw.length tw.length) (.slice (some ⟨g3, 0, none⟩) se.length se.length) (.slice (some ⟨g4, 0, none⟩) du.length du.length) (.slice (some ⟨g5, 0, none⟩) ss.length ss.length) (.slice (some ⟨g6, 0, none⟩) es.length es.length) (.slice none 0 0) 0)) := hide (by rw [← hV10]; exact (RA.set (RA.set (unhide HO9) (k := 9) (by omega) (.slice (some ⟨g5, 0, none⟩) ss.length ss.length)) (k := 10) (by omega) (.slice (some ⟨g6, 0, none⟩) es.length es.length)))
  have U1_10 : Hid (Lk.Upto V10 g1 ls.length ls.length ls) := hide (by rw [← hV10]; exact (uptoL_set (p := ⟨w.heap.size + 2, 10, none⟩) (v := (.slice (some ⟨g6, 0, none⟩) es.length es.length)) (uptoL_set (p := ⟨w.heap.size + 2, 9, none⟩) (v := (.slice (some ⟨g5, 0, none⟩) ss.length ss.length)) (unhide U1_9) (by show w.heap.size + 2 ≠ g1; omega)) (by show w.heap.size + 2 ≠ g1; omega)))
  have U2_10 : Hid (Tu.Upto V10 g2 tw.length tw.length tw) := hide (by rw [← hV10]; exact (Tq.uptoT_set (p := ⟨w.heap.size + 2, 10, none⟩) (v := (.slice (some ⟨g6, 0, none⟩) es.length es.length)) (Tq.uptoT_set (p := ⟨w.heap.size + 2, 9, none⟩) (v := (.slice (some ⟨g5, 0, none⟩) ss.length ss.length)) (unhide U2_9) (by show w.heap.size + 2 ≠ g2; omega)) (by show w.heap.size + 2 ≠ g2; omega)))
  have U3_10 : Hid (Tu.Upto V10 g3 se.length se.length se) := hide (by rw [← hV10]; exact (Tq.uptoT_set (p := ⟨w.heap.size + 2, 10, none⟩) (v := (.slice (some ⟨g6, 0, none⟩) es.length es.length)) (Tq.uptoT_set (p := ⟨w.heap.size + 2, 9, none⟩) (v := (.slice (some ⟨g5, 0, none⟩) ss.length ss.length)) (unhide U3_9) (by show w.heap.size + 2 ≠ g3; omega)) (by show w.heap.size + 2 ≠ g3; omega)))
  have U4_10 : Hid (Tu.Upto V10 g4 du.length du.length du) := hide (by rw [← hV10]; exact (Tq.uptoT_set (p := ⟨w.heap.size + 2, 10, none⟩) (v := (.slice (some ⟨g6, 0, none⟩) es.length es.length)) (Tq.uptoT_set (p := ⟨w.heap.size + 2, 9, none⟩) (v := (.slice (some ⟨g5, 0, none⟩) ss.length ss.length)) (unhide U4_9) (by show w.heap.size + 2 ≠ g4; omega)) (by show w.heap.size + 2 ≠ g4; omega)))
  have U5_10 : Hid (So.Upto V10 g5 ss.length ss.length ss) := hide (by rw [← hV10]; exact (Tq.uptoS_set (p := ⟨w.heap.size + 2, 10, none⟩) (v := (.slice (some ⟨g6, 0, none⟩) es.length es.length)) (Tq.uptoS_set (p := ⟨w.heap.size + 2, 9, none⟩) (v := (.slice (some ⟨g5, 0, none⟩) ss.length ss.length)) (unhide U5_9) (by show w.heap.size + 2 ≠ g5; omega)) (by show w.heap.size + 2 ≠ g5; omega)))
  have U6_10 : Hid (Tu.Upto V10 g6 es.length es.length es) := hide (by rw [← hV10]; exact (Tq.uptoT_set (p := ⟨w.heap.size + 2, 10, none⟩) (v := (.slice (some ⟨g6, 0, none⟩) es.length es.length)) (Tq.uptoT_set (p := ⟨w.heap.size + 2, 9, none⟩) (v := (.slice (some ⟨g5, 0, none⟩) ss.length ss.length)) (unhide U6_9) (by show w.heap.size + 2 ≠ g6; omega)) (by show w.heap.size + 2 ≠ g6; omega)))
  have hq10 : V10.heap.size = V9.heap.size := by rw [← hV10]; simp [World.setCell]
  have HV10 := hide hV10
  clear hV10
  have o9 := (unhide HO9).at (i := 9) rfl
  have f9 := (unhide HO9).free (i := 9) (by omega)
  have o10 := (unhide HO9).at (i := 10) rfl
  have f10 := (unhide HO9).free (i := 10) (by omega)
  have z11 := (unhide HX9).at (i := 11) rfl
  have hne : ¬ w.heap.size = w.heap.size + 2 := by omega
  go_wp2_with fail
  rw [unhide HV10]
  clear hne o9 f9 o10 f10 z11 HX9 HZ9 HO9 U1_9 U2_9 U3_9 U4_9 U5_9 U6_9
  refine (Ed.toS a7 la c7 _ hm7 ((unhide HR7).below (unhide HB10))).mono ?_
  rintro e V11 ⟨g7, rfl, d11, hg7, hz7, u11⟩
  have HB11 := hide ((unhide HB10).trans (d11.mono (unhide HB10).size))
  have HX11 := hide ((unhide HX10).below d11)
  have HZ11 := hide ((unhide HZ10).below d11)
  have HO11 := hide ((unhide HO10).below d11)
  have U1_11 := hide ((unhide U1_10).below d11 (by omega))
  have U2_11 := hide ((unhide U2_10).below d11 (by omega))
  have U3_11 := hide ((unhide U3_10).below d11 (by omega))
  have U4_11 := hide ((unhide U4_10).below d11 (by omega))
  have U5_11 := hide ((unhide U5_10).below d11 (by omega))
  have U6_11 := hide ((unhide U6_10).below d11 (by omega))
  have hq11 := d11.size
  clear HX10 HZ10 HO10 U1_10 U2_10 U3_10 U4_10 U5_10 U6_10
  have U7_11 := hide u11
  clear d11 u11
  obtain ⟨V12, hV12⟩ : ∃ V, ((V11.setCell ⟨w.heap.size + 2, 11, none⟩ (.slice (some ⟨g7, 0, none⟩) la.length la.length)).setCell ⟨w.heap.size + 2, 12, none⟩ (.int .i64 x6)) = V := ⟨_, rfl⟩
  have HB12 : Hid (Below w.heap.size w V12) := hide (by rw [← hV12]; exact (((unhide HB11).setCell (p := ⟨w.heap.size + 2, 11, none⟩) hp2 (.slice (some ⟨g7, 0, none⟩) la.length la.length)).setCell (p := ⟨w.heap.size + 2, 12, none⟩) hp2 (.int .i64 x6)))
  have HX12 : Hid (RA V12 w.heap.size (rC x1 x2 x3 x4 x5 (.slice a1 ls.length c1) (.slice a2 tw.length c2) (.slice a3 se.length c3) (.slice a4 du.length c4) (.slice a5 ss.length c5) (.slice a6 es.length c6) (.slice a7 la.length c7) x6)) := hide (by rw [← hV12]; exact (RA.other (RA.other (unhide HX11) (p := ⟨w.heap.size + 2, 11, none⟩) (by show w.heap.size ≠ w.heap.size + 2; omega) (.slice (some ⟨g7, 0, none⟩) la.length la.length)) (p := ⟨w.heap.size + 2, 12, none⟩) (by show w.heap.size ≠ w.heap.size + 2; omega) (.int .i64 x6)))
  have HZ12 : Hid (RA V12 (w.heap.size + 1) (rC 0 0 0 0 0 (.slice none 0 0) (.slice none 0 0) (.slice none 0 0) (.slice none 0 0) (.slice none 0 0) (.slice none 0 0) (.slice none 0 0) 0)) := hide (by rw [← hV12]; exact (RA.other (RA.other (unhide HZ11) (p := ⟨w.heap.size + 2, 11, none⟩) (by show w.heap.size + 1 ≠ w.heap.size + 2; omega) (.slice (some ⟨g7, 0, none⟩) la.length la.length)) (p := ⟨w.heap.size + 2, 12, none⟩) (by show w.heap.size + 1 ≠ w.heap.size + 2; omega) (.int .i64 x6)))
  have HO12 : Hid (RA V12 (w.heap.size + 2) (rC x1 x2 x3 x4 x5 (.slice (some ⟨g1, 0, none⟩) ls.length ls.length) (.slice (some ⟨g2, 0, none⟩) tw.length tw.length) (.slice (some ⟨g3, 0, none⟩) se.length se.length) (.slice (some ⟨g4, 0, none⟩) du.length du.length) (.slice (some ⟨g5, 0, none⟩) ss.length ss.length) (.slice (some ⟨g6, 0, none⟩) es.length es.length) (.slice (some ⟨g7, 0, none⟩) la.length la.length) x6)) := hide (by rw [← hV12]; exact (RA.set (RA.set (unhide HO11) (k := 11) (by omega) (.slice (some ⟨g7, 0, none⟩) la.length la.length)) (k := 12) (by omega) (.int .i64 x6)))
  have U1_12 : Hid (Lk.Upto V12 g1 ls.length ls.length ls) := hide (by rw [← hV12]; exact (uptoL_set (p := ⟨w.heap.size + 2, 12, none⟩) (v := (.int .i64 x6)) (uptoL_set (p := ⟨w.heap.size + 2, 11, none⟩) (v := (.slice (some ⟨g7, 0, none⟩) la.length la.length)) (unhide U1_11) (by show w.heap.size + 2 ≠ g1; omega)) (by show w.heap.size + 2 ≠ g1; omega)))
  have U2_12 : Hid (Tu.Upto V12 g2 tw.length tw.length tw) := hide (by rw [← hV12]; exact (Tq.uptoT_set (p := ⟨w.heap.size + 2, 12, none⟩) (v := (.int .i64 x6)) (Tq.uptoT_set (p := ⟨w.heap.size + 2, 11, none⟩) (v := (.slice (some ⟨g7, 0, none⟩) la.length la.length)) (unhide U2_11) (by show w.heap.size + 2 ≠ g2; omega)) (by show w.heap.size + 2 ≠ g2; omega)))
  have U3_12 : Hid (Tu.Upto V12 g3 se.length se.length se) := hide (by rw [← hV12]; exact (Tq.uptoT_set (p := ⟨w.heap.size + 2, 12, none⟩) (v := (.int .i64 x6)) (Tq.uptoT_set (p := ⟨w.heap.size + 2, 11, none⟩) (v := (.slice (some ⟨g7, 0, none⟩) la.length la.length)) (unhide U3_11) (by show w.heap.size + 2 ≠ g3; omega)) (by show w.heap.size + 2 ≠ g3; omega)))
  have U4_12 : Hid (Tu.Upto V12 g4 du.length du.length du) := hide (by rw [← hV12]; exact (Tq.uptoT_set (p := ⟨w.heap.size + 2, 12, none⟩) (v := (.int .i64 x6)) (Tq.uptoT_set (p := ⟨w.heap.size + 2, 11, none⟩) (v := (.slice (some ⟨g7, 0, none⟩) la.length la.length)) (unhide U4_11) (by show w.heap.size + 2 ≠ g4; omega)) (by show w.heap.size + 2 ≠ g4; omega)))
  have U5_12 : Hid (So.Upto V12 g5 ss.length ss.length ss) := hide (by rw [← hV12]; exact (Tq.uptoS_set (p := ⟨w.heap.size + 2, 12, none⟩) (v := (.int .i64 x6)) (Tq.uptoS_set (p := ⟨w.heap.size + 2, 11, none⟩) (v := (.slice (some ⟨g7, 0, none⟩) la.length la.length)) (unhide U5_11) (by show w.heap.size + 2 ≠ g5; omega)) (by show w.heap.size + 2 ≠ g5; omega)))
  have U6_12 : Hid (Tu.Upto V12 g6 es.length es.length es) := hide (by rw [← hV12]; exact (Tq.uptoT_set (p := ⟨w.heap.size + 2, 12, none⟩) (v := (.int .i64 x6)) (Tq.uptoT_set (p := ⟨w.heap.size + 2, 11, none⟩) (v := (.slice (some ⟨g7, 0, none⟩) la.length la.length)) (unhide U6_11) (by show w.heap.size + 2 ≠ g6; omega)) (by show w.heap.size + 2 ≠ g6; omega)))
  have U7_12 : Hid (Ed.Upto V12 g7 la.length la.length la) := hide (by rw [← hV12]; exact (uptoE_set (p := ⟨w.heap.size + 2, 12, none⟩) (v := (.int .i64 x6)) (uptoE_set (p := ⟨w.heap.size + 2, 11, none⟩) (v := (.slice (some ⟨g7, 0, none⟩) la.length la.length)) (unhide U7_11) (by show w.heap.size + 2 ≠ g7; omega)) (by show w.heap.size + 2 ≠ g7; omega)))
  have hq12 : V12.heap.size = V11.heap.size := by rw [← hV12]; simp [World.setCell]
  have HV12 := hide hV12
  clear hV12
  have o11 := (unhide HO11).at (i := 11) rfl
  have f11 := (unhide HO11).free (i := 11) (by omega)
  have o12 := (unhide HO11).at (i := 12) rfl
  have f12 := (unhide HO11).free (i := 12) (by omega)
  have z12 := (unhide HX11).at (i := 12) rfl
  have hne : ¬ w.heap.size = w.heap.size + 2 := by omega
  have HOF : Hid (RA ((V11.setCell ⟨w.heap.size + 2, 11, none⟩ (.slice (some ⟨g7, 0, none⟩) la.length la.length)).setCell ⟨w.heap.size + 2, 12, none⟩ (.int .i64 x6)) (w.heap.size + 2) (rC x1 x2 x3 x4 x5 (.slice (some ⟨g1, 0, none⟩) ls.length ls.length) (.slice (some ⟨g2, 0, none⟩) tw.length tw.length) (.slice (some ⟨g3, 0, none⟩) se.length se.length) (.slice (some ⟨g4, 0, none⟩) du.length du.length) (.slice (some ⟨g5, 0, none⟩) ss.length ss.length) (.slice (some ⟨g6, 0, none⟩) es.length es.length) (.slice (some ⟨g7, 0, none⟩) la.length la.length) x6)) := hide (by rw [unhide HV12]; exact unhide HO12)
  have HZF : Hid (((V11.setCell ⟨w.heap.size + 2, 11, none⟩ (.slice (some ⟨g7, 0, none⟩) la.length la.length)).setCell ⟨w.heap.size + 2, 12, none⟩ (.int .i64 x6)).there (w.heap.size + 1) 0 13) := hide (by rw [unhide HV12]; exact (unhide HZ12).2.1)
  go_wp2_with (first | (refine wpList_loadR _ rfl rfl rfl (unhide HOF) ?_) | (refine wpList_storeR2 _ _ rfl rfl (rC x1 x2 x3 x4 x5 (.slice (some ⟨g1, 0, none⟩) ls.length ls.length) (.slice (some ⟨g2, 0, none⟩) tw.length tw.length) (.slice (some ⟨g3, 0, none⟩) se.length se.length) (.slice (some ⟨g4, 0, none⟩) du.length du.length) (.slice (some ⟨g5, 0, none⟩) ss.length ss.length) (.slice (some ⟨g6, 0, none⟩) es.length es.length) (.slice (some ⟨g7, 0, none⟩) la.length la.length) x6) (rC_ones rfl rfl rfl rfl rfl rfl rfl) rfl rfl (unhide HZF) ?_; rw [unhide HV12]; intro VF raF bbF hsF kkF; have HRF := hide raF; have HBF := hide (bbF _ _ (unhide HB12) (by omega)); have HUF := hide kkF; have hqF := hsF; clear raF bbF hsF kkF))
  refine bodyPost_ret (resultsR rfl _ _ rfl (unhide HRF)) rfl ⟨g1, g2, g3, g4, g5, g6, g7, rfl, unhide HBF, ⟨by omega, by omega, by omega, by omega, by omega, by omega, by omega, by omega⟩, (unhide U1_12).of_block (unhide HUF _ (by omega)), (unhide U2_12).of_block (unhide HUF _ (by omega)), (unhide U3_12).of_block (unhide HUF _ (by omega)), (unhide U4_12).of_block (unhide HUF _ (by omega)), (unhide U5_12).of_block (unhide HUF _ (by omega)), (unhide U6_12).of_block (unhide HUF _ (by omega)), (unhide U7_12).of_block (unhide HUF _ (by omega))⟩
set_option maxHeartbeats 16000000 in
theorem eqR (x1 x2 x3 x4 x5 x6 : Int) (a1 a2 a3 a4 a5 a6 a7 : Option Addr) (c1 c2 c3 c4 c5 c6 c7 : Nat) (b1 b2 b3 b4 b5 b6 b7 : Option Addr) (d1 d2 d3 d4 d5 d6 d7 : Nat) (ls : List Lk.R) (tw : List Tu.R) (se : List Tu.R) (du : List Tu.R) (ss : List So.R) (es : List Tu.R) (la : List Ed.R) (w : World) (hm1 : ls.length ≤ 1048576) (hm2 : tw.length ≤ 1048576) (hm3 : se.length ≤ 1048576) (hm4 : du.length ≤ 1048576) (hm5 : ss.length ≤ 1048576) (hm6 : es.length ≤ 1048576) (hm7 : la.length ≤ 1048576) (hr1 : Lk.RM w a1 ls) (hr2 : Tu.RM w a2 tw) (hr3 : Tu.RM w a3 se) (hr4 : Tu.RM w a4 du) (hr5 : So.RM w a5 ss) (hr6 : Tu.RM w a6 es) (hr7 : Ed.RM w a7 la) (hs1 : Lk.RM w b1 ls) (hs2 : Tu.RM w b2 tw) (hs3 : Tu.RM w b3 se) (hs4 : Tu.RM w b4 du) (hs5 : So.RM w b5 ss) (hs6 : Tu.RM w b6 es) (hs7 : Ed.RM w b7 la) :
    Calls Tryz.prog 11 #[.agg #[.int .i64 x1, .int .i64 x2, .int .i64 x3, .int .i64 x4, .int .i64 x5, .slice a1 ls.length c1, .slice a2 tw.length c2, .slice a3 se.length c3, .slice a4 du.length c4, .slice a5 ss.length c5, .slice a6 es.length c6, .slice a7 la.length c7, .int .i64 x6], .agg #[.int .i64 x1, .int .i64 x2, .int .i64 x3, .int .i64 x4, .int .i64 x5, .slice b1 ls.length d1, .slice b2 tw.length d2, .slice b3 se.length d3, .slice b4 du.length d4, .slice b5 ss.length d5, .slice b6 es.length d6, .slice b7 la.length d7, .int .i64 x6]] w fun e w' => e = .returned (.bool true) ∧ Below w.heap.size w w' := by
  have HA1 : Hid (Below w.heap.size w (w.alloc (.cells #[.int .i64 x1, .int .i64 x2, .int .i64 x3, .int .i64 x4, .int .i64 x5, .slice a1 ls.length c1, .slice a2 tw.length c2, .slice a3 se.length c3, .slice a4 du.length c4, .slice a5 ss.length c5, .slice a6 es.length c6, .slice a7 la.length c7, .int .i64 x6] 38))) := hide ((Below.refl _ _).alloc (Nat.le_refl _) _)
  have HB0 : Hid (Below w.heap.size w ((w.alloc (.cells #[.int .i64 x1, .int .i64 x2, .int .i64 x3, .int .i64 x4, .int .i64 x5, .slice a1 ls.length c1, .slice a2 tw.length c2, .slice a3 se.length c3, .slice a4 du.length c4, .slice a5 ss.length c5, .slice a6 es.length c6, .slice a7 la.length c7, .int .i64 x6] 38)).alloc (.cells #[.int .i64 x1, .int .i64 x2, .int .i64 x3, .int .i64 x4, .int .i64 x5, .slice b1 ls.length d1, .slice b2 tw.length d2, .slice b3 se.length d3, .slice b4 du.length d4, .slice b5 ss.length d5, .slice b6 es.length d6, .slice b7 la.length d7, .int .i64 x6] 38))) := hide ((unhide HA1).alloc (unhide HA1).size _)
  have HX0 : Hid (RA ((w.alloc (.cells #[.int .i64 x1, .int .i64 x2, .int .i64 x3, .int .i64 x4, .int .i64 x5, .slice a1 ls.length c1, .slice a2 tw.length c2, .slice a3 se.length c3, .slice a4 du.length c4, .slice a5 ss.length c5, .slice a6 es.length c6, .slice a7 la.length c7, .int .i64 x6] 38)).alloc (.cells #[.int .i64 x1, .int .i64 x2, .int .i64 x3, .int .i64 x4, .int .i64 x5, .slice b1 ls.length d1, .slice b2 tw.length d2, .slice b3 se.length d3, .slice b4 du.length d4, .slice b5 ss.length d5, .slice b6 es.length d6, .slice b7 la.length d7, .int .i64 x6] 38)) w.heap.size (rC x1 x2 x3 x4 x5 (.slice a1 ls.length c1) (.slice a2 tw.length c2) (.slice a3 se.length c3) (.slice a4 du.length c4) (.slice a5 ss.length c5) (.slice a6 es.length c6) (.slice a7 la.length c7) x6)) := hide ((ra_new w _ rfl _).below ((Below.refl _ _).alloc (Nat.le_refl _) _))
  have HY0 : Hid (RA ((w.alloc (.cells #[.int .i64 x1, .int .i64 x2, .int .i64 x3, .int .i64 x4, .int .i64 x5, .slice a1 ls.length c1, .slice a2 tw.length c2, .slice a3 se.length c3, .slice a4 du.length c4, .slice a5 ss.length c5, .slice a6 es.length c6, .slice a7 la.length c7, .int .i64 x6] 38)).alloc (.cells #[.int .i64 x1, .int .i64 x2, .int .i64 x3, .int .i64 x4, .int .i64 x5, .slice b1 ls.length d1, .slice b2 tw.length d2, .slice b3 se.length d3, .slice b4 du.length d4, .slice b5 ss.length d5, .slice b6 es.length d6, .slice b7 la.length d7, .int .i64 x6] 38)) (w.heap.size + 1) (rC x1 x2 x3 x4 x5 (.slice b1 ls.length d1) (.slice b2 tw.length d2) (.slice b3 se.length d3) (.slice b4 du.length d4) (.slice b5 ss.length d5) (.slice b6 es.length d6) (.slice b7 la.length d7) x6)) := hide (by have := ra_new (w.alloc (.cells #[.int .i64 x1, .int .i64 x2, .int .i64 x3, .int .i64 x4, .int .i64 x5, .slice a1 ls.length c1, .slice a2 tw.length c2, .slice a3 se.length c3, .slice a4 du.length c4, .slice a5 ss.length c5, .slice a6 es.length c6, .slice a7 la.length c7, .int .i64 x6] 38)) (rC x1 x2 x3 x4 x5 (.slice b1 ls.length d1) (.slice b2 tw.length d2) (.slice b3 se.length d3) (.slice b4 du.length d4) (.slice b5 ss.length d5) (.slice b6 es.length d6) (.slice b7 la.length d7) x6) rfl 38; rw [show (w.alloc (.cells #[.int .i64 x1, .int .i64 x2, .int .i64 x3, .int .i64 x4, .int .i64 x5, .slice a1 ls.length c1, .slice a2 tw.length c2, .slice a3 se.length c3, .slice a4 du.length c4, .slice a5 ss.length c5, .slice a6 es.length c6, .slice a7 la.length c7, .int .i64 x6] 38)).heap.size = w.heap.size + 1 by simp] at this; exact this)
  have HR1 := hide hr1
  have HS1 := hide hs1
  have HR2 := hide hr2
  have HS2 := hide hs2
  have HR3 := hide hr3
  have HS3 := hide hs3
  have HR4 := hide hr4
  have HS4 := hide hs4
  have HR5 := hide hr5
  have HS5 := hide hs5
  have HR6 := hide hr6
  have HS6 := hide hs6
  have HR7 := hide hr7
  have HS7 := hide hs7
  clear hr1 hs1 hr2 hs2 hr3 hs3 hr4 hs4 hr5 hs5 hr6 hs6 hr7 hs7 HA1
  have hx1 : (x1 != x1) = false := by simp
  have hx2 : (x2 != x2) = false := by simp
  have hx3 : (x3 != x3) = false := by simp
  have hx4 : (x4 != x4) = false := by simp
  have hx5 : (x5 != x5) = false := by simp
  have hx6 : (x6 != x6) = false := by simp
  go_enter Tryz.func11, Tryz.ntmps11
  go_wp2_with fail
  generalize hW : ((w.alloc (.cells #[.int .i64 x1, .int .i64 x2, .int .i64 x3, .int .i64 x4, .int .i64 x5, .slice a1 ls.length c1, .slice a2 tw.length c2, .slice a3 se.length c3, .slice a4 du.length c4, .slice a5 ss.length c5, .slice a6 es.length c6, .slice a7 la.length c7, .int .i64 x6] 38)).alloc (.cells #[.int .i64 x1, .int .i64 x2, .int .i64 x3, .int .i64 x4, .int .i64 x5, .slice b1 ls.length d1, .slice b2 tw.length d2, .slice b3 se.length d3, .slice b4 du.length d4, .slice b5 ss.length d5, .slice b6 es.length d6, .slice b7 la.length d7, .int .i64 x6] 38)) = V0 at *
  clear hW
  refine (Lk.eqS a1 b1 ls c1 d1 _ hm1 ((unhide HR1).below (unhide HB0)) ((unhide HS1).below (unhide HB0))).mono ?_
  rintro e V1 ⟨rfl, d_⟩
  have HB1 := hide ((unhide HB0).trans (d_.mono (unhide HB0).size))
  have HX1 := hide ((unhide HX0).below d_)
  have HY1 := hide ((unhide HY0).below d_)
  clear d_ HX0 HY0
  have z6 := (unhide HX1).at (i := 6) rfl
  have y6 := (unhide HY1).at (i := 6) rfl
  go_wp2_with fail
  clear z6 y6
  refine (Tu.eqS a2 b2 tw c2 d2 _ hm2 ((unhide HR2).below (unhide HB1)) ((unhide HS2).below (unhide HB1))).mono ?_
  rintro e V2 ⟨rfl, d_⟩
  have HB2 := hide ((unhide HB1).trans (d_.mono (unhide HB1).size))
  have HX2 := hide ((unhide HX1).below d_)
  have HY2 := hide ((unhide HY1).below d_)
  clear d_ HX1 HY1
  have z7 := (unhide HX2).at (i := 7) rfl
  have y7 := (unhide HY2).at (i := 7) rfl
  go_wp2_with fail
  clear z7 y7
  refine (Tu.eqS a3 b3 se c3 d3 _ hm3 ((unhide HR3).below (unhide HB2)) ((unhide HS3).below (unhide HB2))).mono ?_
  rintro e V3 ⟨rfl, d_⟩
  have HB3 := hide ((unhide HB2).trans (d_.mono (unhide HB2).size))
  have HX3 := hide ((unhide HX2).below d_)
  have HY3 := hide ((unhide HY2).below d_)
  clear d_ HX2 HY2
  have z8 := (unhide HX3).at (i := 8) rfl
  have y8 := (unhide HY3).at (i := 8) rfl
  go_wp2_with fail
  clear z8 y8
  refine (Tu.eqS a4 b4 du c4 d4 _ hm4 ((unhide HR4).below (unhide HB3)) ((unhide HS4).below (unhide HB3))).mono ?_
  rintro e V4 ⟨rfl, d_⟩
  have HB4 := hide ((unhide HB3).trans (d_.mono (unhide HB3).size))
  have HX4 := hide ((unhide HX3).below d_)
  have HY4 := hide ((unhide HY3).below d_)
  clear d_ HX3 HY3
  have z9 := (unhide HX4).at (i := 9) rfl
  have y9 := (unhide HY4).at (i := 9) rfl
  have z10 := (unhide HX4).at (i := 10) rfl
  have y10 := (unhide HY4).at (i := 10) rfl
  go_wp2_with fail
  clear z9 y9 z10 y10
  refine (Tq.eq a5 ss c5 a6 es c6 b5 d5 b6 d6 _ hm5 hm6 ((unhide HR5).below (unhide HB4)) ((unhide HR6).below (unhide HB4)) ((unhide HS5).below (unhide HB4)) ((unhide HS6).below (unhide HB4))).mono ?_
  rintro e V5 ⟨rfl, d_⟩
  have HB5 := hide ((unhide HB4).trans (d_.mono (unhide HB4).size))
  have HX5 := hide ((unhide HX4).below d_)
  have HY5 := hide ((unhide HY4).below d_)
  clear d_ HX4 HY4
  have z11 := (unhide HX5).at (i := 11) rfl
  have y11 := (unhide HY5).at (i := 11) rfl
  go_wp2_with fail
  clear z11 y11
  refine (Ed.eqS a7 b7 la c7 d7 _ hm7 ((unhide HR7).below (unhide HB5)) ((unhide HS7).below (unhide HB5))).mono ?_
  rintro e V6 ⟨rfl, d_⟩
  have HB6 := hide ((unhide HB5).trans (d_.mono (unhide HB5).size))
  have HX6 := hide ((unhide HX5).below d_)
  have HY6 := hide ((unhide HY5).below d_)
  clear d_ HX5 HY5
  have z12 := (unhide HX6).at (i := 12) rfl
  have y12 := (unhide HY6).at (i := 12) rfl
  go_wp2_with fail
  go_ret
  exact ⟨rfl, unhide HB6⟩
end Rt
end Go.Proofs.YtffclijcfngeeaaGreat
namespace Go.Proofs.YtffclijcfngeeaaGreat
open Go.ChangeShapes Go.WideShapes Go.ChangeAt Go.RowKit
set_option linter.unusedVariables false
set_option linter.unusedSimpArgs false
set_option maxRecDepth 100000
attribute [local go_sem ↓] Go.wp_at_zero Go.wp_at_succ
namespace Rt
open W1
theorem RA.but {w w' : World} {b : Nat} {cs : List Value} (h : RA w b cs) (hb : w'.heap[b]? = w.heap[b]?) : RA w' b cs := by
  have c : ∀ q, w'.cell? ⟨b, q, none⟩ = w.cell? ⟨b, q, none⟩ := fun q => World.cell?_of_block (a := ⟨b, q, none⟩) hb
  have f : ∀ q, w'.frozen? ⟨b, q, none⟩ = w.frozen? ⟨b, q, none⟩ := fun q => World.frozen?_of_block (a := ⟨b, q, none⟩) hb
  exact ⟨fun j u hu => (c _).trans (h.1 j u hu), fun j hj => ⟨by rw [c]; exact (h.2.1 j hj).1, by rw [f]; exact (h.2.1 j hj).2⟩, h.2.2⟩
set_option maxHeartbeats 16000000 in
theorem markRt (x1 x2 x3 x4 x5 x6 : Int) (a1 a2 a3 a4 a5 a6 a7 : Option Addr) (c1 c2 c3 c4 c5 c6 c7 : Nat) (b0 b1 b2 b3 b4 b5 b6 b7 : Nat) (K0 K1 K2 K3 K4 K5 K6 K7 : Int) (ls : List Lk.R) (tw : List Tu.R) (se : List Tu.R) (du : List Tu.R) (ss : List So.R) (es : List Tu.R) (la : List Ed.R) (w : World) (hK : 0 ≤ K0) (hK1 : K0 ≤ 900000000) (hk1 : K1 = K0 + 6 * (ls.length : Int)) (hk2 : K2 = K1 + 3 * (tw.length : Int)) (hk3 : K3 = K2 + 3 * (se.length : Int)) (hk4 : K4 = K3 + 3 * (du.length : Int)) (hk5 : K5 = K4 + 3 * (ss.length : Int)) (hk6 : K6 = K5 + 3 * (es.length : Int)) (hk7 : K7 = K6 + 2 * (la.length : Int)) (hm1 : ls.length ≤ 1048576) (hm2 : tw.length ≤ 1048576) (hm3 : se.length ≤ 1048576) (hm4 : du.length ≤ 1048576) (hm5 : ss.length ≤ 1048576) (hm6 : es.length ≤ 1048576) (hm7 : la.length ≤ 1048576) (hb0 : b0 ≤ b1) (hb1 : b1 ≤ b2) (hb2 : b2 ≤ b3) (hb3 : b3 ≤ b4) (hb4 : b4 ≤ b5) (hb5 : b5 ≤ b6) (hb6 : b6 ≤ b7) (hb7 : b7 ≤ w.heap.size) (hl1 : Lk.Lst w a1 (ls) b0 b1) (hl2 : Tu.Lst w a2 (tw) b1 b2) (hl3 : Tu.Lst w a3 (se) b2 b3) (hl4 : Tu.Lst w a4 (du) b3 b4) (hl5 : So.Lst w a5 (ss) b4 b5) (hl6 : Tu.Lst w a6 (es) b5 b6) (hl7 : Ed.Lst w a7 (la) b6 b7) :
    Calls Tryz.prog 13 #[.agg #[.int .i64 x1, .int .i64 x2, .int .i64 x3, .int .i64 x4, .int .i64 x5, .slice a1 ls.length c1, .slice a2 tw.length c2, .slice a3 se.length c3, .slice a4 du.length c4, .slice a5 ss.length c5, .slice a6 es.length c6, .slice a7 la.length c7, .int .i64 x6], .int .i64 K0] w fun e w' => e = .returned (.int .i64 K7) ∧ w.heap.size ≤ w'.heap.size ∧ Below (min b0 w.heap.size) w w' ∧ (Lk.Lst w' a1 (Lk.marks K0 ls.length) b0 b1 ∧ Tu.Lst w' a2 (Tu.marks K1 tw.length) b1 b2 ∧ Tu.Lst w' a3 (Tu.marks K2 se.length) b2 b3 ∧ Tu.Lst w' a4 (Tu.marks K3 du.length) b3 b4 ∧ So.Lst w' a5 (So.marks K4 ss.length) b4 b5 ∧ Tu.Lst w' a6 (Tu.marks K5 es.length) b5 b6 ∧ Ed.Lst w' a7 (Ed.marks K6 la.length) b6 b7) ∧ ∀ k, k < w.heap.size → (k < b0 ∨ b7 ≤ k) → w'.heap[k]? = w.heap[k]? := by
  have HA : Hid (Below w.heap.size w (w.alloc (.cells #[.int .i64 x1, .int .i64 x2, .int .i64 x3, .int .i64 x4, .int .i64 x5, .slice a1 ls.length c1, .slice a2 tw.length c2, .slice a3 se.length c3, .slice a4 du.length c4, .slice a5 ss.length c5, .slice a6 es.length c6, .slice a7 la.length c7, .int .i64 x6] 38))) := hide ((Below.refl _ _).alloc (Nat.le_refl _) _)
  have HB0 : Hid (Below (min b0 w.heap.size) w (w.alloc (.cells #[.int .i64 x1, .int .i64 x2, .int .i64 x3, .int .i64 x4, .int .i64 x5, .slice a1 ls.length c1, .slice a2 tw.length c2, .slice a3 se.length c3, .slice a4 du.length c4, .slice a5 ss.length c5, .slice a6 es.length c6, .slice a7 la.length c7, .int .i64 x6] 38))) := hide ((unhide HA).mono (Nat.min_le_right _ _))
  have HX0 : Hid (RA (w.alloc (.cells #[.int .i64 x1, .int .i64 x2, .int .i64 x3, .int .i64 x4, .int .i64 x5, .slice a1 ls.length c1, .slice a2 tw.length c2, .slice a3 se.length c3, .slice a4 du.length c4, .slice a5 ss.length c5, .slice a6 es.length c6, .slice a7 la.length c7, .int .i64 x6] 38)) w.heap.size (rC x1 x2 x3 x4 x5 (.slice a1 ls.length c1) (.slice a2 tw.length c2) (.slice a3 se.length c3) (.slice a4 du.length c4) (.slice a5 ss.length c5) (.slice a6 es.length c6) (.slice a7 la.length c7) x6)) := hide (ra_new w _ rfl _)
  have hq0 : (w.alloc (.cells #[.int .i64 x1, .int .i64 x2, .int .i64 x3, .int .i64 x4, .int .i64 x5, .slice a1 ls.length c1, .slice a2 tw.length c2, .slice a3 se.length c3, .slice a4 du.length c4, .slice a5 ss.length c5, .slice a6 es.length c6, .slice a7 la.length c7, .int .i64 x6] 38)).heap.size = w.heap.size + 1 := by simp
  have U1_0 := hide (hl1.below (unhide HA))
  have U2_0 := hide (hl2.below (unhide HA))
  have U3_0 := hide (hl3.below (unhide HA))
  have U4_0 := hide (hl4.below (unhide HA))
  have U5_0 := hide (hl5.below (unhide HA))
  have U6_0 := hide (hl6.below (unhide HA))
  have U7_0 := hide (hl7.below (unhide HA))
  clear hl1 hl2 hl3 hl4 hl5 hl6 hl7
  have C0 := hide (fun W => Lk.markF a1 c1 b0 b1 K0 ls W (by omega) (by omega) hm1)
  rw [← hk1] at C0
  have C1 := hide (fun W => Tu.markF a2 c2 b1 b2 K1 tw W (by omega) (by omega) hm2)
  rw [← hk2] at C1
  have C2 := hide (fun W => Tu.markF a3 c3 b2 b3 K2 se W (by omega) (by omega) hm3)
  rw [← hk3] at C2
  have C3 := hide (fun W => Tu.markF a4 c4 b3 b4 K3 du W (by omega) (by omega) hm4)
  rw [← hk4] at C3
  have C4 := hide (fun W => Tq.mark a5 c5 a6 c6 b4 b5 b6 K4 ss es W (by omega) (by omega) hm5 hm6 (by omega) (by omega))
  rw [← hk5, ← hk6] at C4
  have C5 := hide (fun W => Ed.markF a7 c7 b6 b7 K6 la W (by omega) (by omega) hm7)
  rw [← hk7] at C5
  have HK1 := hide hk1
  have HK2 := hide hk2
  have HK3 := hide hk3
  have HK4 := hide hk4
  have HK5 := hide hk5
  have HK6 := hide hk6
  have HK7 := hide hk7
  clear hk1 hk2 hk3 hk4 hk5 hk6 hk7
  go_enter Tryz.func13, Tryz.ntmps13
  go_wp2_with fail
  generalize hW : w.alloc (.cells #[.int .i64 x1, .int .i64 x2, .int .i64 x3, .int .i64 x4, .int .i64 x5, .slice a1 ls.length c1, .slice a2 tw.length c2, .slice a3 se.length c3, .slice a4 du.length c4, .slice a5 ss.length c5, .slice a6 es.length c6, .slice a7 la.length c7, .int .i64 x6] 38) = V0 at *
  clear hW
  refine (unhide C0 _ (unhide U1_0)).mono ?_
  rintro e V1 ⟨rfl, hz0, d_, f_, k_⟩
  have HB1 := hide ((unhide HB0).trans (d_.mono (by omega)))
  have HX1 := hide ((unhide HX0).but (k_ w.heap.size (by omega) (.inr (by omega))))
  have U1_1 := hide f_
  have U2_1 := hide ((unhide U2_0).but (p := fun k => k < b0 ∨ b1 ≤ k) hz0 (fun k hk h => k_ k hk h) (fun k h1 h2 => by omega))
  have U3_1 := hide ((unhide U3_0).but (p := fun k => k < b0 ∨ b1 ≤ k) hz0 (fun k hk h => k_ k hk h) (fun k h1 h2 => by omega))
  have U4_1 := hide ((unhide U4_0).but (p := fun k => k < b0 ∨ b1 ≤ k) hz0 (fun k hk h => k_ k hk h) (fun k h1 h2 => by omega))
  have U5_1 := hide ((unhide U5_0).but (p := fun k => k < b0 ∨ b1 ≤ k) hz0 (fun k hk h => k_ k hk h) (fun k h1 h2 => by omega))
  have U6_1 := hide ((unhide U6_0).but (p := fun k => k < b0 ∨ b1 ≤ k) hz0 (fun k hk h => k_ k hk h) (fun k h1 h2 => by omega))
  have U7_1 := hide ((unhide U7_0).but (p := fun k => k < b0 ∨ b1 ≤ k) hz0 (fun k hk h => k_ k hk h) (fun k h1 h2 => by omega))
  have HQ0 := hide k_
  clear d_ f_ k_ HX0 U1_0 U2_0 U3_0 U4_0 U5_0 U6_0 U7_0
  have z6 := (unhide HX1).at (i := 6) rfl
  go_wp2_with fail
  clear z6
  refine (unhide C1 _ (unhide U2_1)).mono ?_
  rintro e V2 ⟨rfl, hz1, d_, f_, k_⟩
  have HB2 := hide ((unhide HB1).trans (d_.mono (by omega)))
  have HX2 := hide ((unhide HX1).but (k_ w.heap.size (by omega) (.inr (by omega))))
  have U1_2 := hide ((unhide U1_1).but (p := fun k => k < b1 ∨ b2 ≤ k) hz1 (fun k hk h => k_ k hk h) (fun k h1 h2 => by omega))
  have U2_2 := hide f_
  have U3_2 := hide ((unhide U3_1).but (p := fun k => k < b1 ∨ b2 ≤ k) hz1 (fun k hk h => k_ k hk h) (fun k h1 h2 => by omega))
  have U4_2 := hide ((unhide U4_1).but (p := fun k => k < b1 ∨ b2 ≤ k) hz1 (fun k hk h => k_ k hk h) (fun k h1 h2 => by omega))
  have U5_2 := hide ((unhide U5_1).but (p := fun k => k < b1 ∨ b2 ≤ k) hz1 (fun k hk h => k_ k hk h) (fun k h1 h2 => by omega))
  have U6_2 := hide ((unhide U6_1).but (p := fun k => k < b1 ∨ b2 ≤ k) hz1 (fun k hk h => k_ k hk h) (fun k h1 h2 => by omega))
  have U7_2 := hide ((unhide U7_1).but (p := fun k => k < b1 ∨ b2 ≤ k) hz1 (fun k hk h => k_ k hk h) (fun k h1 h2 => by omega))
  have HQ1 := hide k_
  clear d_ f_ k_ HX1 U1_1 U2_1 U3_1 U4_1 U5_1 U6_1 U7_1
  have z7 := (unhide HX2).at (i := 7) rfl
  go_wp2_with fail
  clear z7
  refine (unhide C2 _ (unhide U3_2)).mono ?_
  rintro e V3 ⟨rfl, hz2, d_, f_, k_⟩
  have HB3 := hide ((unhide HB2).trans (d_.mono (by omega)))
  have HX3 := hide ((unhide HX2).but (k_ w.heap.size (by omega) (.inr (by omega))))
  have U1_3 := hide ((unhide U1_2).but (p := fun k => k < b2 ∨ b3 ≤ k) hz2 (fun k hk h => k_ k hk h) (fun k h1 h2 => by omega))
  have U2_3 := hide ((unhide U2_2).but (p := fun k => k < b2 ∨ b3 ≤ k) hz2 (fun k hk h => k_ k hk h) (fun k h1 h2 => by omega))
  have U3_3 := hide f_
  have U4_3 := hide ((unhide U4_2).but (p := fun k => k < b2 ∨ b3 ≤ k) hz2 (fun k hk h => k_ k hk h) (fun k h1 h2 => by omega))
  have U5_3 := hide ((unhide U5_2).but (p := fun k => k < b2 ∨ b3 ≤ k) hz2 (fun k hk h => k_ k hk h) (fun k h1 h2 => by omega))
  have U6_3 := hide ((unhide U6_2).but (p := fun k => k < b2 ∨ b3 ≤ k) hz2 (fun k hk h => k_ k hk h) (fun k h1 h2 => by omega))
  have U7_3 := hide ((unhide U7_2).but (p := fun k => k < b2 ∨ b3 ≤ k) hz2 (fun k hk h => k_ k hk h) (fun k h1 h2 => by omega))
  have HQ2 := hide k_
  clear d_ f_ k_ HX2 U1_2 U2_2 U3_2 U4_2 U5_2 U6_2 U7_2
  have z8 := (unhide HX3).at (i := 8) rfl
  go_wp2_with fail
  clear z8
  refine (unhide C3 _ (unhide U4_3)).mono ?_
  rintro e V4 ⟨rfl, hz3, d_, f_, k_⟩
  have HB4 := hide ((unhide HB3).trans (d_.mono (by omega)))
  have HX4 := hide ((unhide HX3).but (k_ w.heap.size (by omega) (.inr (by omega))))
  have U1_4 := hide ((unhide U1_3).but (p := fun k => k < b3 ∨ b4 ≤ k) hz3 (fun k hk h => k_ k hk h) (fun k h1 h2 => by omega))
  have U2_4 := hide ((unhide U2_3).but (p := fun k => k < b3 ∨ b4 ≤ k) hz3 (fun k hk h => k_ k hk h) (fun k h1 h2 => by omega))
  have U3_4 := hide ((unhide U3_3).but (p := fun k => k < b3 ∨ b4 ≤ k) hz3 (fun k hk h => k_ k hk h) (fun k h1 h2 => by omega))
  have U4_4 := hide f_
  have U5_4 := hide ((unhide U5_3).but (p := fun k => k < b3 ∨ b4 ≤ k) hz3 (fun k hk h => k_ k hk h) (fun k h1 h2 => by omega))
  have U6_4 := hide ((unhide U6_3).but (p := fun k => k < b3 ∨ b4 ≤ k) hz3 (fun k hk h => k_ k hk h) (fun k h1 h2 => by omega))
  have U7_4 := hide ((unhide U7_3).but (p := fun k => k < b3 ∨ b4 ≤ k) hz3 (fun k hk h => k_ k hk h) (fun k h1 h2 => by omega))
  have HQ3 := hide k_
  clear d_ f_ k_ HX3 U1_3 U2_3 U3_3 U4_3 U5_3 U6_3 U7_3
  have z9 := (unhide HX4).at (i := 9) rfl
  have z10 := (unhide HX4).at (i := 10) rfl
  go_wp2_with fail
  clear z9 z10
  refine (unhide C4 _ (by omega) (unhide U5_4) (unhide U6_4)).mono ?_
  rintro e V5 ⟨rfl, hz4, d_, ⟨f_, g_⟩, k_⟩
  have HB5 := hide ((unhide HB4).trans (d_.mono (by omega)))
  have HX5 := hide ((unhide HX4).but (k_ w.heap.size (by omega) (.inr (by omega))))
  have U1_5 := hide ((unhide U1_4).but (p := fun k => k < b4 ∨ b6 ≤ k) hz4 (fun k hk h => k_ k hk h) (fun k h1 h2 => by omega))
  have U2_5 := hide ((unhide U2_4).but (p := fun k => k < b4 ∨ b6 ≤ k) hz4 (fun k hk h => k_ k hk h) (fun k h1 h2 => by omega))
  have U3_5 := hide ((unhide U3_4).but (p := fun k => k < b4 ∨ b6 ≤ k) hz4 (fun k hk h => k_ k hk h) (fun k h1 h2 => by omega))
  have U4_5 := hide ((unhide U4_4).but (p := fun k => k < b4 ∨ b6 ≤ k) hz4 (fun k hk h => k_ k hk h) (fun k h1 h2 => by omega))
  have U5_5 := hide f_
  have U6_5 := hide g_
  have U7_5 := hide ((unhide U7_4).but (p := fun k => k < b4 ∨ b6 ≤ k) hz4 (fun k hk h => k_ k hk h) (fun k h1 h2 => by omega))
  have HQ4 := hide k_
  clear d_ f_ k_ g_ HX4 U1_4 U2_4 U3_4 U4_4 U5_4 U6_4 U7_4
  have z11 := (unhide HX5).at (i := 11) rfl
  go_wp2_with fail
  clear z11
  refine (unhide C5 _ (unhide U7_5)).mono ?_
  rintro e V6 ⟨rfl, hz5, d_, f_, k_⟩
  have HB6 := hide ((unhide HB5).trans (d_.mono (by omega)))
  have HX6 := hide ((unhide HX5).but (k_ w.heap.size (by omega) (.inr (by omega))))
  have U1_6 := hide ((unhide U1_5).but (p := fun k => k < b6 ∨ b7 ≤ k) hz5 (fun k hk h => k_ k hk h) (fun k h1 h2 => by omega))
  have U2_6 := hide ((unhide U2_5).but (p := fun k => k < b6 ∨ b7 ≤ k) hz5 (fun k hk h => k_ k hk h) (fun k h1 h2 => by omega))
  have U3_6 := hide ((unhide U3_5).but (p := fun k => k < b6 ∨ b7 ≤ k) hz5 (fun k hk h => k_ k hk h) (fun k h1 h2 => by omega))
  have U4_6 := hide ((unhide U4_5).but (p := fun k => k < b6 ∨ b7 ≤ k) hz5 (fun k hk h => k_ k hk h) (fun k h1 h2 => by omega))
  have U5_6 := hide ((unhide U5_5).but (p := fun k => k < b6 ∨ b7 ≤ k) hz5 (fun k hk h => k_ k hk h) (fun k h1 h2 => by omega))
  have U6_6 := hide ((unhide U6_5).but (p := fun k => k < b6 ∨ b7 ≤ k) hz5 (fun k hk h => k_ k hk h) (fun k h1 h2 => by omega))
  have U7_6 := hide f_
  have HQ5 := hide k_
  clear d_ f_ k_ HX5 U1_5 U2_5 U3_5 U4_5 U5_5 U6_5 U7_5
  go_wp2_with fail
  go_ret
  refine ⟨rfl, by omega, unhide HB6, ⟨unhide U1_6, unhide U2_6, unhide U3_6, unhide U4_6, unhide U5_6, unhide U6_6, unhide U7_6⟩, fun k hk h => ?_⟩
  rw [unhide HQ5 k (by omega) (by omega), unhide HQ4 k (by omega) (by omega), unhide HQ3 k (by omega) (by omega), unhide HQ2 k (by omega) (by omega), unhide HQ1 k (by omega) (by omega), unhide HQ0 k (by omega) (by omega), (unhide HA).block k hk]
theorem cells13 : Tryz.prog.cellsOf 29 = 13 := by kernel_rfl
theorem cells_int : Tryz.prog.cellsOf 3 = 1 := by kernel_rfl
theorem cells_lk : Tryz.prog.cellsOf 22 = 1 := by kernel_rfl
theorem cells_tu : Tryz.prog.cellsOf 23 = 1 := by kernel_rfl
theorem cells_so : Tryz.prog.cellsOf 24 = 1 := by kernel_rfl
theorem cells_ed : Tryz.prog.cellsOf 27 = 1 := by kernel_rfl
theorem cells_top : Tryz.prog.cellsOf 26 = 2 := by kernel_rfl
theorem list13 {α : Type} {l : List α} (h : l.length = 13) : ∃ c0 c1 c2 c3 c4 c5 c6 c7 c8 c9 c10 c11 c12, l = [c0, c1, c2, c3, c4, c5, c6, c7, c8, c9, c10, c11, c12] := by
  match l, h with
  | [c0, c1, c2, c3, c4, c5, c6, c7, c8, c9, c10, c11, c12], _ => exact ⟨c0, c1, c2, c3, c4, c5, c6, c7, c8, c9, c10, c11, c12, rfl⟩
theorem list12 {α : Type} {l : List α} (h : l.length = 12) : ∃ x0 x1 x2 x3 x4 x5 x6 x7 x8 x9 x10 x11, l = [x0, x1, x2, x3, x4, x5, x6, x7, x8, x9, x10, x11] := by
  match l, h with
  | [x0, x1, x2, x3, x4, x5, x6, x7, x8, x9, x10, x11], _ => exact ⟨x0, x1, x2, x3, x4, x5, x6, x7, x8, x9, x10, x11, rfl⟩
set_option maxHeartbeats 4000000 in
/-- A router that came in by value. -/
theorem open_rtr {H : Type} {enc : TypeId × Value → H} {W : World} {r : Reach} {b0 : Nat} {v : Value} {d : DataW H} {p : List MemPlace}
    (hv : Value.okWide Tryz.prog W r b0 29 v) (h : DataW.Trod enc Tryz.prog W 0 (fun _ => true) true 29 v d p) :
    ∃ x1 x2 x3 x4 x5 x6 a1 a2 a3 a4 a5 a6 a7 c1 c2 c3 c4 c5 c6 c7, ∃ (ls : List Lk.R) (tw : List Tu.R) (se : List Tu.R) (du : List Tu.R) (ss : List So.R) (es : List Tu.R) (la : List Ed.R), v = .agg #[.int .i64 x1, .int .i64 x2, .int .i64 x3, .int .i64 x4, .int .i64 x5, .slice a1 ls.length c1, .slice a2 tw.length c2, .slice a3 se.length c3, .slice a4 du.length c4, .slice a5 ss.length c5, .slice a6 es.length c6, .slice a7 la.length c7, .int .i64 x6] ∧ (ls.length ≤ maxLen ∧ tw.length ≤ maxLen ∧ se.length ≤ maxLen ∧ du.length ≤ maxLen ∧ ss.length ≤ maxLen ∧ es.length ≤ maxLen ∧ la.length ≤ maxLen) ∧ Lk.RM W a1 ls ∧ Tu.RM W a2 tw ∧ Tu.RM W a3 se ∧ Tu.RM W a4 du ∧ So.RM W a5 ss ∧ Tu.RM W a6 es ∧ Ed.RM W a7 la := by
  obtain ⟨cs, rfl, hsz⟩ := okWide_struct Tryz.underlying29 hv
  obtain ⟨l⟩ := cs
  obtain ⟨c0, c1, c2, c3, c4, c5, c6, c7, c8, c9, c10, c11, c12, rfl⟩ := list13 (hsz.trans cells13)
  obtain ⟨fuel, hf⟩ := h
  obtain ⟨xs, n, _, _, _, hlen, hf⟩ := DataW.trod_struct Tryz.underlying29 hf
  obtain ⟨x0, x1, x2, x3, x4, x5, x6, x7, x8, x9, x10, x11, rfl⟩ := list12 hlen
  have k0 := hf 0 _ rfl
  have k1 := hf 1 _ rfl
  have k2 := hf 2 _ rfl
  have k3 := hf 3 _ rfl
  have k4 := hf 4 _ rfl
  have k5 := hf 5 _ rfl
  have k6 := hf 6 _ rfl
  have k7 := hf 7 _ rfl
  have k8 := hf 8 _ rfl
  have k9 := hf 9 _ rfl
  have k10 := hf 10 _ rfl
  have k11 := hf 11 _ rfl
  clear hf hsz hv hlen
  simp [Value.cells, cells_int, cells_lk, cells_tu, cells_ed, cells_top] at k0 k1 k2 k3 k4 k5 k6 k7 k8 k9 k10 k11
  obtain ⟨a0, e0, _, _⟩ := DataW.trod_int Tryz.underlying3 k0
  obtain ⟨a1, e1, _, _⟩ := DataW.trod_int Tryz.underlying3 k1
  obtain ⟨a2, e2, _, _⟩ := DataW.trod_int Tryz.underlying3 k2
  obtain ⟨a3, e3, _, _⟩ := DataW.trod_int Tryz.underlying3 k3
  obtain ⟨a4, e4, _, _⟩ := DataW.trod_int Tryz.underlying3 k4
  obtain ⟨a11, e11, _, _⟩ := DataW.trod_int Tryz.underlying3 k11
  simp at e0 e1 e2 e3 e4 e11
  subst e0 e1 e2 e3 e4 e11
  obtain ⟨ys, n', _, _, _, hlen', hg⟩ := DataW.trod_struct Tryz.underlying26 k9
  obtain ⟨y0, y1, rfl⟩ := Tq.listR hlen'
  have t0 := hg 0 _ rfl
  have t1 := hg 1 _ rfl
  simp [cells_so, cells_tu] at t0 t1
  obtain ⟨g1, l1, p1, m1, rfl, h1, j1, r1⟩ := Lk.open_cell k5
  obtain ⟨g2, l2, p2, m2, rfl, h2, j2, r2⟩ := Tq.open_cellT k6
  obtain ⟨g3, l3, p3, m3, rfl, h3, j3, r3⟩ := Tq.open_cellT k7
  obtain ⟨g4, l4, p4, m4, rfl, h4, j4, r4⟩ := Tq.open_cellT k8
  obtain ⟨g5, l5, p5, m5, rfl, h5, j5, r5⟩ := So.open_cell t0
  obtain ⟨g6, l6, p6, m6, rfl, h6, j6, r6⟩ := Tq.open_cellT t1
  obtain ⟨g7, l7, p7, m7, rfl, h7, j7, r7⟩ := Ed.open_cell k10
  subst h1 h2 h3 h4 h5 h6 h7
  exact ⟨a0, a1, a2, a3, a4, a11, g1, g2, g3, g4, g5, g6, g7, p1, p2, p3, p4, p5, p6, p7, m1, m2, m3, m4, m5, m6, m7, rfl, ⟨j1, j2, j3, j4, j5, j6, j7⟩, r1, r2, r3, r4, r5, r6, r7⟩
end Rt
end Go.Proofs.YtffclijcfngeeaaGreat
