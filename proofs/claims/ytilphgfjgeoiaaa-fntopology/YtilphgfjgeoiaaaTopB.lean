/-
  The program's contract of topologies: whether one is right; a box of two.
-/
import Derived.Test.YtilphgfjgeoiaaaTopA
namespace Go.Proofs.Ytilphgfjgeoiaaa
open Go.ChangeShapes Go.WideShapes Go.ChangeAt Go.RowKit
set_option linter.unusedVariables false
set_option linter.unusedSimpArgs false
set_option maxRecDepth 100000
attribute [local go_sem ↓] Go.wp_at_zero Go.wp_at_succ
namespace Tp
open W1 Tu St Tw
/-- A box of two values. -/
def Bx2 (w : World) (b : Nat) (x y : Value) : Prop := w.cell? ⟨b, 0, none⟩ = some x ∧ w.cell? ⟨b, 1, none⟩ = some y
theorem Bx2.lt {w : World} {b : Nat} {x y : Value} (h : Bx2 w b x y) : b < w.heap.size := World.block_lt_of_cell? _ _ h.1
theorem Bx2.below {w w' : World} {b : Nat} {x y : Value} (h : Bx2 w b x y) (hb : Below w.heap.size w w') : Bx2 w' b x y := ⟨(hb.cell (p := ⟨b, 0, none⟩) h.lt).trans h.1, (hb.cell (p := ⟨b, 1, none⟩) h.lt).trans h.2⟩
theorem Bx2.drew {w : World} {b : Nat} {x y : Value} (h : Bx2 w b x y) : Bx2 w.drew b x y := h
theorem Bx2.but {w w' : World} {b : Nat} {x y : Value} (h : Bx2 w b x y) (hb : w'.heap[b]? = w.heap[b]?) : Bx2 w' b x y := ⟨(World.cell?_of_block (a := ⟨b, 0, none⟩) hb).trans h.1, (World.cell?_of_block (a := ⟨b, 1, none⟩) hb).trans h.2⟩
theorem bx2_new (w : World) (x y : Value) (t : Nat) : Bx2 (w.alloc (.cells #[x, y] t)) w.heap.size x y := by
  constructor <;> simp [World.cell?_alloc_new]
theorem sTB {w : World} {b B : Nat} {key til val : Int} {x y : Value} (h : St.Bx w b ⟨key, til, val⟩) (hB : Bx2 w B x y) : (St.Bx w b ⟨key, til, val⟩ ∧ Bx2 w B x y) ∧ w.cell? ⟨b, 0, none⟩ = some (.int .i64 key) ∧ w.cell? ⟨b, 2, none⟩ = some (.int .i64 val) ∧ w.cell? ⟨B, 0, none⟩ = some x := ⟨⟨h, hB⟩, h.1, h.2.2, hB.1⟩
set_option maxHeartbeats 4000000 in
theorem implOK (a : Option Addr) (ss : List So.R) (ca : Nat) (b : Option Addr) (es : List R) (cb : Nat) (w : World) (hm : ss.length ≤ 1048576) (hl : es.length ≤ 1048576) (hr : So.RM w a ss) (hr' : RM w b es) :
    Calls Try.prog 11 #[.agg #[.slice a ss.length ca, .slice b es.length cb]] w fun e w' => e = .returned (.bool (topB ss es)) ∧ Below w.heap.size w w' := by
  have HA : Hid (Below w.heap.size w (w.alloc (.cells #[.slice a ss.length ca, .slice b es.length cb] 26))) := hide ((Below.refl _ _).alloc (Nat.le_refl _) _)
  have HX : Hid (Bx2 (w.alloc (.cells #[.slice a ss.length ca, .slice b es.length cb] 26)) w.heap.size (.slice a ss.length ca) (.slice b es.length cb)) := hide (bx2_new w _ _ _)
  have HR := hide (hr.below (unhide HA))
  have HE := hide (hr'.below (unhide HA))
  clear hr hr'
  cases hs : srcB ss
  · rw [top_nosrc hs]
    have HS := hide hs
    clear hs
    go_enter Try.func11, Try.ntmps11
    go_wp2_with fail
    refine (areSources _ ss ca _ hm (unhide HR)).mono ?_
    rintro e w1 ⟨rfl, b1⟩
    rw [unhide HS]
    have HB1 := hide ((unhide HA).trans (b1.mono (unhide HA).size))
    clear b1
    go_wp2_with fail
    go_ret
    exact ⟨rfl, unhide HB1⟩
  have HS := hide hs
  have h8 := src_len hs
  have HU := hide (up_src hs)
  clear hs
  cases ht : twoB es
  · rw [top_notwo ht]
    have HT := hide ht
    clear ht
    go_enter Try.func11, Try.ntmps11
    go_wp2_with fail
    refine (areSources _ ss ca _ hm (unhide HR)).mono ?_
    rintro e w1 ⟨rfl, b1⟩
    rw [unhide HS]
    have HB1 := hide ((unhide HA).trans (b1.mono (unhide HA).size))
    have HE1 := hide ((unhide HE).below b1)
    obtain ⟨z0, z1⟩ := (unhide HX).below b1
    clear b1
    go_wp2_with fail
    refine (Tw.areHops _ es cb _ hl (unhide HE1)).mono ?_
    rintro e w2 ⟨rfl, b2⟩
    rw [unhide HT]
    have HB2 := hide ((unhide HB1).trans (b2.mono (unhide HB1).size))
    clear b2
    go_wp2_with fail
    go_ret
    exact ⟨rfl, unhide HB2⟩
  have HT := hide ht
  clear ht
  obtain ⟨A, hA⟩ : ∃ A, topB ss es = A := ⟨_, rfl⟩
  have HTA := hide hA
  rw [hA]
  clear hA
  obtain ⟨n, hN⟩ : ∃ n, es.length = n := ⟨_, rfl⟩
  have HN := hide hN
  obtain ⟨k, hK⟩ : ∃ k, ss.length = k := ⟨_, rfl⟩
  have HK := hide hK
  rw [hN, hK] at HA HX HR HE ⊢
  rw [hN] at hl
  rw [hK] at hm h8
  clear hN hK
  go_enter Try.func11, Try.ntmps11
  go_wp2_with fail
  rw [← unhide HK]
  refine (areSources _ ss ca _ (by rw [unhide HK]; exact hm) (by have := unhide HR; rw [← unhide HK] at this; exact this)).mono ?_
  rintro e w1 ⟨rfl, b1⟩
  rw [unhide HS]
  rw [unhide HK] at b1
  have HB1 := hide ((unhide HA).trans (b1.mono (unhide HA).size))
  have HE1 := hide ((unhide HE).below b1)
  have HR1 := hide ((unhide HR).below b1)
  have HX1 := hide ((unhide HX).below b1)
  obtain ⟨z0, z1⟩ := unhide HX1
  clear b1
  go_wp2_with fail
  rw [← unhide HN]
  refine (Tw.areHops _ es cb _ (by rw [unhide HN]; exact hl) (unhide HE1)).mono ?_
  rintro e w2 ⟨rfl, b2⟩
  rw [unhide HT]
  clear z0 z1
  have HB2 := hide ((unhide HB1).trans (b2.mono (unhide HB1).size))
  have HE2 := hide ((unhide HE1).below b2)
  have HR2 := hide ((unhide HR1).below b2)
  have HX2 := hide ((unhide HX1).below b2)
  obtain ⟨z0, z1⟩ := unhide HX2
  clear b2 HE HR HX HE1 HR1 HX1 HB1 HA
  go_wp2_with fail
  clear z0 z1
  go_loopw [18] (fun i wr => ∃ j : Nat, j ≤ n ∧ i = .int .i64 j ∧ Hid (edgB ss es j = true) ∧ Hid (Below w2.heap.size w2 wr)) (fun i _ => n - (intOf i).toNat)
  case atStart => exact ⟨0, by omega, rfl, hide (edg_zero ss es), hide (Below.refl _ _)⟩
  case round =>
    obtain ⟨j, hj, rfl, hed, hbl⟩ := hrel
    have HBW := hide ((unhide HB2).trans ((unhide hbl).mono (unhide HB2).size))
    by_cases hlt : (j : Int) < (n : Int)
    · have k0 : (0 : Int) ≤ (j : Int) := by omega
      have hlen : j < es.length := by rw [unhide HN]; omega
      obtain ⟨g, off, rfl⟩ := (unhide HE2).form (by omega)
      have hA := ((unhide HE2).below (unhide hbl)).at hlen
      have hbd := ok_bounds (setB_ok (two_set (unhide HT)) hlen)
      have HY : Hid (okE ss (es.getD j R.zero) = true → edgB ss es (j + 1) = true) := hide (fun h => edg_succ hlen (unhide hed) h)
      have HZ : Hid (okE ss (es.getD j R.zero) = false → A = false) := hide (fun h => by rw [← unhide HTA]; exact edg_no hlen h)
      have HO : Hid (okE ss (es.getD j R.zero) = (decide (1 ≤ (es.getD j R.zero).val) && hasS ss ((es.getD j R.zero).key.tdiv 100))) := hide rfl
      generalize es.getD j R.zero = m at *
      obtain ⟨key, til, val⟩ := m
      obtain ⟨c0, c1, c2⟩ := hA
      dsimp only at c0 c1 c2 hbd HO
      have HBX : Hid (St.Bx (wr.alloc (.cells #[.int .i64 key, .int .i64 til, .int .i64 val] 73)) wr.heap.size ⟨key, til, val⟩) := hide (Tw.bx_new wr ⟨key, til, val⟩ _)
      have hbs := (unhide HBW).size
      have HBA := hide ((unhide HBW).alloc hbs (.cells #[.int .i64 key, .int .i64 til, .int .i64 val] 73))
      have HBN := hide ((unhide hbl).alloc (unhide hbl).size (.cells #[.int .i64 key, .int .i64 til, .int .i64 val] 73))
      have HX3 := hide ((unhide HX2).below (unhide HBN))
      have HR3 := hide ((unhide HR2).below (unhide HBN))
      by_cases hv1 : val < 1
      · have HF := hide (unhide HZ (by rw [unhide HO, decide_eq_false (by omega)]; rfl))
        go_wp2_with fail
        generalize hW : wr.alloc (.cells #[.int .i64 key, .int .i64 til, .int .i64 val] 73) = W0 at *
        clear hW c0 c1 c2
        refine wp_region_noPanic ?_
        refine wp_region_held_drew (S := fun w' => (St.Bx w' wr.heap.size ⟨key, til, val⟩ ∧ Bx2 w' w.heap.size (.slice a k ca) (.slice (some ⟨g, off, none⟩) n cb)) ∧ w'.cell? ⟨wr.heap.size, 0, none⟩ = some (.int .i64 key) ∧ w'.cell? ⟨wr.heap.size, 2, none⟩ = some (.int .i64 val) ∧ w'.cell? ⟨w.heap.size, 0, none⟩ = some (.slice a k ca)) (by kernel_rfl) (sTB (unhide HBX).drew (unhide HX3).drew) (fun hHeld => ?_)
        (refine Rg.tk (i := 0) (d := 22) (v := ?_) rfl rfl (by kernel_rfl) (by kernel_rfl) (by kernel_rfl) (fun _ _ _ h => h) (by rfl) ?_ (by assumption) ?_; rotate_left; (focus (intro w0 hSw; (try dsimp only at hSw); go_simp; (try with_reducible rfl))); (try simp only [Act.put, List.setIfInBounds_toArray, List.set_cons_zero, List.set_cons_succ]))
        (refine Rg.tk (i := 1) (d := 23) (v := ?_) rfl rfl (by kernel_rfl) (by kernel_rfl) (by kernel_rfl) (fun _ _ _ h => h) (by rfl) ?_ (by assumption) ?_; rotate_left; (focus (intro w0 hSw; (try dsimp only at hSw); go_simp; (try with_reducible rfl))); (try simp only [Act.put, List.setIfInBounds_toArray, List.set_cons_zero, List.set_cons_succ]))
        (refine Rg.tk (i := 2) (d := 24) (v := ?_) rfl rfl (by kernel_rfl) (by kernel_rfl) (by kernel_rfl) (fun _ _ _ h => h) (by rfl) ?_ (by assumption) ?_; rotate_left; (focus (intro w0 hSw; (try dsimp only at hSw); go_simp; (try with_reducible rfl))); (try simp only [Act.put, List.setIfInBounds_toArray, List.set_cons_zero, List.set_cons_succ]))
        (refine Rg.tk (i := 3) (d := 25) (v := ?_) rfl rfl (by kernel_rfl) (by kernel_rfl) (by kernel_rfl) (fun _ _ _ h => h) (by rfl) ?_ (by assumption) ?_; rotate_left; (focus (intro w0 hSw; (try dsimp only at hSw); go_simp; (try with_reducible rfl))); (try simp only [Act.put, List.setIfInBounds_toArray, List.set_cons_zero, List.set_cons_succ]))
        (refine Rg.sk (i := 4) (d := 26) rfl rfl (by kernel_rfl) (by kernel_rfl) (by kernel_rfl) (fun _ _ _ h => h) (by first | kernel_rfl | rfl) (by assumption) ?_; (try simp only [Act.put, List.setIfInBounds_toArray, List.set_cons_zero, List.set_cons_succ]))
        (refine Rg.sk (i := 5) (d := 27) rfl rfl (by kernel_rfl) (by kernel_rfl) (by kernel_rfl) (fun _ _ _ h => h) (by first | kernel_rfl | rfl) (by assumption) ?_; (try simp only [Act.put, List.setIfInBounds_toArray, List.set_cons_zero, List.set_cons_succ]))
        (refine Rg.sk (i := 6) (d := 28) rfl rfl (by kernel_rfl) (by kernel_rfl) (by kernel_rfl) (fun _ _ _ h => h) (by first | kernel_rfl | rfl) (by assumption) ?_; (try simp only [Act.put, List.setIfInBounds_toArray, List.set_cons_zero, List.set_cons_succ]))
        (refine Rg.sk (i := 7) (d := 29) rfl rfl (by kernel_rfl) (by kernel_rfl) (by kernel_rfl) (fun _ _ _ h => h) (by first | kernel_rfl | rfl) (by assumption) ?_; (try simp only [Act.put, List.setIfInBounds_toArray, List.set_cons_zero, List.set_cons_succ]))
        (refine Rg.sk (i := 8) (d := 30) rfl rfl (by kernel_rfl) (by kernel_rfl) (by kernel_rfl) (fun _ _ _ h => h) (by first | kernel_rfl | rfl) (by assumption) ?_; (try simp only [Act.put, List.setIfInBounds_toArray, List.set_cons_zero, List.set_cons_succ]))
        (refine Rg.sk (i := 9) (d := 31) rfl rfl (by kernel_rfl) (by kernel_rfl) (by kernel_rfl) (fun _ _ _ h => h) (by first | kernel_rfl | rfl) (by assumption) ?_; (try simp only [Act.put, List.setIfInBounds_toArray, List.set_cons_zero, List.set_cons_succ]))
        (refine Rg.sk (i := 10) (d := 32) rfl rfl (by kernel_rfl) (by kernel_rfl) (by kernel_rfl) (fun _ _ _ h => h) (by first | kernel_rfl | rfl) (by assumption) ?_; (try simp only [Act.put, List.setIfInBounds_toArray, List.set_cons_zero, List.set_cons_succ]))
        (refine Rg.sk (i := 11) (d := 33) rfl rfl (by kernel_rfl) (by kernel_rfl) (by kernel_rfl) (fun _ _ _ h => h) (by first | kernel_rfl | rfl) (by assumption) ?_; (try simp only [Act.put, List.setIfInBounds_toArray, List.set_cons_zero, List.set_cons_succ]))
        (refine Rg.tk (i := 12) (d := 34) (v := ?_) rfl rfl (by kernel_rfl) (by kernel_rfl) (by kernel_rfl) (fun _ _ _ h => h) (by rfl) ?_ (by assumption) ?_; rotate_left; (focus (intro w0 hSw; (try dsimp only at hSw); go_simp; (try with_reducible rfl))); (try simp only [Act.put, List.setIfInBounds_toArray, List.set_cons_zero, List.set_cons_succ]))
        refine wpAnyH_done (by kernel_rfl) (NoPanic.normal ?_) _
        clear hHeld
        go_wp2_with fail
        go_ret
        exact ⟨ret_bool (unhide HF).symm, (unhide HBA).drew⟩
      · obtain ⟨v, hv'⟩ : ∃ v, key.tdiv 100 = v := ⟨_, rfl⟩
        obtain ⟨u, hu'⟩ : ∃ u, key.tmod 100 = u := ⟨_, rfl⟩
        have HV := hide hv'
        have HU' := hide hu'
        rw [hv'] at HO
        clear hv' hu'
        obtain ⟨o, ho⟩ : ∃ o, hasS ss v = o := ⟨_, rfl⟩
        have HH := hide ho
        have HO2 : Hid (okE ss ⟨key, til, val⟩ = o) := hide (by rw [unhide HO, decide_eq_true (by omega), ho]; rfl)
        clear ho HO
        have hix : ∀ W : World, (Instr.index 89 (.agg #[.int .i64 v, .int .i64 u]) (.int .i64 0)).run Try.prog W = .ok (.int .i64 v) W := fun _ => by kernel_rfl
        go_wp2_with fail
        generalize hW : wr.alloc (.cells #[.int .i64 key, .int .i64 til, .int .i64 val] 73) = W0 at *
        clear hW c0 c1 c2
        refine wp_region_noPanic ?_
        refine wp_region_held_drew (S := fun w' => (St.Bx w' wr.heap.size ⟨key, til, val⟩ ∧ Bx2 w' w.heap.size (.slice a k ca) (.slice (some ⟨g, off, none⟩) n cb)) ∧ w'.cell? ⟨wr.heap.size, 0, none⟩ = some (.int .i64 key) ∧ w'.cell? ⟨wr.heap.size, 2, none⟩ = some (.int .i64 val) ∧ w'.cell? ⟨w.heap.size, 0, none⟩ = some (.slice a k ca)) (by kernel_rfl) (sTB (unhide HBX).drew (unhide HX3).drew) (fun hHeld => ?_)
        (refine Rg.tk (i := 0) (d := 22) (v := ?_) rfl rfl (by kernel_rfl) (by kernel_rfl) (by kernel_rfl) (fun _ _ _ h => h) (by rfl) ?_ (by assumption) ?_; rotate_left; (focus (intro w0 hSw; (try dsimp only at hSw); go_simp; (try with_reducible rfl))); (try simp only [Act.put, List.setIfInBounds_toArray, List.set_cons_zero, List.set_cons_succ]))
        (refine Rg.tk (i := 1) (d := 23) (v := ?_) rfl rfl (by kernel_rfl) (by kernel_rfl) (by kernel_rfl) (fun _ _ _ h => h) (by rfl) ?_ (by assumption) ?_; rotate_left; (focus (intro w0 hSw; (try dsimp only at hSw); go_simp; (try with_reducible rfl))); (try simp only [Act.put, List.setIfInBounds_toArray, List.set_cons_zero, List.set_cons_succ]))
        (refine Rg.tk (i := 2) (d := 24) (v := .bool false) rfl rfl (by kernel_rfl) (by kernel_rfl) (by kernel_rfl) (fun _ _ _ h => h) (by rfl) ?_ (by assumption) ?_; (focus (intro w0 hSw; (try dsimp only at hSw); go_simp)); (try simp only [Act.put, List.setIfInBounds_toArray, List.set_cons_zero, List.set_cons_succ]))
        (refine Rg.tk (i := 3) (d := 25) (v := ?_) rfl rfl (by kernel_rfl) (by kernel_rfl) (by kernel_rfl) (fun _ _ _ h => h) (by rfl) ?_ (by assumption) ?_; rotate_left; (focus (intro w0 hSw; (try dsimp only at hSw); go_simp; (try with_reducible rfl))); (try simp only [Act.put, List.setIfInBounds_toArray, List.set_cons_zero, List.set_cons_succ]))
        (refine Rg.tk (i := 4) (d := 26) (v := ?_) rfl rfl (by kernel_rfl) (by kernel_rfl) (by kernel_rfl) (fun _ _ _ h => h) (by rfl) ?_ (by assumption) ?_; rotate_left; (focus (intro w0 hSw; (try dsimp only at hSw); go_simp; (try with_reducible rfl))); (try simp only [Act.put, List.setIfInBounds_toArray, List.set_cons_zero, List.set_cons_succ]))
        (refine Rg.tk (i := 5) (d := 27) (v := ?_) rfl rfl (by kernel_rfl) (by kernel_rfl) (by kernel_rfl) (fun _ _ _ h => h) (by rfl) ?_ (by assumption) ?_; rotate_left; (focus (intro w0 hSw; (try dsimp only at hSw); go_simp; (try with_reducible rfl))); (try simp only [Act.put, List.setIfInBounds_toArray, List.set_cons_zero, List.set_cons_succ]))
        (refine Rg.tk (i := 6) (d := 28) (v := ?_) rfl rfl (by kernel_rfl) (by kernel_rfl) (by kernel_rfl) (fun _ _ _ h => h) (by rfl) ?_ (by assumption) ?_; rotate_left; (focus (intro w0 hSw; (try dsimp only at hSw); go_simp; (try with_reducible rfl))); (try simp only [Act.put, List.setIfInBounds_toArray, List.set_cons_zero, List.set_cons_succ]))
        (refine Rg.tk (i := 7) (d := 29) (v := ?_) rfl rfl (by kernel_rfl) (by kernel_rfl) (by kernel_rfl) (fun _ _ _ h => h) (by rfl) ?_ (by assumption) ?_; rotate_left; (focus (intro w0 hSw; (try dsimp only at hSw); go_simp; (try with_reducible rfl))); (try simp only [Act.put, List.setIfInBounds_toArray, List.set_cons_zero, List.set_cons_succ]))
        (refine wpAnyH_ready (rs := [8]) (by kernel_rfl) (by simp) ?_; refine AllReadyH.cons (o := _) rfl (fun K hK => ?_) AllReadyH.nil; go_simp)
        refine (endsOfKey key _ (by omega) (by omega)).mono ?_
        rintro e w4 ⟨rfl, b4_⟩
        rw [unhide HV, unhide HU']
        have b4 : Below W0.heap.size W0 w4 := (Below.refl _ _).drew.trans b4_
        have HBX4 := hide ((unhide HBX).below b4)
        have HX4 := hide ((unhide HX3).below b4)
        have HR4 := hide ((unhide HR3).below b4)
        have HB4 := hide ((unhide HBA).trans (b4.mono (unhide HBA).size))
        have HN4 := hide ((unhide HBN).trans (b4.mono (unhide HBN).size))
        clear b4 b4_ hHeld
        refine hK.out _ _ (sTB (unhide HBX4) (unhide HX4)) (fun hHeld => ?_)
        clear hK K
        (try simp only [Act.put, List.setIfInBounds_toArray, List.set_cons_zero, List.set_cons_succ])
        (refine Rg.tk (i := 9) (d := 31) (v := ?_) rfl rfl (by kernel_rfl) (by kernel_rfl) (by kernel_rfl) (fun _ _ _ h => h) (by rfl) ?_ (by assumption) ?_; rotate_left; (focus (intro w0 hSw; (try dsimp only at hSw); go_simp; (try with_reducible rfl))); (try simp only [Act.put, List.setIfInBounds_toArray, List.set_cons_zero, List.set_cons_succ]))
        (refine wpAnyH_ready (rs := [10]) (by kernel_rfl) (by simp) ?_; refine AllReadyH.cons (o := _) rfl (fun K hK => ?_) AllReadyH.nil; go_simp)
        rw [← unhide HK]
        refine (hasSource _ ss ca v _ (unhide HR4) (unhide HU) (by rw [unhide HK]; omega)).mono ?_
        rintro e w5 ⟨rfl, b5⟩
        rw [unhide HH]
        have HBX5 := hide ((unhide HBX4).below b5)
        have HX5 := hide ((unhide HX4).below b5)
        have HB5 := hide ((unhide HB4).trans (b5.mono (unhide HB4).size))
        have HN5 := hide ((unhide HN4).trans (b5.mono (unhide HN4).size))
        clear b5 hHeld
        refine hK.out _ _ (sTB (unhide HBX5) (unhide HX5)) (fun hHeld => ?_)
        clear hK K
        (try simp only [Act.put, List.setIfInBounds_toArray, List.set_cons_zero, List.set_cons_succ])
        (refine Rg.tk (i := 11) (d := 33) (v := ?_) rfl rfl (by kernel_rfl) (by kernel_rfl) (by kernel_rfl) (fun _ _ _ h => h) (by rfl) ?_ (by assumption) ?_; rotate_left; (focus (intro w0 hSw; (try dsimp only at hSw); go_simp; (try with_reducible rfl))); (try simp only [Act.put, List.setIfInBounds_toArray, List.set_cons_zero, List.set_cons_succ]))
        (refine Rg.tk (i := 12) (d := 34) (v := ?_) rfl rfl (by kernel_rfl) (by kernel_rfl) (by kernel_rfl) (fun _ _ _ h => h) (by rfl) ?_ (by assumption) ?_; rotate_left; (focus (intro w0 hSw; (try dsimp only at hSw); go_simp; (try with_reducible rfl))); (try simp only [Act.put, List.setIfInBounds_toArray, List.set_cons_zero, List.set_cons_succ]))
        refine wpAnyH_done (by kernel_rfl) (NoPanic.normal ?_) _
        clear hHeld
        cases o
        · have HF := hide (unhide HZ (unhide HO2))
          go_wp2_with fail
          go_ret
          exact ⟨ret_bool (unhide HF).symm, unhide HB5⟩
        · have HY2 := hide (unhide HY (unhide HO2))
          go_wp2_with fail
          go_roundw
          case rel => exact ⟨j + 1, by omega, by go_num, HY2, HN5⟩
          case measure => simp [intOf]; omega
    · obtain rfl : j = n := by omega
      have HF : Hid (A = true) := hide (by rw [← unhide HTA, edg_all (unhide HS) (by rw [unhide HN]; exact unhide hed)]; exact unhide HT)
      go_wp2_with fail
      go_ret
      exact ⟨ret_bool (unhide HF).symm, unhide HBW⟩
end Tp
end Go.Proofs.Ytilphgfjgeoiaaa
