/-
  Contracts: a drawn advertisement is a right one, whatever the source has.
-/
import Derived.Test.YtilphgfjgeoiaaaDrw
import Derived.Test.YtilphgfjgeoiaaaAdvV
namespace Go.Proofs.Ytilphgfjgeoiaaa
open Go.ChangeShapes Go.WideShapes Go.ChangeAt Go.RowKit
set_option linter.unusedVariables false
set_option linter.unusedSimpArgs false
attribute [local go_sem ↓] Go.wp_at_zero Go.wp_at_succ
namespace Av
open W1 Ed De By Sr Dw
theorem getD_left {ms : List R} {m : R} {i : Nat} (h : i < ms.length) : (ms ++ [m]).getD i R.zero = ms.getD i R.zero := by
  rw [List.getD_eq_getElem?_getD, List.getD_eq_getElem?_getD, List.getElem?_append_left h]
theorem getD_last {ms : List R} {m : R} : (ms ++ [m]).getD ms.length R.zero = m := by
  rw [List.getD_eq_getElem?_getD, List.getElem?_append_right (Nat.le_refl _)]; simp
theorem all_snoc {ms : List R} {m : R} (h : allN ms ms.length = true) (hm : okN m = true) (hk : ∀ x ∈ ms, x.ad < m.ad) : allN (ms ++ [m]) (ms ++ [m]).length = true := by
  have e : ∀ j, j ≤ ms.length → allN (ms ++ [m]) j = allN ms j := by
    intro j hj
    unfold allN Ri.all
    rw [Bool.eq_iff_iff, List.all_eq_true, List.all_eq_true]
    have st : ∀ i, i < j → Ri.step R.zero okN R.ad (ms ++ [m]) i = Ri.step R.zero okN R.ad ms i := by
      intro i hi
      unfold Ri.step
      rw [getD_left (by omega), getD_left (i := i - 1) (by omega)]
    exact ⟨fun H i hi => by rw [← st i (List.mem_range.1 hi)]; exact H i hi, fun H i hi => by rw [st i (List.mem_range.1 hi)]; exact H i hi⟩
  rw [List.length_append, List.length_cons, List.length_nil]
  refine Ri.all_succ (by rw [show Ri.all R.zero okN R.ad (ms ++ [m]) ms.length = allN (ms ++ [m]) ms.length from rfl, e _ (Nat.le_refl _)]; exact h) ?_
  unfold Ri.step
  rw [getD_last, hm]
  by_cases h0 : ms.length = 0
  · simp [h0]
  · rw [getD_left (i := ms.length - 1) (by omega)]
    have : (ms.getD (ms.length - 1) R.zero).ad < m.ad := by
      apply hk
      rw [List.getD_eq_getElem?_getD, List.getElem?_eq_getElem (by omega)]
      exact List.getElem_mem _
    rw [decide_eq_true this, Bool.or_true]; rfl
theorem small_ok {i r : Nat} (h1 : 1 ≤ i) (h2 : i ≤ 8) (h3 : 1 ≤ r) (h4 : r ≤ 256) : okN ⟨(i : Int), (r : Int)⟩ = true := by
  unfold okN toldB exM inB
  dsimp only
  rw [Mtr.mcode_small (n := (r : Int)) (by omega) (by omega), decide_eq_true (by omega), decide_eq_true (by omega), decide_eq_true (by omega), decide_eq_true (by omega)]; simp
theorem HV.wrote {w w' : World} {b p : Nat} {x y : Int} {v : Value} (h : HV w b x y v) (hw : Wrote w w' p) (hne : b ≠ p) : HV w' b x y v := (hw.block b hne).trans h
theorem own_other {p : Nat} {w w' : World} {base : Nat} {v : Value} {n : Nat} {xs : List Value} (h : w.ownsRow base 47 2 v n xs) (hb : w.grownBy w' (some p)) (hp : p < base) : w'.ownsRow base 47 2 v n xs := by
  refine h.kept (row := some p) hb ?_
  cases hv : v.ownBlock with
  | none => exact .inl rfl
  | some k =>
    refine .inr (fun e => ?_)
    have := (h.lt k hv).1
    have := Option.some.inj e
    omega
theorem formU (V : World) (base : Nat) (x y : Int) (hb : base ≤ V.heap.size) :
    HV ((V.alloc (.cells #[] 47)).alloc (.cells #[.int .i64 x, .int .i64 y, .slice (some ⟨V.heap.size, 0, none⟩) 0 0] 30)) (V.heap.size + 1) x y (.slice (some ⟨V.heap.size, 0, none⟩) 0 0) ∧
    ((V.alloc (.cells #[] 47)).alloc (.cells #[.int .i64 x, .int .i64 y, .slice (some ⟨V.heap.size, 0, none⟩) 0 0] 30)).ownsRow base 47 2 (.slice (some ⟨V.heap.size, 0, none⟩) 0 0) ([] : List R).length (Ed.flat []) := by
  have h := hv_new (V.alloc (.cells #[] 47)) x y (.slice (some ⟨V.heap.size, 0, none⟩) 0 0)
  rw [World.size_alloc] at h
  exact ⟨h, (Ed.own_empty V base hb).alloc _⟩
theorem val_small {y : Int} (h : y = 6 ∨ y = 15 ∨ y = 30) : Tim.valB y = true := by
  rcases h with rfl | rfl | rfl <;> decide +kernel
set_option maxRecDepth 100000 in
set_option maxHeartbeats 4000000 in
theorem drawTc (p : Nat) (a : Option Addr) (bs : List UInt8) (cap n : Nat) (w : World) (hn : n ≤ 1099511600000) (hm : bs.length ≤ 1099511627776) (hs : Src w p a bs cap n) :
    Calls Try.prog 23 #[.pointer (some ⟨p, 0, none⟩)] w fun e w' => ∃ (x y : Int) (g : Option Addr) (ms : List R) (c : Nat), e = .returned (.agg #[.int .i64 x, .int .i64 y, .slice g ms.length c]) ∧ tcB x y ms = true ∧ Ed.Lst w' g ms w.heap.size w'.heap.size ∧ w.grownBy w' (some p) ∧ Src w' p a bs cap (n + 111) := by
  have RLX : Hid ((bs ≠ [] → ∀ g off, a = some ⟨g, off, none⟩ → g < w.heap.size) ∧ p < w.heap.size) := hide ⟨fun e0 g off e => reads_lt hs.rd e0 e, src_lt hs⟩
  have hp := src_lt hs
  have RL : Hid (bs ≠ [] → ∀ g off, a = some ⟨g, off, none⟩ → g < w.heap.size) := hide (fun e0 g off e => reads_lt hs.rd e0 e)
  have A0 : Hid (w.grownBy (w.alloc (.cells #[.int .i64 0, .int .i64 0, .slice none 0 0] 30)) (some p)) := hide (but_alloc (but_refl _ _) _)
  have S0 := hide (src_below hs ((Below.refl _ _).alloc (Nat.le_refl _) (.cells #[.int .i64 0, .int .i64 0, .slice none 0 0] 30)))
  have T0 : Hid (HV (w.alloc (.cells #[.int .i64 0, .int .i64 0, .slice none 0 0] 30)) w.heap.size 0 0 (.slice none 0 0)) := hide (hv_new _ _ _ _)
  have hz0 : (w.alloc (.cells #[.int .i64 0, .int .i64 0, .slice none 0 0] 30)).heap.size = w.heap.size + 1 := by simp
  clear hs
  go_enter Try.func23, Try.ntmps23
  go_wp2_with fail
  generalize hW : w.alloc (.cells #[.int .i64 0, .int .i64 0, .slice none 0 0] 30) = W0 at *
  clear hW
  refine (seq p a bs cap n _ (by omega) hm (unhide S0)).mono ?_
  rintro e w1 ⟨x, rfl, hx, g1, s1⟩
  have T1 : Hid (HV (w1.alloc (.cells #[.int .i64 6, .int .i64 15, .int .i64 30] 3)) w.heap.size 0 0 (.slice none 0 0)) := hide (HV.below (show HV w1 w.heap.size 0 0 (.slice none 0 0) from (g1.block w.heap.size (by omega) (by simp; omega)).trans (unhide T0)) ((Below.refl _ _).alloc (Nat.le_refl _) _))
  have hs1 : w.heap.size < w1.heap.size := by have := g1.size; omega
  have S1 := hide (src_below s1 ((Below.refl _ _).alloc (Nat.le_refl _) (.cells #[.int .i64 6, .int .i64 15, .int .i64 30] 3)))
  have G1 := hide (but_alloc (but_trans (unhide A0) g1) (.cells #[.int .i64 6, .int .i64 15, .int .i64 30] 3))
  have C1 : Hid (∀ o, (w1.alloc (.cells #[.int .i64 6, .int .i64 15, .int .i64 30] 3)).cell? ⟨w1.heap.size, o, none⟩ = (#[.int .i64 6, .int .i64 15, .int .i64 30] : Array Value)[o]?) := hide (fun o => World.cell?_alloc_new _ _ _ _)
  clear s1 g1 A0 S0 T0
  go_wp2_with fail
  generalize w1.alloc (.cells #[.int .i64 6, .int .i64 15, .int .i64 30] 3) = u at *
  refine (next p a bs cap (n + 12) 3 _ (by omega) (by omega) (by omega) hm (unhide S1)).mono ?_
  rintro e w2 ⟨k, rfl, hk, wr2, s2⟩
  obtain ⟨y, hy, hyy⟩ : ∃ y : Int, w2.cell? ⟨w1.heap.size, k, none⟩ = some (.int .i64 y) ∧ (y = 6 ∨ y = 15 ∨ y = 30) := by
    have hc := (wr2.cell (b := w1.heap.size) (by omega) k).trans (unhide C1 k)
    have h3 : k = 0 ∨ k = 1 ∨ k = 2 := by omega
    rcases h3 with rfl | rfl | rfl
    · exact ⟨6, hc, .inl rfl⟩
    · exact ⟨15, hc, .inr (.inl rfl)⟩
    · exact ⟨30, hc, .inr (.inr rfl)⟩
  have hy' : w2.cell? ⟨w1.heap.size, 0 + k, none⟩ = some (.int .i64 y) := by rw [Nat.zero_add]; exact hy
  have HVY := hide (val_small hyy)
  clear hyy
  have k0 : (0 : Int) ≤ (k : Int) := by omega
  have k1 : (k : Int) < 3 := by omega
  have G2 := hide (but_trans (unhide G1) (but_wrote wr2))
  have T2 : Hid (HV w2 w.heap.size 0 0 (.slice none 0 0)) := hide ((unhide T1).wrote wr2 (by omega))
  have S2 := hide s2
  have hs2 : w.heap.size ≤ w2.heap.size := (unhide G2).size
  clear s2 wr2 C1 G1 T1 S1
  have F3 := formU w2 (w.heap.size + 1) (x : Int) y (by have := (unhide T2).lt; omega)
  have H3 := hide F3.1
  have O3 := hide F3.2
  have G3 := hide (but_alloc (but_alloc (unhide G2) (.cells #[] 47)) (.cells #[.int .i64 (x : Int), .int .i64 y, .slice (some ⟨w2.heap.size, 0, none⟩) 0 0] 30))
  have S3 := hide (src_below (src_below (unhide S2) ((Below.refl _ _).alloc (Nat.le_refl _) (.cells #[] 47))) ((Below.refl _ _).alloc (Nat.le_refl _) (.cells #[.int .i64 (x : Int), .int .i64 y, .slice (some ⟨w2.heap.size, 0, none⟩) 0 0] 30)))
  have T3 := hide (((unhide T2).below ((Below.refl _ _).alloc (Nat.le_refl _) (.cells #[] 47))).below ((Below.refl _ _).alloc (Nat.le_refl _) (.cells #[.int .i64 (x : Int), .int .i64 y, .slice (some ⟨w2.heap.size, 0, none⟩) 0 0] 30)))
  have hw2 := (unhide T2).lt
  clear F3 G2 S2 T2
  go_wp2_with fail
  clear hy hy'
  obtain ⟨B, hBB⟩ : ∃ B, w2.heap.size + 1 = B := ⟨_, rfl⟩
  have hB : w.heap.size ≤ B := by omega
  have hB2 : w.heap.size < B := by omega
  rw [hBB] at H3
  generalize hW : (w2.alloc (.cells #[] 47)).alloc (.cells #[.int .i64 (x : Int), .int .i64 y, .slice (some ⟨w2.heap.size, 0, none⟩) 0 0] 30) = W3 at *
  clear hW
  rw [hBB]
  clear hBB
  go_loopw [4] (fun i wr => ∃ (j : Nat) (v : Value) (ms : List R), j ≤ 8 ∧ i = .int .i64 ((j : Int) + 1) ∧ ms.length ≤ j ∧ Hid (allN ms ms.length = true) ∧ Hid (∀ m ∈ ms, m.ad ≤ (j : Int)) ∧ Hid (HV wr B x y v) ∧ Hid (wr.ownsRow (w.heap.size + 1) 47 2 v ms.length (Ed.flat ms)) ∧ Hid (w.grownBy wr (some p)) ∧ Hid (Src wr p a bs cap (n + 15 + 12 * j)) ∧ Hid (HV wr w.heap.size 0 0 (.slice none 0 0))) (fun i _ => (9 - intOf i).toNat)
  case atStart => exact ⟨0, _, [], by omega, rfl, by simp, hide rfl, hide (fun m hm => by cases hm), H3, O3, G3, hide ((unhide S3).mono (by omega)), T3⟩
  case round =>
    obtain ⟨j, v, ms, hj, rfl, hml, hal, hle, hhv, how, hgr, hsr, htr⟩ := hrel
    by_cases hlt : j < 8
    · have hj1 : (j : Int) + 1 ≤ 8 := by omega
      go_wp2_with fail
      refine (chance p a bs cap (n + 15 + 12 * j) 3 _ (by omega) (by omega) (by omega) hm (unhide hsr)).mono ?_
      rintro e w4 ⟨b, rfl, wr4, s4⟩
      have S4 := hide s4
      have G4 := hide (but_trans (unhide hgr) (but_wrote wr4))
      have H4 := hide ((unhide hhv).wrote wr4 (by omega))
      have T4 := hide ((unhide htr).wrote wr4 (by omega))
      have O4 := hide (own_other (unhide how) (but_wrote wr4) (by omega))
      clear s4 wr4 hsr hgr hhv htr how
      cases b
      · go_wp2_with fail
        go_roundw
        case rel => exact ⟨j + 1, v, ms, by omega, by go_num, by omega, hal, hide (fun m hmm => by have := unhide hle m hmm; omega), H4, O4, G4, hide ((unhide S4).mono (by omega)), T4⟩
        case measure => simp [intOf]; omega
      · have HVV := hide ((unhide H4).drew)
        have TV := hide ((unhide T4).drew)
        have OV := hide ((unhide O4).drew)
        have GV : Hid (w.grownBy w4.drew (some p)) := hide (by have h := unhide G4; exact ⟨h.os, h.tape, h.output, h.size, h.block⟩)
        have SV : Hid (Src w4.drew p a bs cap (n + 15 + 12 * j + 3)) := hide (src_blocks (unhide S4) rfl (fun _ _ _ _ => rfl))
        go_wp2_with fail
        refine wp_region_noPanic ?_
        refine wp_region_held_drew (S := fun _ => True) (by kernel_rfl) trivial (fun hHeld => ?_)
        clear H4 T4 O4 G4 S4
        generalize hV : w4.drew = V at *
        clear hV
        have hcell := (unhide HVV).bx.2.2
        have hVs : w.heap.size ≤ V.heap.size := (unhide GV).size
        (refine Rg.tk (i := 0) (d := 20) (v := ?_) rfl rfl (by kernel_rfl) (by kernel_rfl) (by kernel_rfl) (fun _ _ _ h => h) (by rfl) ?_ (by assumption) ?_; rotate_left; (focus (intro w0 hSw; (try dsimp only at hSw); go_simp; (try with_reducible rfl))); (try simp only [Act.put, List.setIfInBounds_toArray, List.set_cons_zero, List.set_cons_succ]))
        (refine Rg.tk (i := 2) (d := 22) (v := ?_) rfl rfl (by kernel_rfl) (by kernel_rfl) (by kernel_rfl) (fun _ _ _ h => h) (by rfl) ?_ (by assumption) ?_; rotate_left; (focus (intro w0 hSw; (try dsimp only at hSw); go_simp; (try with_reducible rfl))); (try simp only [Act.put, List.setIfInBounds_toArray, List.set_cons_zero, List.set_cons_succ]))
        (refine Rg.tk (i := 3) (d := 23) (v := ?_) rfl rfl (by kernel_rfl) (by kernel_rfl) (by kernel_rfl) (fun _ _ _ h => h) (by rfl) ?_ (by assumption) ?_; rotate_left; (focus (intro w0 hSw; (try dsimp only at hSw); go_simp; (try with_reducible rfl))); (try simp only [Act.put, List.setIfInBounds_toArray, List.set_cons_zero, List.set_cons_succ]))
        (refine wpAnyH_ready (rs := [1, 4]) (by kernel_rfl) (by simp) ?_; refine AllReadyH.cons (o := _) rfl (fun K hK => ?_) (AllReadyH.cons (o := _) rfl (fun K hK => ?_) (AllReadyH.nil)))
        · go_simp
          clear hHeld
          refine hK.out _ _ trivial (fun hHeld => ?_)
          clear hK K
          (try simp only [Act.put, List.setIfInBounds_toArray, List.set_cons_zero, List.set_cons_succ])
          (refine wpAnyH_ready (rs := [4]) (by kernel_rfl) (by simp) ?_; refine AllReadyH.cons (o := _) rfl (fun K hK => ?_) AllReadyH.nil; go_simp)
          refine (metric p a bs cap (n + 15 + 12 * j + 3) _ (by omega) hm (unhide SV)).mono ?_
          rintro e w5 ⟨r, rfl, r1, r2, g5, s5⟩
          have H5 := hide (((g5.block B (unhide HVV).lt (by simp; omega))).trans (unhide HVV))
          have T5 := hide (((g5.block w.heap.size (unhide TV).lt (by simp; omega))).trans (unhide TV))
          have O5 := hide (own_other (unhide OV) g5 (by omega))
          have G5 := hide (but_trans (unhide GV) g5)
          have S5 := hide s5
          have hs5 : w.heap.size ≤ w5.heap.size := (unhide G5).size
          clear g5 s5
          have H6 := hide (HV.below (show HV w5 B x y v from unhide H5) ((Below.refl _ _).alloc (Nat.le_refl _) (.cells #[.int .i64 ((j : Int) + 1), .int .i64 (r : Int)] 47)))
          have T6 := hide (HV.below (show HV w5 w.heap.size 0 0 (.slice none 0 0) from unhide T5) ((Below.refl _ _).alloc (Nat.le_refl _) (.cells #[.int .i64 ((j : Int) + 1), .int .i64 (r : Int)] 47)))
          have O6 := hide ((unhide O5).alloc (.cells #[.int .i64 ((j : Int) + 1), .int .i64 (r : Int)] 47))
          have G6 := hide (but_alloc (unhide G5) (.cells #[.int .i64 ((j : Int) + 1), .int .i64 (r : Int)] 47))
          have S6 := hide (src_below (unhide S5) ((Below.refl _ _).alloc (Nat.le_refl _) (.cells #[.int .i64 ((j : Int) + 1), .int .i64 (r : Int)] 47)))
          have R6 := hide (Ed.rm_new w5 (⟨(j : Int) + 1, (r : Int)⟩ : R))
          have hcell5 := (show HV w5 B x y v from unhide H5).bx.2.2
          clear hHeld
          refine hK.out _ _ trivial (fun hHeld => ?_)
          clear hK K
          (try simp only [Act.put, List.setIfInBounds_toArray, List.set_cons_zero, List.set_cons_succ])
          (refine Rg.tk (i := 5) (d := 25) (v := ?_) rfl rfl (by kernel_rfl) (by kernel_rfl) (by kernel_rfl) (fun _ _ _ h => h) (by rfl) ?_ (by assumption) ?_; rotate_left; (focus (intro w0 hSw; (try dsimp only at hSw); go_simp; (try with_reducible rfl))); (try simp only [Act.put, List.setIfInBounds_toArray, List.set_cons_zero, List.set_cons_succ]))
          (refine wpAnyH_ready (rs := [6]) (by kernel_rfl) (by simp) ?_; refine AllReadyH.cons (o := _) rfl (fun K hK => ?_) AllReadyH.nil; go_simp)
          clear hHeld
          refine hK.out _ _ trivial (fun hHeld => ?_)
          clear hK K
          (try simp only [Act.put, List.setIfInBounds_toArray, List.set_cons_zero, List.set_cons_succ])
          (refine wpAnyH_ready (rs := [7]) (by kernel_rfl) (by simp) ?_; refine AllReadyH.cons (o := _) rfl (fun K hK => ?_) AllReadyH.nil; rw [if_pos (by rfl)])
          refine Ed.wp_apS (unhide O6) w5.heap.size 0 1 1 [(⟨(j : Int) + 1, (r : Int)⟩ : R)] rfl (unhide R6) (by simp only [List.length_cons, List.length_nil]; omega) (by simp; omega) _ _ rfl rfl rfl rfl ?_
          intro v7 w7 o7 g7
          obtain ⟨gq, cq, rfl, _, _⟩ := o7.form (by simp)
          rw [List.length_append, List.length_cons, List.length_nil] at o7 ⊢
          have O7 : Hid (w7.ownsRow (w.heap.size + 1) 47 2 (.slice (some ⟨gq, 0, none⟩) (ms.length + 1) cq) (ms ++ [(⟨(j : Int) + 1, (r : Int)⟩ : R)]).length (Ed.flat (ms ++ [(⟨(j : Int) + 1, (r : Int)⟩ : R)]))) := hide (by rw [List.length_append, List.length_cons, List.length_nil]; exact o7)
          have G7 := hide (but_own (unhide G6) g7 (fun k hk => by have := ((unhide O6).lt k hk).1; omega))
          have H7 := hide ((unhide H6).grown g7 ((unhide H6).row (unhide O6)))
          have T7 := hide ((unhide T6).grown g7 ((unhide T6).row (unhide O6)))
          have S7 := hide (src_grown (unhide S6) g7 (fun e => by have := ((unhide O6).lt p e.symm).1; omega) (fun e0 g off e e1 => by have := unhide RL e0 g off e; have := ((unhide O6).lt g e1.symm).1; omega))
          clear o7 g7
          clear hHeld
          refine hK.out _ _ trivial (fun hHeld => ?_)
          clear hK K
          (try simp only [Act.put, List.setIfInBounds_toArray, List.set_cons_zero, List.set_cons_succ])
          (refine Rg.tk (i := 8) (d := 28) (v := ?_) rfl rfl (by kernel_rfl) (by kernel_rfl) (by kernel_rfl) (fun _ _ _ h => h) (by rfl) ?_ (by assumption) ?_; rotate_left; (focus (intro w0 hSw; (try dsimp only at hSw); go_simp; (try with_reducible rfl))); (try simp only [Act.put, List.setIfInBounds_toArray, List.set_cons_zero, List.set_cons_succ]))
          have fr2 := (unhide H7).free 2
          obtain ⟨z0, z1, z2⟩ := (unhide H7).bx
          (refine wpAnyH_ready (rs := [9]) (by kernel_rfl) (by simp) ?_; refine AllReadyH.cons (o := _) rfl (fun K hK => ?_) AllReadyH.nil; go_simp)
          have H8 := hide ((unhide H7).set (.slice (some ⟨gq, 0, none⟩) (ms.length + 1) cq))
          have O8 := hide (ownsRow_setCell_other (unhide O7) (a := ⟨B, 2, none⟩) (fun e => (unhide H7).row (unhide O7) e.symm) (.slice (some ⟨gq, 0, none⟩) (ms.length + 1) cq))
          have G8 := hide (but_set (unhide G7) hB 2 (.slice (some ⟨gq, 0, none⟩) (ms.length + 1) cq))
          have T8 : Hid (HV (w7.setCell ⟨B, 2, none⟩ (.slice (some ⟨gq, 0, none⟩) (ms.length + 1) cq)) w.heap.size 0 0 (.slice none 0 0)) := hide ((Below.heap_setCell _ _ _ _ (by show w.heap.size ≠ B; omega)).trans (unhide T7))
          have S8 := hide (src_blocks (unhide S7) (Below.heap_setCell w7 ⟨B, 2, none⟩ (.slice (some ⟨gq, 0, none⟩) (ms.length + 1) cq) p (by show p ≠ B; omega)) (fun e0 g off e => Below.heap_setCell _ _ _ _ (by show g ≠ B; have := unhide RL e0 g off e; omega)))
          clear hHeld
          refine hK.out _ _ trivial (fun hHeld => ?_)
          clear hK K
          (try simp only [Act.put, List.setIfInBounds_toArray, List.set_cons_zero, List.set_cons_succ])
          refine wpAnyH_done (by kernel_rfl) (NoPanic.normal ?_) _
          clear hHeld fr2 z0 z1 z2
          have HAL : Hid (allN (ms ++ [(⟨(j : Int) + 1, (r : Int)⟩ : R)]) (ms ++ [(⟨(j : Int) + 1, (r : Int)⟩ : R)]).length = true) := hide (all_snoc (unhide hal) (by have := small_ok (i := j + 1) (r := r) (by omega) (by omega) r1 r2; rw [show ((j + 1 : Nat) : Int) = (j : Int) + 1 by omega] at this; exact this) (fun m hmm => by have := unhide hle m hmm; show m.ad < (j : Int) + 1; omega))
          have HLE : Hid (∀ m ∈ ms ++ [(⟨(j : Int) + 1, (r : Int)⟩ : R)], m.ad ≤ ((j + 1 : Nat) : Int)) := hide (fun m hmm => by
            rcases List.mem_append.1 hmm with h | h
            · have := unhide hle m h; omega
            · rw [List.mem_singleton] at h; subst h; show (j : Int) + 1 ≤ ((j + 1 : Nat) : Int); omega)
          have hlen : (ms ++ [(⟨(j : Int) + 1, (r : Int)⟩ : R)]).length ≤ j + 1 := by rw [List.length_append, List.length_cons, List.length_nil]; omega
          generalize ms ++ [(⟨(j : Int) + 1, (r : Int)⟩ : R)] = ms' at *
          go_wp2_with fail
          go_roundw
          case rel => exact ⟨j + 1, _, ms', by omega, by go_num, hlen, HAL, HLE, H8, O8, G8, hide ((unhide S8).mono (by omega)), T8⟩
          case measure => simp [intOf]; omega
        · go_simp
          refine (metric p a bs cap (n + 15 + 12 * j + 3) _ (by omega) hm (unhide SV)).mono ?_
          rintro e w5 ⟨r, rfl, r1, r2, g5, s5⟩
          have H5 := hide (((g5.block B (unhide HVV).lt (by simp; omega))).trans (unhide HVV))
          have T5 := hide (((g5.block w.heap.size (unhide TV).lt (by simp; omega))).trans (unhide TV))
          have O5 := hide (own_other (unhide OV) g5 (by omega))
          have G5 := hide (but_trans (unhide GV) g5)
          have S5 := hide s5
          have hs5 : w.heap.size ≤ w5.heap.size := (unhide G5).size
          clear g5 s5
          have H6 := hide (HV.below (show HV w5 B x y v from unhide H5) ((Below.refl _ _).alloc (Nat.le_refl _) (.cells #[.int .i64 ((j : Int) + 1), .int .i64 (r : Int)] 47)))
          have T6 := hide (HV.below (show HV w5 w.heap.size 0 0 (.slice none 0 0) from unhide T5) ((Below.refl _ _).alloc (Nat.le_refl _) (.cells #[.int .i64 ((j : Int) + 1), .int .i64 (r : Int)] 47)))
          have O6 := hide ((unhide O5).alloc (.cells #[.int .i64 ((j : Int) + 1), .int .i64 (r : Int)] 47))
          have G6 := hide (but_alloc (unhide G5) (.cells #[.int .i64 ((j : Int) + 1), .int .i64 (r : Int)] 47))
          have S6 := hide (src_below (unhide S5) ((Below.refl _ _).alloc (Nat.le_refl _) (.cells #[.int .i64 ((j : Int) + 1), .int .i64 (r : Int)] 47)))
          have R6 := hide (Ed.rm_new w5 (⟨(j : Int) + 1, (r : Int)⟩ : R))
          have hcell5 := (show HV w5 B x y v from unhide H5).bx.2.2
          clear hHeld
          refine hK.out _ _ trivial (fun hHeld => ?_)
          clear hK K
          (try simp only [Act.put, List.setIfInBounds_toArray, List.set_cons_zero, List.set_cons_succ])
          (refine Rg.tk (i := 5) (d := 25) (v := ?_) rfl rfl (by kernel_rfl) (by kernel_rfl) (by kernel_rfl) (fun _ _ _ h => h) (by rfl) ?_ (by assumption) ?_; rotate_left; (focus (intro w0 hSw; (try dsimp only at hSw); go_simp; (try with_reducible rfl))); (try simp only [Act.put, List.setIfInBounds_toArray, List.set_cons_zero, List.set_cons_succ]))
          (refine wpAnyH_ready (rs := [1, 6]) (by kernel_rfl) (by simp) ?_; refine AllReadyH.cons (o := _) rfl (fun K hK => ?_) (AllReadyH.cons (o := _) rfl (fun K hK => ?_) (AllReadyH.nil)))
          · go_simp
            clear hHeld
            refine hK.out _ _ trivial (fun hHeld => ?_)
            clear hK K
            (try simp only [Act.put, List.setIfInBounds_toArray, List.set_cons_zero, List.set_cons_succ])
            (refine wpAnyH_ready (rs := [6]) (by kernel_rfl) (by simp) ?_; refine AllReadyH.cons (o := _) rfl (fun K hK => ?_) AllReadyH.nil; go_simp)
            clear hHeld
            refine hK.out _ _ trivial (fun hHeld => ?_)
            clear hK K
            (try simp only [Act.put, List.setIfInBounds_toArray, List.set_cons_zero, List.set_cons_succ])
            (refine wpAnyH_ready (rs := [7]) (by kernel_rfl) (by simp) ?_; refine AllReadyH.cons (o := _) rfl (fun K hK => ?_) AllReadyH.nil; rw [if_pos (by rfl)])
            refine Ed.wp_apS (unhide O6) w5.heap.size 0 1 1 [(⟨(j : Int) + 1, (r : Int)⟩ : R)] rfl (unhide R6) (by simp only [List.length_cons, List.length_nil]; omega) (by simp; omega) _ _ rfl rfl rfl rfl ?_
            intro v7 w7 o7 g7
            obtain ⟨gq, cq, rfl, _, _⟩ := o7.form (by simp)
            rw [List.length_append, List.length_cons, List.length_nil] at o7 ⊢
            have O7 : Hid (w7.ownsRow (w.heap.size + 1) 47 2 (.slice (some ⟨gq, 0, none⟩) (ms.length + 1) cq) (ms ++ [(⟨(j : Int) + 1, (r : Int)⟩ : R)]).length (Ed.flat (ms ++ [(⟨(j : Int) + 1, (r : Int)⟩ : R)]))) := hide (by rw [List.length_append, List.length_cons, List.length_nil]; exact o7)
            have G7 := hide (but_own (unhide G6) g7 (fun k hk => by have := ((unhide O6).lt k hk).1; omega))
            have H7 := hide ((unhide H6).grown g7 ((unhide H6).row (unhide O6)))
            have T7 := hide ((unhide T6).grown g7 ((unhide T6).row (unhide O6)))
            have S7 := hide (src_grown (unhide S6) g7 (fun e => by have := ((unhide O6).lt p e.symm).1; omega) (fun e0 g off e e1 => by have := unhide RL e0 g off e; have := ((unhide O6).lt g e1.symm).1; omega))
            clear o7 g7
            clear hHeld
            refine hK.out _ _ trivial (fun hHeld => ?_)
            clear hK K
            (try simp only [Act.put, List.setIfInBounds_toArray, List.set_cons_zero, List.set_cons_succ])
            (refine Rg.tk (i := 8) (d := 28) (v := ?_) rfl rfl (by kernel_rfl) (by kernel_rfl) (by kernel_rfl) (fun _ _ _ h => h) (by rfl) ?_ (by assumption) ?_; rotate_left; (focus (intro w0 hSw; (try dsimp only at hSw); go_simp; (try with_reducible rfl))); (try simp only [Act.put, List.setIfInBounds_toArray, List.set_cons_zero, List.set_cons_succ]))
            have fr2 := (unhide H7).free 2
            obtain ⟨z0, z1, z2⟩ := (unhide H7).bx
            (refine wpAnyH_ready (rs := [9]) (by kernel_rfl) (by simp) ?_; refine AllReadyH.cons (o := _) rfl (fun K hK => ?_) AllReadyH.nil; go_simp)
            have H8 := hide ((unhide H7).set (.slice (some ⟨gq, 0, none⟩) (ms.length + 1) cq))
            have O8 := hide (ownsRow_setCell_other (unhide O7) (a := ⟨B, 2, none⟩) (fun e => (unhide H7).row (unhide O7) e.symm) (.slice (some ⟨gq, 0, none⟩) (ms.length + 1) cq))
            have G8 := hide (but_set (unhide G7) hB 2 (.slice (some ⟨gq, 0, none⟩) (ms.length + 1) cq))
            have T8 : Hid (HV (w7.setCell ⟨B, 2, none⟩ (.slice (some ⟨gq, 0, none⟩) (ms.length + 1) cq)) w.heap.size 0 0 (.slice none 0 0)) := hide ((Below.heap_setCell _ _ _ _ (by show w.heap.size ≠ B; omega)).trans (unhide T7))
            have S8 := hide (src_blocks (unhide S7) (Below.heap_setCell w7 ⟨B, 2, none⟩ (.slice (some ⟨gq, 0, none⟩) (ms.length + 1) cq) p (by show p ≠ B; omega)) (fun e0 g off e => Below.heap_setCell _ _ _ _ (by show g ≠ B; have := unhide RL e0 g off e; omega)))
            clear hHeld
            refine hK.out _ _ trivial (fun hHeld => ?_)
            clear hK K
            (try simp only [Act.put, List.setIfInBounds_toArray, List.set_cons_zero, List.set_cons_succ])
            refine wpAnyH_done (by kernel_rfl) (NoPanic.normal ?_) _
            clear hHeld fr2 z0 z1 z2
            have HAL : Hid (allN (ms ++ [(⟨(j : Int) + 1, (r : Int)⟩ : R)]) (ms ++ [(⟨(j : Int) + 1, (r : Int)⟩ : R)]).length = true) := hide (all_snoc (unhide hal) (by have := small_ok (i := j + 1) (r := r) (by omega) (by omega) r1 r2; rw [show ((j + 1 : Nat) : Int) = (j : Int) + 1 by omega] at this; exact this) (fun m hmm => by have := unhide hle m hmm; show m.ad < (j : Int) + 1; omega))
            have HLE : Hid (∀ m ∈ ms ++ [(⟨(j : Int) + 1, (r : Int)⟩ : R)], m.ad ≤ ((j + 1 : Nat) : Int)) := hide (fun m hmm => by
              rcases List.mem_append.1 hmm with h | h
              · have := unhide hle m h; omega
              · rw [List.mem_singleton] at h; subst h; show (j : Int) + 1 ≤ ((j + 1 : Nat) : Int); omega)
            have hlen : (ms ++ [(⟨(j : Int) + 1, (r : Int)⟩ : R)]).length ≤ j + 1 := by rw [List.length_append, List.length_cons, List.length_nil]; omega
            generalize ms ++ [(⟨(j : Int) + 1, (r : Int)⟩ : R)] = ms' at *
            go_wp2_with fail
            go_roundw
            case rel => exact ⟨j + 1, _, ms', by omega, by go_num, hlen, HAL, HLE, H8, O8, G8, hide ((unhide S8).mono (by omega)), T8⟩
            case measure => simp [intOf]; omega
          · go_simp
            clear hHeld
            refine hK.out _ _ trivial (fun hHeld => ?_)
            clear hK K
            (try simp only [Act.put, List.setIfInBounds_toArray, List.set_cons_zero, List.set_cons_succ])
            have hcell6 := (unhide H6).bx.2.2
            (refine wpAnyH_ready (rs := [1]) (by kernel_rfl) (by simp) ?_; refine AllReadyH.cons (o := _) rfl (fun K hK => ?_) AllReadyH.nil; go_simp)
            clear hHeld
            refine hK.out _ _ trivial (fun hHeld => ?_)
            clear hK K
            (try simp only [Act.put, List.setIfInBounds_toArray, List.set_cons_zero, List.set_cons_succ])
            (refine wpAnyH_ready (rs := [7]) (by kernel_rfl) (by simp) ?_; refine AllReadyH.cons (o := _) rfl (fun K hK => ?_) AllReadyH.nil; rw [if_pos (by rfl)])
            refine Ed.wp_apS (unhide O6) w5.heap.size 0 1 1 [(⟨(j : Int) + 1, (r : Int)⟩ : R)] rfl (unhide R6) (by simp only [List.length_cons, List.length_nil]; omega) (by simp; omega) _ _ rfl rfl rfl rfl ?_
            intro v7 w7 o7 g7
            obtain ⟨gq, cq, rfl, _, _⟩ := o7.form (by simp)
            rw [List.length_append, List.length_cons, List.length_nil] at o7 ⊢
            have O7 : Hid (w7.ownsRow (w.heap.size + 1) 47 2 (.slice (some ⟨gq, 0, none⟩) (ms.length + 1) cq) (ms ++ [(⟨(j : Int) + 1, (r : Int)⟩ : R)]).length (Ed.flat (ms ++ [(⟨(j : Int) + 1, (r : Int)⟩ : R)]))) := hide (by rw [List.length_append, List.length_cons, List.length_nil]; exact o7)
            have G7 := hide (but_own (unhide G6) g7 (fun k hk => by have := ((unhide O6).lt k hk).1; omega))
            have H7 := hide ((unhide H6).grown g7 ((unhide H6).row (unhide O6)))
            have T7 := hide ((unhide T6).grown g7 ((unhide T6).row (unhide O6)))
            have S7 := hide (src_grown (unhide S6) g7 (fun e => by have := ((unhide O6).lt p e.symm).1; omega) (fun e0 g off e e1 => by have := unhide RL e0 g off e; have := ((unhide O6).lt g e1.symm).1; omega))
            clear o7 g7
            clear hHeld
            refine hK.out _ _ trivial (fun hHeld => ?_)
            clear hK K
            (try simp only [Act.put, List.setIfInBounds_toArray, List.set_cons_zero, List.set_cons_succ])
            (refine Rg.tk (i := 8) (d := 28) (v := ?_) rfl rfl (by kernel_rfl) (by kernel_rfl) (by kernel_rfl) (fun _ _ _ h => h) (by rfl) ?_ (by assumption) ?_; rotate_left; (focus (intro w0 hSw; (try dsimp only at hSw); go_simp; (try with_reducible rfl))); (try simp only [Act.put, List.setIfInBounds_toArray, List.set_cons_zero, List.set_cons_succ]))
            have fr2 := (unhide H7).free 2
            obtain ⟨z0, z1, z2⟩ := (unhide H7).bx
            (refine wpAnyH_ready (rs := [9]) (by kernel_rfl) (by simp) ?_; refine AllReadyH.cons (o := _) rfl (fun K hK => ?_) AllReadyH.nil; go_simp)
            have H8 := hide ((unhide H7).set (.slice (some ⟨gq, 0, none⟩) (ms.length + 1) cq))
            have O8 := hide (ownsRow_setCell_other (unhide O7) (a := ⟨B, 2, none⟩) (fun e => (unhide H7).row (unhide O7) e.symm) (.slice (some ⟨gq, 0, none⟩) (ms.length + 1) cq))
            have G8 := hide (but_set (unhide G7) hB 2 (.slice (some ⟨gq, 0, none⟩) (ms.length + 1) cq))
            have T8 : Hid (HV (w7.setCell ⟨B, 2, none⟩ (.slice (some ⟨gq, 0, none⟩) (ms.length + 1) cq)) w.heap.size 0 0 (.slice none 0 0)) := hide ((Below.heap_setCell _ _ _ _ (by show w.heap.size ≠ B; omega)).trans (unhide T7))
            have S8 := hide (src_blocks (unhide S7) (Below.heap_setCell w7 ⟨B, 2, none⟩ (.slice (some ⟨gq, 0, none⟩) (ms.length + 1) cq) p (by show p ≠ B; omega)) (fun e0 g off e => Below.heap_setCell _ _ _ _ (by show g ≠ B; have := unhide RL e0 g off e; omega)))
            clear hHeld
            refine hK.out _ _ trivial (fun hHeld => ?_)
            clear hK K
            (try simp only [Act.put, List.setIfInBounds_toArray, List.set_cons_zero, List.set_cons_succ])
            refine wpAnyH_done (by kernel_rfl) (NoPanic.normal ?_) _
            clear hHeld fr2 z0 z1 z2
            have HAL : Hid (allN (ms ++ [(⟨(j : Int) + 1, (r : Int)⟩ : R)]) (ms ++ [(⟨(j : Int) + 1, (r : Int)⟩ : R)]).length = true) := hide (all_snoc (unhide hal) (by have := small_ok (i := j + 1) (r := r) (by omega) (by omega) r1 r2; rw [show ((j + 1 : Nat) : Int) = (j : Int) + 1 by omega] at this; exact this) (fun m hmm => by have := unhide hle m hmm; show m.ad < (j : Int) + 1; omega))
            have HLE : Hid (∀ m ∈ ms ++ [(⟨(j : Int) + 1, (r : Int)⟩ : R)], m.ad ≤ ((j + 1 : Nat) : Int)) := hide (fun m hmm => by
              rcases List.mem_append.1 hmm with h | h
              · have := unhide hle m h; omega
              · rw [List.mem_singleton] at h; subst h; show (j : Int) + 1 ≤ ((j + 1 : Nat) : Int); omega)
            have hlen : (ms ++ [(⟨(j : Int) + 1, (r : Int)⟩ : R)]).length ≤ j + 1 := by rw [List.length_append, List.length_cons, List.length_nil]; omega
            generalize ms ++ [(⟨(j : Int) + 1, (r : Int)⟩ : R)] = ms' at *
            go_wp2_with fail
            go_roundw
            case rel => exact ⟨j + 1, _, ms', by omega, by go_num, hlen, HAL, HLE, H8, O8, G8, hide ((unhide S8).mono (by omega)), T8⟩
            case measure => simp [intOf]; omega
    · have hj9 : ¬ ((j : Int) + 1 ≤ 8) := by omega
      obtain ⟨av, cv, rfl, hlst⟩ := Ed.lst_own rfl (unhide how)
      have HLST := hide hlst
      clear hlst how
      obtain ⟨z0, z1, z2⟩ := (unhide hhv).bx
      obtain ⟨x0, x1, x2⟩ := (unhide htr).bx
      have y0 := (unhide htr).free 0
      have y1 := (unhide htr).free 1
      have y2 := (unhide htr).free 2
      have hlw := (unhide htr).lt
      have HTC : Hid (tcB x y ms = true) := hide (by
        unfold tcB inB
        rw [unhide HVY, unhide hal, decide_eq_true (by omega), decide_eq_true (by omega)]; rfl)
      go_wp2_with fail
      refine bodyPost_ret (v := .agg #[.int .i64 x, .int .i64 y, .slice av ms.length cv]) (by simp [results, Try.results23, go_sem, x0, x1, x2, hlw]) rfl ?_
      refine ⟨x, y, av, ms, ⟨cv, rfl⟩, unhide HTC, ?_, ?_, ?_⟩
      · refine ((unhide HLST).but (p := fun k => k ≠ w.heap.size) (by simp [World.setCell]) (fun k hk hp => ?_) (fun k h1 h2 => ?_)).mono (by omega) (by simp [World.setCell])
        · rw [Below.heap_setCell _ _ _ _ hp, Below.heap_setCell _ _ _ _ hp, Below.heap_setCell _ _ _ _ hp]
        · omega
      · exact but_set (but_set (but_set (unhide hgr) (Nat.le_refl _) 0 _) (Nat.le_refl _) 1 _) (Nat.le_refl _) 2 _
      · have far : ∀ k, k < w.heap.size → ∀ (u0 u1 u2 : Value), (((wr.setCell ⟨w.heap.size, 0, none⟩ u0).setCell ⟨w.heap.size, 1, none⟩ u1).setCell ⟨w.heap.size, 2, none⟩ u2).heap[k]? = wr.heap[k]? := fun k hk u0 u1 u2 => by
          have hp : k ≠ w.heap.size := by omega
          rw [Below.heap_setCell _ _ _ _ hp, Below.heap_setCell _ _ _ _ hp, Below.heap_setCell _ _ _ _ hp]
        exact src_blocks ((unhide hsr).mono (by omega)) (far _ (unhide RLX).2 _ _ _) (fun e0 g off e => far _ ((unhide RLX).1 e0 g off e) _ _ _)
theorem reads_under {w w' : World} {a : Option Addr} {bs : List UInt8} (h : Reads w a bs) (hb : Below w.heap.size w w') : Reads w' a bs := by
  rcases h with h | ⟨g, off, e, hc⟩
  · exact .inl h
  · exact .inr ⟨g, off, e, fun i hi => (hb.cell (p := ⟨g, off + i, none⟩) (World.block_lt_of_cell? _ _ (hc i hi))).trans (hc i hi)⟩
set_option maxRecDepth 100000 in
set_option maxHeartbeats 1000000 in
theorem tcOf (a : Option Addr) (bs : List UInt8) (cap : Nat) (w : World) (hm : bs.length ≤ 1048576) (hr : Reads w a bs) :
    Calls Try.prog 6 #[.slice a bs.length cap] w fun e w' => ∃ (x y : Int) (g : Option Addr) (ms : List R) (c : Nat), e = .returned (.agg #[.int .i64 x, .int .i64 y, .slice g ms.length c]) ∧ tcB x y ms = true ∧ Ed.Lst w' g ms w.heap.size w'.heap.size ∧ Below w.heap.size w w' := by
  have A0 : Hid (Below w.heap.size w (w.alloc (.cells #[.int .i64 0, .int .i64 0, .slice none 0 0] 30))) := hide ((Below.refl _ _).alloc (Nat.le_refl _) _)
  have R0 := hide (reads_under hr (unhide A0))
  have T0 : Hid (HV (w.alloc (.cells #[.int .i64 0, .int .i64 0, .slice none 0 0] 30)) w.heap.size 0 0 (.slice none 0 0)) := hide (hv_new _ _ _ _)
  have hz0 : (w.alloc (.cells #[.int .i64 0, .int .i64 0, .slice none 0 0] 30)).heap.size = w.heap.size + 1 := by simp
  clear hr
  go_enter Try.func6, Try.ntmps6
  go_wp2_with fail
  generalize hW : w.alloc (.cells #[.int .i64 0, .int .i64 0, .slice none 0 0] 30) = W0 at *
  clear hW
  refine (source a bs cap _ hm (unhide R0)).mono ?_
  rintro e w1 ⟨p, rfl, hp, b1, s1⟩
  have T1 := hide ((unhide T0).below b1)
  have D1 := hide ((unhide A0).trans (b1.mono (unhide A0).size))
  have S1 := hide s1
  have hs1 : W0.heap.size ≤ w1.heap.size := b1.size
  clear b1 s1
  go_wp2_with fail
  refine (drawTc p a bs cap 0 w1 (by omega) (by omega) (unhide S1)).mono ?_
  rintro e w2 ⟨x, y, g, ms, c, rfl, htc, hl, g2, _⟩
  have HTC := hide htc
  have HL := hide hl
  have T2 : Hid (HV w2 w.heap.size 0 0 (.slice none 0 0)) := hide ((g2.block w.heap.size (by omega) (by simp; omega)).trans (unhide T1))
  have D2 : Hid (Below w.heap.size w w2) := hide ((unhide D1).grown g2 (unhide D1).size (fun k hk => by cases hk; omega))
  clear htc hl g2
  obtain ⟨x0, x1, x2⟩ := (unhide T2).bx
  have y0 := (unhide T2).free 0
  have y1 := (unhide T2).free 1
  have y2 := (unhide T2).free 2
  have hlw := (unhide T2).lt
  go_wp2_with fail
  refine bodyPost_ret (v := .agg #[.int .i64 x, .int .i64 y, .slice g ms.length c]) (by simp [results, Try.results6, go_sem, x0, x1, x2, hlw]) rfl ?_
  refine ⟨x, y, g, ms, c, rfl, unhide HTC, ?_, ?_⟩
  · refine ((unhide HL).but (p := fun k => k ≠ w.heap.size) (by simp [World.setCell]) (fun k hk hp => ?_) (fun k h1 h2 => by omega)).mono (by omega) (by simp [World.setCell])
    rw [Below.heap_setCell _ _ _ _ hp, Below.heap_setCell _ _ _ _ hp, Below.heap_setCell _ _ _ _ hp]
  · have hBB := unhide D2
    repeat (first | exact hBB | refine Below.setCell ?_ (by simp <;> omega) _)
end Av
end Go.Proofs.Ytilphgfjgeoiaaa
