/-
  Contracts: a drawn hello is a right one, whatever the source has.
-/
import Derived.Test.YtmelbilepfnmjabDrw
import Derived.Test.YtmelbilepfnmjabHelVa
namespace Go.Proofs.Ytmelbilepfnmjab
open Go.ChangeShapes Go.WideShapes Go.ChangeAt Go.RowKit
set_option linter.unusedVariables false
set_option linter.unusedSimpArgs false
attribute [local go_sem ↓] Go.wp_at_zero Go.wp_at_succ
namespace Hl
open W1 Nb By Sr Dw
theorem getD_left {ms : List R} {m : R} {i : Nat} (h : i < ms.length) : (ms ++ [m]).getD i R.zero = ms.getD i R.zero := by
  rw [List.getD_eq_getElem?_getD, List.getD_eq_getElem?_getD, List.getElem?_append_left h]
theorem getD_last {ms : List R} {m : R} : (ms ++ [m]).getD ms.length R.zero = m := by
  rw [List.getD_eq_getElem?_getD, List.getElem?_append_right (Nat.le_refl _)]; simp
theorem all_snoc {ms : List R} {m : R} (h : allN ms ms.length = true) (hm : okN m = true) (hk : ∀ x ∈ ms, x.ad < m.ad) : allN (ms ++ [m]) (ms ++ [m]).length = true := by
  have e : ∀ j, j ≤ ms.length → allN (ms ++ [m]) j = allN ms j := by
    intro j hj
    unfold allN Ri.all
    rw [Bool.eq_iff_iff, List.all_eq_true, List.all_eq_true]
    have st : ∀ i, i < j → Ri.step R.zero okN R.ad (ms ++ [m]) i = Ri.step R.zero okN R.ad ms i := by
      intro i hi
      unfold Ri.step
      rw [getD_left (by omega), getD_left (i := i - 1) (by omega)]
    exact ⟨fun H i hi => by rw [← st i (List.mem_range.1 hi)]; exact H i hi, fun H i hi => by rw [st i (List.mem_range.1 hi)]; exact H i hi⟩
  rw [List.length_append, List.length_cons, List.length_nil]
  refine Ri.all_succ (by rw [show Ri.all R.zero okN R.ad (ms ++ [m]) ms.length = allN (ms ++ [m]) ms.length from rfl, e _ (Nat.le_refl _)]; exact h) ?_
  unfold Ri.step
  rw [getD_last, hm]
  by_cases h0 : ms.length = 0
  · simp [h0]
  · rw [getD_left (i := ms.length - 1) (by omega)]
    have : (ms.getD (ms.length - 1) R.zero).ad < m.ad := by
      apply hk
      rw [List.getD_eq_getElem?_getD, List.getElem?_eq_getElem (by omega)]
      exact List.getElem_mem _
    rw [decide_eq_true this, Bool.or_true]; rfl
theorem small_ok {i st r : Nat} {mp : Bool} (h1 : 1 ≤ i) (h2 : i ≤ 8) (h0 : st ≤ 2) (h3 : 1 ≤ r) (h4 : r ≤ 256) (h5 : mp = true → st = 2) : okN ⟨(i : Int), (st : Int), (r : Int), mp⟩ = true := by
  unfold okN nbB exM inB
  dsimp only
  rw [Mtr.mcode_small (n := (r : Int)) (by omega) (by omega), decide_eq_true (by omega), decide_eq_true (by omega), decide_eq_true (by omega), decide_eq_true (by omega), decide_eq_true (by omega), decide_eq_true (by omega)]
  cases mp
  · simp
  · have := h5 rfl; subst this; simp
def NW (w : World) (b : Nat) (ad st mt : Int) (mp : Bool) : Prop := w.heap[b]? = some (.cells #[.int .i64 ad, .int .i64 st, .int .i64 mt, .bool mp] 48 (0, 0))
theorem NW.cells {w : World} {b : Nat} {ad st mt : Int} {mp : Bool} (h : NW w b ad st mt mp) : w.cell? ⟨b, 0, none⟩ = some (.int .i64 ad) ∧ w.cell? ⟨b, 1, none⟩ = some (.int .i64 st) ∧ w.cell? ⟨b, 2, none⟩ = some (.int .i64 mt) ∧ w.cell? ⟨b, 3, none⟩ = some (.bool mp) := by
  unfold NW at h; exact ⟨by simp [World.cell?, h], by simp [World.cell?, h], by simp [World.cell?, h], by simp [World.cell?, h]⟩
theorem NW.free {w : World} {b : Nat} {ad st mt : Int} {mp : Bool} (h : NW w b ad st mt mp) (i : Nat) : w.frozen? ⟨b, i, none⟩ = false := by
  unfold NW at h; simp [World.frozen?, h]
theorem NW.set {w : World} {b : Nat} {ad st mt : Int} {mp mp' : Bool} (h : NW w b ad st mt mp) : NW (w.setCell ⟨b, 3, none⟩ (.bool mp')) b ad st mt mp' := heap_set (.bool mp') h
theorem HV.wrote {w w' : World} {b p : Nat} {x y : Int} {v : Value} (h : HV w b x y v) (hw : Wrote w w' p) (hne : b ≠ p) : HV w' b x y v := (hw.block b hne).trans h
theorem own_other {p : Nat} {w w' : World} {base : Nat} {v : Value} {n : Nat} {xs : List Value} (h : w.ownsRow base 48 4 v n xs) (hb : w.grownBy w' (some p)) (hp : p < base) : w'.ownsRow base 48 4 v n xs := by
  refine h.kept (row := some p) hb ?_
  cases hv : v.ownBlock with
  | none => exact .inl rfl
  | some k =>
    refine .inr (fun e => ?_)
    have := (h.lt k hv).1
    have := Option.some.inj e
    omega
theorem formU (V : World) (base : Nat) (x y : Int) (hb : base ≤ V.heap.size) :
    HV ((V.alloc (.cells #[] 48)).alloc (.cells #[.int .i64 x, .int .i64 y, .slice (some ⟨V.heap.size, 0, none⟩) 0 0] 38)) (V.heap.size + 1) x y (.slice (some ⟨V.heap.size, 0, none⟩) 0 0) ∧
    ((V.alloc (.cells #[] 48)).alloc (.cells #[.int .i64 x, .int .i64 y, .slice (some ⟨V.heap.size, 0, none⟩) 0 0] 38)).ownsRow base 48 4 (.slice (some ⟨V.heap.size, 0, none⟩) 0 0) ([] : List R).length (Nb.flat []) := by
  have h := hv_new (V.alloc (.cells #[] 48)) x y (.slice (some ⟨V.heap.size, 0, none⟩) 0 0)
  rw [World.size_alloc] at h
  exact ⟨h, (Nb.own_empty V base hb).alloc _⟩
theorem val_small {y : Int} (h : y = 6 ∨ y = 15 ∨ y = 1 ∨ y = 30) : Tim.valB y = true := by
  rcases h with rfl | rfl | rfl | rfl <;> decide +kernel
set_option maxRecDepth 100000 in
set_option maxHeartbeats 4000000 in
theorem drawHello (p : Nat) (a : Option Addr) (bs : List UInt8) (cap n : Nat) (w : World) (hn : n ≤ 1099511600000) (hm : bs.length ≤ 1099511627776) (hs : Src w p a bs cap n) :
    Calls Try.prog 35 #[.pointer (some ⟨p, 0, none⟩)] w fun e w' => ∃ (x y : Int) (g : Option Addr) (ms : List R) (c : Nat), e = .returned (.agg #[.int .i64 x, .int .i64 y, .slice g ms.length c]) ∧ helB x y ms = true ∧ Nb.Lst w' g ms w.heap.size w'.heap.size ∧ w.grownBy w' (some p) := by
  have hp := src_lt hs
  have RL : Hid (bs ≠ [] → ∀ g off, a = some ⟨g, off, none⟩ → g < w.heap.size) := hide (fun e0 g off e => reads_lt hs.rd e0 e)
  have A0 : Hid (w.grownBy (w.alloc (.cells #[.int .i64 0, .int .i64 0, .slice none 0 0] 38)) (some p)) := hide (but_alloc (but_refl _ _) _)
  have S0 := hide (src_below hs ((Below.refl _ _).alloc (Nat.le_refl _) (.cells #[.int .i64 0, .int .i64 0, .slice none 0 0] 38)))
  have T0 : Hid (HV (w.alloc (.cells #[.int .i64 0, .int .i64 0, .slice none 0 0] 38)) w.heap.size 0 0 (.slice none 0 0)) := hide (hv_new _ _ _ _)
  have hz0 : (w.alloc (.cells #[.int .i64 0, .int .i64 0, .slice none 0 0] 38)).heap.size = w.heap.size + 1 := by simp
  clear hs
  go_enter Try.func35, Try.ntmps35
  go_wp2_with fail
  generalize hW : w.alloc (.cells #[.int .i64 0, .int .i64 0, .slice none 0 0] 38) = W0 at *
  clear hW
  refine (next p a bs cap n 8 _ (by omega) (by omega) (by omega) hm (unhide S0)).mono ?_
  rintro e w1 ⟨x, rfl, hx, wr1, s1⟩
  have g1 := but_wrote wr1
  have T1 : Hid (HV (w1.alloc (.cells #[.int .i64 6, .int .i64 15, .int .i64 1, .int .i64 30] 3)) w.heap.size 0 0 (.slice none 0 0)) := hide (HV.below (show HV w1 w.heap.size 0 0 (.slice none 0 0) from (g1.block w.heap.size (by omega) (by simp; omega)).trans (unhide T0)) ((Below.refl _ _).alloc (Nat.le_refl _) _))
  have hs1 : w.heap.size < w1.heap.size := by have := g1.size; omega
  have S1 := hide (src_below s1 ((Below.refl _ _).alloc (Nat.le_refl _) (.cells #[.int .i64 6, .int .i64 15, .int .i64 1, .int .i64 30] 3)))
  have G1 := hide (but_alloc (but_trans (unhide A0) g1) (.cells #[.int .i64 6, .int .i64 15, .int .i64 1, .int .i64 30] 3))
  have C1 : Hid (∀ o, (w1.alloc (.cells #[.int .i64 6, .int .i64 15, .int .i64 1, .int .i64 30] 3)).cell? ⟨w1.heap.size, o, none⟩ = (#[.int .i64 6, .int .i64 15, .int .i64 1, .int .i64 30] : Array Value)[o]?) := hide (fun o => World.cell?_alloc_new _ _ _ _)
  clear s1 wr1 g1 A0 S0 T0
  go_wp2_with fail
  generalize w1.alloc (.cells #[.int .i64 6, .int .i64 15, .int .i64 1, .int .i64 30] 3) = u at *
  refine (next p a bs cap (n + 3) 4 _ (by omega) (by omega) (by omega) hm (unhide S1)).mono ?_
  rintro e w2 ⟨k, rfl, hk, wr2, s2⟩
  obtain ⟨y, hy, hyy⟩ : ∃ y : Int, w2.cell? ⟨w1.heap.size, k, none⟩ = some (.int .i64 y) ∧ (y = 6 ∨ y = 15 ∨ y = 1 ∨ y = 30) := by
    have hc := (wr2.cell (b := w1.heap.size) (by omega) k).trans (unhide C1 k)
    have h3 : k = 0 ∨ k = 1 ∨ k = 2 ∨ k = 3 := by omega
    rcases h3 with rfl | rfl | rfl | rfl
    · exact ⟨6, hc, .inl rfl⟩
    · exact ⟨15, hc, .inr (.inl rfl)⟩
    · exact ⟨1, hc, .inr (.inr (.inl rfl))⟩
    · exact ⟨30, hc, .inr (.inr (.inr rfl))⟩
  have hy' : w2.cell? ⟨w1.heap.size, 0 + k, none⟩ = some (.int .i64 y) := by rw [Nat.zero_add]; exact hy
  have HVY := hide (val_small hyy)
  clear hyy
  have k0 : (0 : Int) ≤ (k : Int) := by omega
  have k1 : (k : Int) < 4 := by omega
  have G2 := hide (but_trans (unhide G1) (but_wrote wr2))
  have T2 : Hid (HV w2 w.heap.size 0 0 (.slice none 0 0)) := hide ((unhide T1).wrote wr2 (by omega))
  have S2 := hide s2
  have hs2 : w.heap.size ≤ w2.heap.size := (unhide G2).size
  clear s2 wr2 C1 G1 T1 S1
  have F3 := formU w2 (w.heap.size + 1) (x : Int) y (by have := (unhide T2).lt; omega)
  have H3 := hide F3.1
  have O3 := hide F3.2
  have G3 := hide (but_alloc (but_alloc (unhide G2) (.cells #[] 48)) (.cells #[.int .i64 (x : Int), .int .i64 y, .slice (some ⟨w2.heap.size, 0, none⟩) 0 0] 38))
  have S3 := hide (src_below (src_below (unhide S2) ((Below.refl _ _).alloc (Nat.le_refl _) (.cells #[] 48))) ((Below.refl _ _).alloc (Nat.le_refl _) (.cells #[.int .i64 (x : Int), .int .i64 y, .slice (some ⟨w2.heap.size, 0, none⟩) 0 0] 38)))
  have T3 := hide (((unhide T2).below ((Below.refl _ _).alloc (Nat.le_refl _) (.cells #[] 48))).below ((Below.refl _ _).alloc (Nat.le_refl _) (.cells #[.int .i64 (x : Int), .int .i64 y, .slice (some ⟨w2.heap.size, 0, none⟩) 0 0] 38)))
  have hw2 := (unhide T2).lt
  clear F3 G2 S2 T2
  go_wp2_with fail
  clear hy hy'
  obtain ⟨B, hBB⟩ : ∃ B, w2.heap.size + 1 = B := ⟨_, rfl⟩
  have hB : w.heap.size ≤ B := by omega
  have hB2 : w.heap.size < B := by omega
  rw [hBB] at H3
  generalize hW : (w2.alloc (.cells #[] 48)).alloc (.cells #[.int .i64 (x : Int), .int .i64 y, .slice (some ⟨w2.heap.size, 0, none⟩) 0 0] 38) = W3 at *
  clear hW
  rw [hBB]
  clear hBB
  go_loopw [4] (fun i wr => ∃ (j : Nat) (v : Value) (ms : List R), j ≤ 8 ∧ i = .int .i64 ((j : Int) + 1) ∧ ms.length ≤ j ∧ Hid (allN ms ms.length = true) ∧ Hid (∀ m ∈ ms, m.ad ≤ (j : Int)) ∧ Hid (HV wr B x y v) ∧ Hid (wr.ownsRow (w.heap.size + 1) 48 4 v ms.length (Nb.flat ms)) ∧ Hid (w.grownBy wr (some p)) ∧ Hid (Src wr p a bs cap (n + 6 + 18 * j)) ∧ Hid (HV wr w.heap.size 0 0 (.slice none 0 0))) (fun i _ => (9 - intOf i).toNat)
  case atStart => exact ⟨0, _, [], by omega, rfl, by simp, hide rfl, hide (fun m hm => by cases hm), H3, O3, G3, hide ((unhide S3).mono (by omega)), T3⟩
  case round =>
    obtain ⟨j, v, ms, hj, rfl, hml, hal, hle, hhv, how, hgr, hsr, htr⟩ := hrel
    obtain ⟨av, cv, rfl, hlst⟩ := Nb.lst_own rfl (unhide how)
    have HLST := hide hlst
    clear hlst
    by_cases hlt : j < 8
    · have hj1 : (j : Int) + 1 ≤ 8 := by omega
      go_wp2_with fail
      refine (chance p a bs cap (n + 6 + 18 * j) 3 _ (by omega) (by omega) (by omega) hm (unhide hsr)).mono ?_
      rintro e w4 ⟨b, rfl, wr4, s4⟩
      have S4 := hide s4
      have G4 := hide (but_trans (unhide hgr) (but_wrote wr4))
      have H4 := hide ((unhide hhv).wrote wr4 (by omega))
      have T4 := hide ((unhide htr).wrote wr4 (by omega))
      have O4 := hide (own_other (unhide how) (but_wrote wr4) (by omega))
      clear s4 wr4 hsr hgr hhv htr how
      cases b
      · go_wp2_with fail
        go_roundw
        case rel => exact ⟨j + 1, _, ms, by omega, by go_num, by omega, hal, hide (fun m hmm => by have := unhide hle m hmm; omega), H4, O4, G4, hide ((unhide S4).mono (by omega)), T4⟩
        case measure => simp [intOf]; omega
      · go_wp2_with fail
        refine (next p a bs cap (n + 6 + 18 * j + 3) 3 _ (by omega) (by omega) (by omega) hm (unhide S4)).mono ?_
        rintro e w5 ⟨st, rfl, hst, wr5, s5⟩
        have S5 := hide s5
        have G5 := hide (but_trans (unhide G4) (but_wrote wr5))
        have H5 := hide ((unhide H4).wrote wr5 (by omega))
        have T5 := hide ((unhide T4).wrote wr5 (by omega))
        have O5 := hide (own_other (unhide O4) (but_wrote wr5) (by omega))
        clear s5 wr5 S4 G4 H4 T4 O4
        go_wp2_with fail
        refine (metric p a bs cap (n + 6 + 18 * j + 3 + 3) _ (by omega) hm (unhide S5)).mono ?_
        rintro e w6 ⟨r, rfl, r1, r2, g6, s6⟩
        have hp6 := src_lt s6
        have H6 : Hid (HV w6 B x y (.slice av ms.length cv)) := hide ((g6.block B (unhide H5).lt (by simp; omega)).trans (unhide H5))
        have T6 : Hid (HV w6 w.heap.size 0 0 (.slice none 0 0)) := hide ((g6.block w.heap.size (unhide T5).lt (by simp; omega)).trans (unhide T5))
        have H7 := hide ((unhide H6).below ((Below.refl _ _).alloc (Nat.le_refl _) (.cells #[.int .i64 ((j : Int) + 1), .int .i64 (st : Int), .int .i64 (r : Int), .bool false] 48)))
        have T7 := hide ((unhide T6).below ((Below.refl _ _).alloc (Nat.le_refl _) (.cells #[.int .i64 ((j : Int) + 1), .int .i64 (st : Int), .int .i64 (r : Int), .bool false] 48)))
        have O6 := hide (own_other (unhide O5) g6 (by omega))
        have HROW : Hid (∀ k, (Value.slice av ms.length cv).ownBlock = some k → k < w6.heap.size) := hide (fun k hk => ((unhide O6).lt k hk).2)
        have O7 := hide ((unhide O6).alloc (.cells #[.int .i64 ((j : Int) + 1), .int .i64 (st : Int), .int .i64 (r : Int), .bool false] 48))
        have G7 := hide (but_alloc (but_trans (unhide G5) g6) (.cells #[.int .i64 ((j : Int) + 1), .int .i64 (st : Int), .int .i64 (r : Int), .bool false] 48))
        have S7 := hide (src_below s6 ((Below.refl _ _).alloc (Nat.le_refl _) (.cells #[.int .i64 ((j : Int) + 1), .int .i64 (st : Int), .int .i64 (r : Int), .bool false] 48)))
        have N7 : Hid (NW (w6.alloc (.cells #[.int .i64 ((j : Int) + 1), .int .i64 (st : Int), .int .i64 (r : Int), .bool false] 48)) w6.heap.size ((j : Int) + 1) st r false) := hide (heap_alloc_new w6 _)
        have hN6 : w.heap.size ≤ w6.heap.size := Nat.le_trans (unhide G5).size g6.size
        have hB6 : B < w6.heap.size := (unhide H6).lt
        clear g6 s6 S5 G5 H5 T5 O5 H6 T6 O6
        obtain ⟨m0, m1, m2, m3⟩ := (unhide N7).cells
        have mf := (unhide N7).free 3
        by_cases h2 : st = 2
        · have h2' : (((st : Nat) : Int) == 2) = true := by rw [h2]; rfl
          have HH2 := hide h2
          clear h2
          go_wp2_with fail
          generalize hW : w6.alloc (.cells #[.int .i64 ((j : Int) + 1), .int .i64 (st : Int), .int .i64 (r : Int), .bool false] 48) = W7 at *
          clear hW
          refine (chance p a bs cap (n + 6 + 18 * j + 3 + 3 + 9) 2 _ (by omega) (by omega) (by omega) hm (unhide S7)).mono ?_
          rintro e w8 ⟨b, rfl, wr8, s8⟩
          clear m0 m1 m2 m3 mf
          have N7' : Hid (NW w8 w6.heap.size ((j : Int) + 1) st r false) := hide ((wr8.block w6.heap.size (by omega)).trans (unhide N7))
          have H8 : Hid (HV (w8.setCell ⟨w6.heap.size, 3, none⟩ (.bool b)) B x y (.slice av ms.length cv)) := hide ((Below.heap_setCell _ _ _ _ (by show B ≠ w6.heap.size; omega)).trans ((unhide H7).wrote wr8 (by omega)))
          have T8 : Hid (HV (w8.setCell ⟨w6.heap.size, 3, none⟩ (.bool b)) w.heap.size 0 0 (.slice none 0 0)) := hide ((Below.heap_setCell _ _ _ _ (by show w.heap.size ≠ w6.heap.size; omega)).trans ((unhide T7).wrote wr8 (by omega)))
          have O8a := hide (own_other (unhide O7) (but_wrote wr8) (by omega))
          have O8 := hide (ownsRow_setCell_other (unhide O8a) (a := ⟨w6.heap.size, 3, none⟩) (fun e => by have := unhide HROW _ e; simp at this) (.bool b))
          have G8 := hide (but_set (but_trans (unhide G7) (but_wrote wr8)) hN6 3 (.bool b))
          have S8 := hide (src_blocks s8 (Below.heap_setCell w8 ⟨w6.heap.size, 3, none⟩ (.bool b) p (by show p ≠ w6.heap.size; omega)) (fun e0 g off e => Below.heap_setCell _ _ _ _ (by show g ≠ w6.heap.size; have := unhide RL e0 g off e; omega)))
          have N8 : Hid (NW (w8.setCell ⟨w6.heap.size, 3, none⟩ (.bool b)) w6.heap.size ((j : Int) + 1) st r b) := hide (unhide N7').set
          have HOK8 : Hid (okN ⟨(j : Int) + 1, (st : Int), (r : Int), b⟩ = true) := hide (by have := small_ok (i := j + 1) (st := st) (r := r) (mp := b) (by omega) (by omega) (by omega) r1 r2 (fun _ => unhide HH2); rw [show ((j + 1 : Nat) : Int) = (j : Int) + 1 by omega] at this; exact this)
          obtain ⟨m0, m1, m2, m3⟩ := (unhide N7').cells
          have mf := (unhide N7').free 3
          clear wr8 s8 H7 T7 O7 G7 S7 N7 N7' O8a
          obtain ⟨n0, n1, n2, n3⟩ := (unhide N8).cells
          obtain ⟨z0, z1, z2⟩ := (unhide H8).bx
          have hs8 : w.heap.size ≤ (w8.setCell ⟨w6.heap.size, 3, none⟩ (.bool b)).heap.size := (unhide G8).size
          have hs9 : w.heap.size ≤ w8.heap.size := by have h := hs8; simpa [World.setCell] using h
          have H9 := hide ((unhide H8).below ((Below.refl _ _).alloc (Nat.le_refl _) (.cells #[.int .i64 ((j : Int) + 1), .int .i64 (st : Int), .int .i64 (r : Int), .bool b] 48)))
          have T9 := hide ((unhide T8).below ((Below.refl _ _).alloc (Nat.le_refl _) (.cells #[.int .i64 ((j : Int) + 1), .int .i64 (st : Int), .int .i64 (r : Int), .bool b] 48)))
          have O9 := hide ((unhide O8).alloc (.cells #[.int .i64 ((j : Int) + 1), .int .i64 (st : Int), .int .i64 (r : Int), .bool b] 48))
          have G9 := hide (but_alloc (unhide G8) (.cells #[.int .i64 ((j : Int) + 1), .int .i64 (st : Int), .int .i64 (r : Int), .bool b] 48))
          have S9 := hide (src_below (unhide S8) ((Below.refl _ _).alloc (Nat.le_refl _) (.cells #[.int .i64 ((j : Int) + 1), .int .i64 (st : Int), .int .i64 (r : Int), .bool b] 48)))
          have R9 : Hid (Nb.RM ((w8.setCell ⟨w6.heap.size, 3, none⟩ (.bool b)).alloc (.cells #[.int .i64 ((j : Int) + 1), .int .i64 (st : Int), .int .i64 (r : Int), .bool b] 48)) (some ⟨w8.heap.size, 0, none⟩) [(⟨(j : Int) + 1, (st : Int), (r : Int), b⟩ : R)]) := hide (by have h := Nb.rm_new (w8.setCell ⟨w6.heap.size, 3, none⟩ (.bool b)) (⟨(j : Int) + 1, (st : Int), (r : Int), b⟩ : R); rw [show (w8.setCell ⟨w6.heap.size, 3, none⟩ (.bool b)).heap.size = w8.heap.size by simp [World.setCell]] at h; exact h)
          go_wp2_with (at_builtin; refine Nb.wpList_apS (unhide O9) (w8.heap.size) 0 1 1 [(⟨(j : Int) + 1, (st : Int), (r : Int), b⟩ : R)] rfl (unhide R9) (by simp only [List.length_cons, List.length_nil]; omega) (by simp [World.setCell]; omega) rfl _ _ rfl rfl rfl ?_; intro v10 w10 o10 g10; (obtain ⟨gq, cq, rfl, _, _⟩ := o10.form (by simp)); rw [List.length_append, List.length_cons, List.length_nil] at o10 ⊢; have O10 : Hid (w10.ownsRow (w.heap.size + 1) 48 4 (.slice (some ⟨gq, 0, none⟩) (ms.length + 1) cq) (ms ++ [(⟨(j : Int) + 1, (st : Int), (r : Int), b⟩ : R)]).length (Nb.flat (ms ++ [(⟨(j : Int) + 1, (st : Int), (r : Int), b⟩ : R)]))) := hide (by rw [List.length_append, List.length_cons, List.length_nil]; exact o10); have G10 := hide (but_own (unhide G9) g10 (fun k hk => by have := ((unhide O9).lt k hk).1; omega)); have H10 := hide ((unhide H9).grown g10 ((unhide H9).row (unhide O9))); have T10 := hide ((unhide T9).grown g10 ((unhide T9).row (unhide O9))); have S10 := hide (src_grown (unhide S9) g10 (fun e => by have := ((unhide O9).lt p e.symm).1; omega) (fun e0 g off e e1 => by have := unhide RL e0 g off e; have := ((unhide O9).lt g e1.symm).1; omega)); clear o10 g10; have fr2 := (unhide H10).free 2; obtain ⟨q0, q1, q2⟩ := (unhide H10).bx)
          have H11 := hide ((unhide H10).set (.slice (some ⟨gq, 0, none⟩) (ms.length + 1) cq))
          have O11 := hide (ownsRow_setCell_other (unhide O10) (a := ⟨B, 2, none⟩) (fun e => (unhide H10).row (unhide O10) e.symm) (.slice (some ⟨gq, 0, none⟩) (ms.length + 1) cq))
          have G11 := hide (but_set (unhide G10) hB 2 (.slice (some ⟨gq, 0, none⟩) (ms.length + 1) cq))
          have T11 : Hid (HV (w10.setCell ⟨B, 2, none⟩ (.slice (some ⟨gq, 0, none⟩) (ms.length + 1) cq)) w.heap.size 0 0 (.slice none 0 0)) := hide ((Below.heap_setCell _ _ _ _ (by show w.heap.size ≠ B; omega)).trans (unhide T10))
          have S11 := hide (src_blocks (unhide S10) (Below.heap_setCell w10 ⟨B, 2, none⟩ (.slice (some ⟨gq, 0, none⟩) (ms.length + 1) cq) p (by show p ≠ B; omega)) (fun e0 g off e => Below.heap_setCell _ _ _ _ (by show g ≠ B; have := unhide RL e0 g off e; omega)))
          have HAL : Hid (allN (ms ++ [(⟨(j : Int) + 1, (st : Int), (r : Int), b⟩ : R)]) (ms ++ [(⟨(j : Int) + 1, (st : Int), (r : Int), b⟩ : R)]).length = true) := hide (all_snoc (unhide hal) (unhide HOK8) (fun m hmm => by have := unhide hle m hmm; show m.ad < (j : Int) + 1; omega))
          have HLE : Hid (∀ m ∈ ms ++ [(⟨(j : Int) + 1, (st : Int), (r : Int), b⟩ : R)], m.ad ≤ ((j + 1 : Nat) : Int)) := hide (fun m hmm => by
            rcases List.mem_append.1 hmm with h | h
            · have := unhide hle m h; omega
            · rw [List.mem_singleton] at h; subst h; show (j : Int) + 1 ≤ ((j + 1 : Nat) : Int); omega)
          have hlen : (ms ++ [(⟨(j : Int) + 1, (st : Int), (r : Int), b⟩ : R)]).length ≤ j + 1 := by rw [List.length_append, List.length_cons, List.length_nil]; omega
          generalize ms ++ [(⟨(j : Int) + 1, (st : Int), (r : Int), b⟩ : R)] = ms' at *
          clear n0 n1 n2 n3 z0 z1 z2 q0 q1 q2 fr2 m0 m1 m2 m3 mf
          go_roundw
          case rel => exact ⟨j + 1, _, ms', by omega, by go_num, hlen, HAL, HLE, H11, O11, G11, hide ((unhide S11).mono (by omega)), T11⟩
          case measure => simp [intOf]; omega
        · have h2' : (((st : Nat) : Int) == 2) = false := beq_eq_false_iff_ne.2 (by omega)
          have N8 := N7
          have H8 := H7
          have T8 := T7
          have O8 := O7
          have G8 := G7
          have S8 := S7
          have HOK8 : Hid (okN ⟨(j : Int) + 1, (st : Int), (r : Int), false⟩ = true) := hide (by have := small_ok (i := j + 1) (st := st) (r := r) (mp := false) (by omega) (by omega) (by omega) r1 r2 (fun h => by cases h); rw [show ((j + 1 : Nat) : Int) = (j : Int) + 1 by omega] at this; exact this)
          clear H7 T7 O7 G7 S7 N7
          obtain ⟨n0, n1, n2, n3⟩ := (unhide N8).cells
          obtain ⟨z0, z1, z2⟩ := (unhide H8).bx
          have hs8 : w.heap.size ≤ (w6.alloc (.cells #[.int .i64 ((j : Int) + 1), .int .i64 (st : Int), .int .i64 (r : Int), .bool false] 48)).heap.size := (unhide G8).size
          have hs9 : w.heap.size ≤ w6.heap.size + 1 := by have h := hs8; simpa  using h
          have H9 := hide ((unhide H8).below ((Below.refl _ _).alloc (Nat.le_refl _) (.cells #[.int .i64 ((j : Int) + 1), .int .i64 (st : Int), .int .i64 (r : Int), .bool false] 48)))
          have T9 := hide ((unhide T8).below ((Below.refl _ _).alloc (Nat.le_refl _) (.cells #[.int .i64 ((j : Int) + 1), .int .i64 (st : Int), .int .i64 (r : Int), .bool false] 48)))
          have O9 := hide ((unhide O8).alloc (.cells #[.int .i64 ((j : Int) + 1), .int .i64 (st : Int), .int .i64 (r : Int), .bool false] 48))
          have G9 := hide (but_alloc (unhide G8) (.cells #[.int .i64 ((j : Int) + 1), .int .i64 (st : Int), .int .i64 (r : Int), .bool false] 48))
          have S9 := hide (src_below (unhide S8) ((Below.refl _ _).alloc (Nat.le_refl _) (.cells #[.int .i64 ((j : Int) + 1), .int .i64 (st : Int), .int .i64 (r : Int), .bool false] 48)))
          have R9 : Hid (Nb.RM ((w6.alloc (.cells #[.int .i64 ((j : Int) + 1), .int .i64 (st : Int), .int .i64 (r : Int), .bool false] 48)).alloc (.cells #[.int .i64 ((j : Int) + 1), .int .i64 (st : Int), .int .i64 (r : Int), .bool false] 48)) (some ⟨w6.heap.size + 1, 0, none⟩) [(⟨(j : Int) + 1, (st : Int), (r : Int), false⟩ : R)]) := hide (by have h := Nb.rm_new (w6.alloc (.cells #[.int .i64 ((j : Int) + 1), .int .i64 (st : Int), .int .i64 (r : Int), .bool false] 48)) (⟨(j : Int) + 1, (st : Int), (r : Int), false⟩ : R); rw [show (w6.alloc (.cells #[.int .i64 ((j : Int) + 1), .int .i64 (st : Int), .int .i64 (r : Int), .bool false] 48)).heap.size = w6.heap.size + 1 by simp] at h; exact h)
          go_wp2_with (at_builtin; refine Nb.wpList_apS (unhide O9) (w6.heap.size + 1) 0 1 1 [(⟨(j : Int) + 1, (st : Int), (r : Int), false⟩ : R)] rfl (unhide R9) (by simp only [List.length_cons, List.length_nil]; omega) (by simp; omega) rfl _ _ rfl rfl rfl ?_; intro v10 w10 o10 g10; (obtain ⟨gq, cq, rfl, _, _⟩ := o10.form (by simp)); rw [List.length_append, List.length_cons, List.length_nil] at o10 ⊢; have O10 : Hid (w10.ownsRow (w.heap.size + 1) 48 4 (.slice (some ⟨gq, 0, none⟩) (ms.length + 1) cq) (ms ++ [(⟨(j : Int) + 1, (st : Int), (r : Int), false⟩ : R)]).length (Nb.flat (ms ++ [(⟨(j : Int) + 1, (st : Int), (r : Int), false⟩ : R)]))) := hide (by rw [List.length_append, List.length_cons, List.length_nil]; exact o10); have G10 := hide (but_own (unhide G9) g10 (fun k hk => by have := ((unhide O9).lt k hk).1; omega)); have H10 := hide ((unhide H9).grown g10 ((unhide H9).row (unhide O9))); have T10 := hide ((unhide T9).grown g10 ((unhide T9).row (unhide O9))); have S10 := hide (src_grown (unhide S9) g10 (fun e => by have := ((unhide O9).lt p e.symm).1; omega) (fun e0 g off e e1 => by have := unhide RL e0 g off e; have := ((unhide O9).lt g e1.symm).1; omega)); clear o10 g10; have fr2 := (unhide H10).free 2; obtain ⟨q0, q1, q2⟩ := (unhide H10).bx)
          have H11 := hide ((unhide H10).set (.slice (some ⟨gq, 0, none⟩) (ms.length + 1) cq))
          have O11 := hide (ownsRow_setCell_other (unhide O10) (a := ⟨B, 2, none⟩) (fun e => (unhide H10).row (unhide O10) e.symm) (.slice (some ⟨gq, 0, none⟩) (ms.length + 1) cq))
          have G11 := hide (but_set (unhide G10) hB 2 (.slice (some ⟨gq, 0, none⟩) (ms.length + 1) cq))
          have T11 : Hid (HV (w10.setCell ⟨B, 2, none⟩ (.slice (some ⟨gq, 0, none⟩) (ms.length + 1) cq)) w.heap.size 0 0 (.slice none 0 0)) := hide ((Below.heap_setCell _ _ _ _ (by show w.heap.size ≠ B; omega)).trans (unhide T10))
          have S11 := hide (src_blocks (unhide S10) (Below.heap_setCell w10 ⟨B, 2, none⟩ (.slice (some ⟨gq, 0, none⟩) (ms.length + 1) cq) p (by show p ≠ B; omega)) (fun e0 g off e => Below.heap_setCell _ _ _ _ (by show g ≠ B; have := unhide RL e0 g off e; omega)))
          have HAL : Hid (allN (ms ++ [(⟨(j : Int) + 1, (st : Int), (r : Int), false⟩ : R)]) (ms ++ [(⟨(j : Int) + 1, (st : Int), (r : Int), false⟩ : R)]).length = true) := hide (all_snoc (unhide hal) (unhide HOK8) (fun m hmm => by have := unhide hle m hmm; show m.ad < (j : Int) + 1; omega))
          have HLE : Hid (∀ m ∈ ms ++ [(⟨(j : Int) + 1, (st : Int), (r : Int), false⟩ : R)], m.ad ≤ ((j + 1 : Nat) : Int)) := hide (fun m hmm => by
            rcases List.mem_append.1 hmm with h | h
            · have := unhide hle m h; omega
            · rw [List.mem_singleton] at h; subst h; show (j : Int) + 1 ≤ ((j + 1 : Nat) : Int); omega)
          have hlen : (ms ++ [(⟨(j : Int) + 1, (st : Int), (r : Int), false⟩ : R)]).length ≤ j + 1 := by rw [List.length_append, List.length_cons, List.length_nil]; omega
          generalize ms ++ [(⟨(j : Int) + 1, (st : Int), (r : Int), false⟩ : R)] = ms' at *
          clear n0 n1 n2 n3 z0 z1 z2 q0 q1 q2 fr2 m0 m1 m2 m3 mf
          go_roundw
          case rel => exact ⟨j + 1, _, ms', by omega, by go_num, hlen, HAL, HLE, H11, O11, G11, hide ((unhide S11).mono (by omega)), T11⟩
          case measure => simp [intOf]; omega
    · have hj9 : ¬ ((j : Int) + 1 ≤ 8) := by omega
      clear how
      obtain ⟨z0, z1, z2⟩ := (unhide hhv).bx
      obtain ⟨x0, x1, x2⟩ := (unhide htr).bx
      have y0 := (unhide htr).free 0
      have y1 := (unhide htr).free 1
      have y2 := (unhide htr).free 2
      have hlw := (unhide htr).lt
      have HTC : Hid (helB x y ms = true) := hide (by
        unfold helB inB
        rw [unhide HVY, unhide hal, decide_eq_true (by omega), decide_eq_true (by omega)]; rfl)
      go_wp2_with fail
      refine bodyPost_ret (v := .agg #[.int .i64 x, .int .i64 y, .slice av ms.length cv]) (by simp [results, Try.results35, go_sem, x0, x1, x2, hlw]) rfl ?_
      refine ⟨x, y, av, ms, ⟨cv, rfl⟩, unhide HTC, ?_, ?_⟩
      · refine ((unhide HLST).but (p := fun k => k ≠ w.heap.size) (by simp [World.setCell]) (fun k hk hp => ?_) (fun k h1 h2 => ?_)).mono (by omega) (by simp [World.setCell])
        · rw [Below.heap_setCell _ _ _ _ hp, Below.heap_setCell _ _ _ _ hp, Below.heap_setCell _ _ _ _ hp]
        · omega
      · exact but_set (but_set (but_set (unhide hgr) (Nat.le_refl _) 0 _) (Nat.le_refl _) 1 _) (Nat.le_refl _) 2 _
theorem reads_under {w w' : World} {a : Option Addr} {bs : List UInt8} (h : Reads w a bs) (hb : Below w.heap.size w w') : Reads w' a bs := by
  rcases h with h | ⟨g, off, e, hc⟩
  · exact .inl h
  · exact .inr ⟨g, off, e, fun i hi => (hb.cell (p := ⟨g, off + i, none⟩) (World.block_lt_of_cell? _ _ (hc i hi))).trans (hc i hi)⟩
set_option maxRecDepth 100000 in
set_option maxHeartbeats 1000000 in
theorem helloOf (a : Option Addr) (bs : List UInt8) (cap : Nat) (w : World) (hm : bs.length ≤ 1048576) (hr : Reads w a bs) :
    Calls Try.prog 13 #[.slice a bs.length cap] w fun e w' => ∃ (x y : Int) (g : Option Addr) (ms : List R) (c : Nat), e = .returned (.agg #[.int .i64 x, .int .i64 y, .slice g ms.length c]) ∧ helB x y ms = true ∧ Nb.Lst w' g ms w.heap.size w'.heap.size ∧ Below w.heap.size w w' := by
  have A0 : Hid (Below w.heap.size w (w.alloc (.cells #[.int .i64 0, .int .i64 0, .slice none 0 0] 38))) := hide ((Below.refl _ _).alloc (Nat.le_refl _) _)
  have R0 := hide (reads_under hr (unhide A0))
  have T0 : Hid (HV (w.alloc (.cells #[.int .i64 0, .int .i64 0, .slice none 0 0] 38)) w.heap.size 0 0 (.slice none 0 0)) := hide (hv_new _ _ _ _)
  have hz0 : (w.alloc (.cells #[.int .i64 0, .int .i64 0, .slice none 0 0] 38)).heap.size = w.heap.size + 1 := by simp
  clear hr
  go_enter Try.func13, Try.ntmps13
  go_wp2_with fail
  generalize hW : w.alloc (.cells #[.int .i64 0, .int .i64 0, .slice none 0 0] 38) = W0 at *
  clear hW
  refine (source a bs cap _ hm (unhide R0)).mono ?_
  rintro e w1 ⟨p, rfl, hp, b1, s1⟩
  have T1 := hide ((unhide T0).below b1)
  have D1 := hide ((unhide A0).trans (b1.mono (unhide A0).size))
  have S1 := hide s1
  have hs1 : W0.heap.size ≤ w1.heap.size := b1.size
  clear b1 s1
  go_wp2_with fail
  refine (drawHello p a bs cap 0 w1 (by omega) (by omega) (unhide S1)).mono ?_
  rintro e w2 ⟨x, y, g, ms, c, rfl, htc, hl, g2⟩
  have HTC := hide htc
  have HL := hide hl
  have T2 : Hid (HV w2 w.heap.size 0 0 (.slice none 0 0)) := hide ((g2.block w.heap.size (by omega) (by simp; omega)).trans (unhide T1))
  have D2 : Hid (Below w.heap.size w w2) := hide ((unhide D1).grown g2 (unhide D1).size (fun k hk => by cases hk; omega))
  clear htc hl g2
  obtain ⟨x0, x1, x2⟩ := (unhide T2).bx
  have y0 := (unhide T2).free 0
  have y1 := (unhide T2).free 1
  have y2 := (unhide T2).free 2
  have hlw := (unhide T2).lt
  go_wp2_with fail
  refine bodyPost_ret (v := .agg #[.int .i64 x, .int .i64 y, .slice g ms.length c]) (by simp [results, Try.results13, go_sem, x0, x1, x2, hlw]) rfl ?_
  refine ⟨x, y, g, ms, c, rfl, unhide HTC, ?_, ?_⟩
  · refine ((unhide HL).but (p := fun k => k ≠ w.heap.size) (by simp [World.setCell]) (fun k hk hp => ?_) (fun k h1 h2 => by omega)).mono (by omega) (by simp [World.setCell])
    rw [Below.heap_setCell _ _ _ _ hp, Below.heap_setCell _ _ _ _ hp, Below.heap_setCell _ _ _ _ hp]
  · have hBB := unhide D2
    repeat (first | exact hBB | refine Below.setCell ?_ (by simp <;> omega) _)
end Hl
end Go.Proofs.Ytmelbilepfnmjab
