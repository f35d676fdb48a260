/-
  A drawn hello, exactly.
-/
import Derived.Test.YtpknahhdapmcoaaFmg
import Derived.Test.YtpknahhdapmcoaaHelU
namespace Go.Proofs.Ytpknahhdapmcoaa
open Go.ChangeShapes Go.WideShapes Go.ChangeAt Go.RowKit
set_option linter.unusedVariables false
set_option linter.unusedSimpArgs false
attribute [local go_sem ↓] Go.wp_at_zero Go.wp_at_succ
namespace Fh
open W1 Nb By Fs Hl
open Sr (Wrote_trans reads_lt)
open Dw (but_refl but_trans but_wrote but_below but_alloc but_set but_own)
def yOf (k : Nat) : Int := match k with | 0 => 6 | 1 => 15 | 2 => 1 | _ => 30
def hstep (bs : List UInt8) (j : Nat) (s : List R × Nat) : List R × Nat :=
  if nx bs s.2 3 + 1 = 3 then
    if nx bs (s.2 + 1) 3 = 2 then (s.1 ++ [⟨(j : Int) + 1, (nx bs (s.2 + 1) 3 : Int), (metA bs (s.2 + 2) : Int), decide (nx bs (s.2 + 5) 2 + 1 = 2)⟩], s.2 + 6)
    else (s.1 ++ [⟨(j : Int) + 1, (nx bs (s.2 + 1) 3 : Int), (metA bs (s.2 + 2) : Int), false⟩], s.2 + 5)
  else (s.1, s.2 + 1)
/-- The neighbors up to address j, and how many bytes were asked. -/
def helA (bs : List UInt8) (n : Nat) : Nat → List R × Nat
  | 0 => ([], n + 2)
  | j + 1 => hstep bs j (helA bs n j)
def helV (bs : List UInt8) (n : Nat) : Int × Int × List R := ((nx bs n 8 : Int), yOf (nx bs (n + 1) 4), (helA bs n 8).1)
def helN (bs : List UInt8) (n : Nat) : Nat := (helA bs n 8).2
theorem hel_no {bs : List UInt8} {n j q : Nat} {ms : List R} (h : (ms, q) = helA bs n j) (hc : false = decide (nx bs q 3 + 1 = 3)) : (ms, q + 1) = helA bs n (j + 1) := by
  rw [helA, ← h, hstep, if_neg (by simpa using hc.symm)]
theorem hel_sym {bs : List UInt8} {n j q st r : Nat} {b : Bool} {ms : List R} (h : (ms, q) = helA bs n j) (hc : true = decide (nx bs q 3 + 1 = 3)) (hs : st = nx bs (q + 1) 3) (h2 : st = 2) (hr : r = metA bs (q + 2)) (hb : b = decide (nx bs (q + 5) 2 + 1 = 2)) : (ms ++ [(⟨(j : Int) + 1, (st : Int), (r : Int), b⟩ : R)], q + 6) = helA bs n (j + 1) := by
  rw [helA, ← h, hstep, if_pos (by simpa using hc.symm), if_pos (by show nx bs (q + 1) 3 = 2; rw [← hs]; exact h2), hs, hr, hb]
theorem hel_oth {bs : List UInt8} {n j q st r : Nat} {ms : List R} (h : (ms, q) = helA bs n j) (hc : true = decide (nx bs q 3 + 1 = 3)) (hs : st = nx bs (q + 1) 3) (h2 : ¬ st = 2) (hr : r = metA bs (q + 2)) : (ms ++ [(⟨(j : Int) + 1, (st : Int), (r : Int), false⟩ : R)], q + 5) = helA bs n (j + 1) := by
  rw [helA, ← h, hstep, if_pos (by simpa using hc.symm), if_neg (by show ¬ nx bs (q + 1) 3 = 2; rw [← hs]; exact h2), hs, hr]
theorem hel_all {bs : List UInt8} {n q x : Nat} {y : Int} {ms : List R} (hx : x = nx bs n 8) (hy : y = yOf (nx bs (n + 1) 4)) (h : (ms, q) = helA bs n 8) : ((x : Int), y, ms) = helV bs n := by
  unfold helV; rw [← h, hx, hy]
set_option maxRecDepth 100000 in
set_option maxHeartbeats 4000000 in
theorem drawHello (p : Nat) (a : Option Addr) (bs : List UInt8) (cap n : Nat) (w : World) (hn : n ≤ 1099511600000) (hm : bs.length ≤ 1099511627776) (hs : Fr w p a bs cap n) :
    Calls Try.prog 68 #[.pointer (some ⟨p, 0, none⟩)] w fun e w' => ∃ (x y : Int) (g : Option Addr) (ms : List R) (c : Nat), Hid ((x, y, ms) = helV bs n) ∧ e = .returned (.agg #[.int .i64 x, .int .i64 y, .slice g ms.length c]) ∧ helB x y ms = true ∧ Nb.Lst w' g ms w.heap.size w'.heap.size ∧ w.grownBy w' (some p) ∧ Fr w' p a bs cap (helN bs n) := by
  have hp := src_lt hs
  have RL : Hid (bs ≠ [] → ∀ g off, a = some ⟨g, off, none⟩ → g < w.heap.size) := hide (fun e0 g off e => reads_lt hs.rd e0 e)
  have A0 : Hid (w.grownBy (w.alloc (.cells #[.int .i64 0, .int .i64 0, .slice none 0 0] 90)) (some p)) := hide (but_alloc (but_refl _ _) _)
  have S0 := hide (src_below hs ((Below.refl _ _).alloc (Nat.le_refl _) (.cells #[.int .i64 0, .int .i64 0, .slice none 0 0] 90)))
  have T0 : Hid (HV (w.alloc (.cells #[.int .i64 0, .int .i64 0, .slice none 0 0] 90)) w.heap.size 0 0 (.slice none 0 0)) := hide (hv_new _ _ _ _)
  have hz0 : (w.alloc (.cells #[.int .i64 0, .int .i64 0, .slice none 0 0] 90)).heap.size = w.heap.size + 1 := by simp
  clear hs
  go_enter Try.func68, Try.ntmps68
  go_wp2_with fail
  generalize hW : w.alloc (.cells #[.int .i64 0, .int .i64 0, .slice none 0 0] 90) = W0 at *
  clear hW
  refine (next p a bs cap n 8 _ (by omega) (by omega) (by omega) hm (unhide S0)).mono ?_
  rintro e w1 ⟨x, hre, rfl, hx, wr1, s1⟩
  have EX := hide hre
  clear hre
  have g1 := but_wrote wr1
  have T1 : Hid (HV (w1.alloc (.cells #[.int .i64 6, .int .i64 15, .int .i64 1, .int .i64 30] 3)) w.heap.size 0 0 (.slice none 0 0)) := hide (HV.below (show HV w1 w.heap.size 0 0 (.slice none 0 0) from (g1.block w.heap.size (by omega) (by simp; omega)).trans (unhide T0)) ((Below.refl _ _).alloc (Nat.le_refl _) _))
  have hs1 : w.heap.size < w1.heap.size := by have := g1.size; omega
  have S1 := hide (src_below s1 ((Below.refl _ _).alloc (Nat.le_refl _) (.cells #[.int .i64 6, .int .i64 15, .int .i64 1, .int .i64 30] 3)))
  have G1 := hide (but_alloc (but_trans (unhide A0) g1) (.cells #[.int .i64 6, .int .i64 15, .int .i64 1, .int .i64 30] 3))
  have C1 : Hid (∀ o, (w1.alloc (.cells #[.int .i64 6, .int .i64 15, .int .i64 1, .int .i64 30] 3)).cell? ⟨w1.heap.size, o, none⟩ = (#[.int .i64 6, .int .i64 15, .int .i64 1, .int .i64 30] : Array Value)[o]?) := hide (fun o => World.cell?_alloc_new _ _ _ _)
  clear s1 wr1 g1 A0 S0 T0
  go_wp2_with fail
  generalize w1.alloc (.cells #[.int .i64 6, .int .i64 15, .int .i64 1, .int .i64 30] 3) = u at *
  refine (next p a bs cap (n + 1) 4 _ (by omega) (by omega) (by omega) hm (unhide S1)).mono ?_
  rintro e w2 ⟨k, hre, rfl, hk, wr2, s2⟩
  obtain ⟨y, hy, hyy, hyk⟩ : ∃ y : Int, w2.cell? ⟨w1.heap.size, k, none⟩ = some (.int .i64 y) ∧ (y = 6 ∨ y = 15 ∨ y = 1 ∨ y = 30) ∧ y = yOf k := by
    have hc := (wr2.cell (b := w1.heap.size) (by omega) k).trans (unhide C1 k)
    have h3 : k = 0 ∨ k = 1 ∨ k = 2 ∨ k = 3 := by omega
    rcases h3 with rfl | rfl | rfl | rfl
    · exact ⟨6, hc, .inl rfl, rfl⟩
    · exact ⟨15, hc, .inr (.inl rfl), rfl⟩
    · exact ⟨1, hc, .inr (.inr (.inl rfl)), rfl⟩
    · exact ⟨30, hc, .inr (.inr (.inr rfl)), rfl⟩
  have hy' : w2.cell? ⟨w1.heap.size, 0 + k, none⟩ = some (.int .i64 y) := by rw [Nat.zero_add]; exact hy
  have HVY := hide (val_small hyy)
  have EY : Hid (y = yOf (nx bs (n + 1) 4)) := hide (hyk.trans (by rw [hre]))
  clear hyy hyk hre
  have k0 : (0 : Int) ≤ (k : Int) := by omega
  have k1 : (k : Int) < 4 := by omega
  have G2 := hide (but_trans (unhide G1) (but_wrote wr2))
  have T2 : Hid (HV w2 w.heap.size 0 0 (.slice none 0 0)) := hide ((unhide T1).wrote wr2 (by omega))
  have S2 := hide s2
  have hs2 : w.heap.size ≤ w2.heap.size := (unhide G2).size
  clear s2 wr2 C1 G1 T1 S1
  have F3 := formU w2 (w.heap.size + 1) (x : Int) y (by have := (unhide T2).lt; omega)
  have H3 := hide F3.1
  have O3 := hide F3.2
  have G3 := hide (but_alloc (but_alloc (unhide G2) (.cells #[] 107)) (.cells #[.int .i64 (x : Int), .int .i64 y, .slice (some ⟨w2.heap.size, 0, none⟩) 0 0] 90))
  have S3 := hide (src_below (src_below (unhide S2) ((Below.refl _ _).alloc (Nat.le_refl _) (.cells #[] 107))) ((Below.refl _ _).alloc (Nat.le_refl _) (.cells #[.int .i64 (x : Int), .int .i64 y, .slice (some ⟨w2.heap.size, 0, none⟩) 0 0] 90)))
  have T3 := hide (((unhide T2).below ((Below.refl _ _).alloc (Nat.le_refl _) (.cells #[] 107))).below ((Below.refl _ _).alloc (Nat.le_refl _) (.cells #[.int .i64 (x : Int), .int .i64 y, .slice (some ⟨w2.heap.size, 0, none⟩) 0 0] 90)))
  have hw2 := (unhide T2).lt
  clear F3 G2 S2 T2
  go_wp2_with fail
  clear hy hy'
  obtain ⟨B, hBB⟩ : ∃ B, w2.heap.size + 1 = B := ⟨_, rfl⟩
  have hB : w.heap.size ≤ B := by omega
  have hB2 : w.heap.size < B := by omega
  rw [hBB] at H3
  generalize hW : (w2.alloc (.cells #[] 107)).alloc (.cells #[.int .i64 (x : Int), .int .i64 y, .slice (some ⟨w2.heap.size, 0, none⟩) 0 0] 90) = W3 at *
  clear hW
  rw [hBB]
  clear hBB
  go_loopw [4] (fun i wr => ∃ (j : Nat) (v : Value) (ms : List R) (q : Nat), q ≤ n + 2 + 6 * j ∧ Hid ((ms, q) = helA bs n j) ∧ j ≤ 8 ∧ i = .int .i64 ((j : Int) + 1) ∧ ms.length ≤ j ∧ Hid (allN ms ms.length = true) ∧ Hid (∀ m ∈ ms, m.ad ≤ (j : Int)) ∧ Hid (HV wr B x y v) ∧ Hid (wr.ownsRow (w.heap.size + 1) 107 4 v ms.length (Nb.flat ms)) ∧ Hid (w.grownBy wr (some p)) ∧ Hid (Fr wr p a bs cap q) ∧ Hid (HV wr w.heap.size 0 0 (.slice none 0 0))) (fun i _ => (9 - intOf i).toNat)
  case atStart => exact ⟨0, _, [], n + 2, by omega, hide rfl, by omega, rfl, by simp, hide rfl, hide (fun m hm => by cases hm), H3, O3, G3, S3, T3⟩
  case round =>
    obtain ⟨j, v, ms, q, hqn, hqa, hj, rfl, hml, hal, hle, hhv, how, hgr, hsr, htr⟩ := hrel
    obtain ⟨av, cv, rfl, hlst⟩ := Nb.lst_own rfl (unhide how)
    have HLST := hide hlst
    clear hlst
    by_cases hlt : j < 8
    · have hj1 : (j : Int) + 1 ≤ 8 := by omega
      go_wp2_with fail
      refine (chance p a bs cap q 3 _ (by omega) (by omega) (by omega) hm (unhide hsr)).mono ?_
      rintro e w4 ⟨b, hre, rfl, wr4, s4⟩
      have EC := hide hre
      clear hre
      have S4 := hide s4
      have G4 := hide (but_trans (unhide hgr) (but_wrote wr4))
      have H4 := hide ((unhide hhv).wrote wr4 (by omega))
      have T4 := hide ((unhide htr).wrote wr4 (by omega))
      have O4 := hide (own_other (unhide how) (but_wrote wr4) (by omega))
      clear s4 wr4 hsr hgr hhv htr how
      cases b
      · go_wp2_with fail
        go_roundw
        case rel => exact ⟨j + 1, _, ms, q + 1, by omega, hide (hel_no (unhide hqa) (unhide EC)), by omega, by go_num, by omega, hal, hide (fun m hmm => by have := unhide hle m hmm; omega), H4, O4, G4, S4, T4⟩
        case measure => simp [intOf]; omega
      · go_wp2_with fail
        refine (next p a bs cap (q + 1) 3 _ (by omega) (by omega) (by omega) hm (unhide S4)).mono ?_
        rintro e w5 ⟨st, hre, rfl, hst, wr5, s5⟩
        have EST := hide hre
        clear hre
        have S5 := hide s5
        have G5 := hide (but_trans (unhide G4) (but_wrote wr5))
        have H5 := hide ((unhide H4).wrote wr5 (by omega))
        have T5 := hide ((unhide T4).wrote wr5 (by omega))
        have O5 := hide (own_other (unhide O4) (but_wrote wr5) (by omega))
        clear s5 wr5 S4 G4 H4 T4 O4
        go_wp2_with fail
        refine (metric p a bs cap (q + 2) _ (by omega) hm (unhide S5)).mono ?_
        rintro e w6 ⟨r, hre, rfl, r1, r2, g6, s6⟩
        have ER := hide hre
        clear hre
        have hp6 := src_lt s6
        have H6 : Hid (HV w6 B x y (.slice av ms.length cv)) := hide ((g6.block B (unhide H5).lt (by simp; omega)).trans (unhide H5))
        have T6 : Hid (HV w6 w.heap.size 0 0 (.slice none 0 0)) := hide ((g6.block w.heap.size (unhide T5).lt (by simp; omega)).trans (unhide T5))
        have H7 := hide ((unhide H6).below ((Below.refl _ _).alloc (Nat.le_refl _) (.cells #[.int .i64 ((j : Int) + 1), .int .i64 (st : Int), .int .i64 (r : Int), .bool false] 107)))
        have T7 := hide ((unhide T6).below ((Below.refl _ _).alloc (Nat.le_refl _) (.cells #[.int .i64 ((j : Int) + 1), .int .i64 (st : Int), .int .i64 (r : Int), .bool false] 107)))
        have O6 := hide (own_other (unhide O5) g6 (by omega))
        have HROW : Hid (∀ k, (Value.slice av ms.length cv).ownBlock = some k → k < w6.heap.size) := hide (fun k hk => ((unhide O6).lt k hk).2)
        have O7 := hide ((unhide O6).alloc (.cells #[.int .i64 ((j : Int) + 1), .int .i64 (st : Int), .int .i64 (r : Int), .bool false] 107))
        have G7 := hide (but_alloc (but_trans (unhide G5) g6) (.cells #[.int .i64 ((j : Int) + 1), .int .i64 (st : Int), .int .i64 (r : Int), .bool false] 107))
        have S7 := hide (src_below s6 ((Below.refl _ _).alloc (Nat.le_refl _) (.cells #[.int .i64 ((j : Int) + 1), .int .i64 (st : Int), .int .i64 (r : Int), .bool false] 107)))
        have N7 : Hid (NW (w6.alloc (.cells #[.int .i64 ((j : Int) + 1), .int .i64 (st : Int), .int .i64 (r : Int), .bool false] 107)) w6.heap.size ((j : Int) + 1) st r false) := hide (heap_alloc_new w6 _)
        have hN6 : w.heap.size ≤ w6.heap.size := Nat.le_trans (unhide G5).size g6.size
        have hB6 : B < w6.heap.size := (unhide H6).lt
        clear g6 s6 S5 G5 H5 T5 O5 H6 T6 O6
        obtain ⟨m0, m1, m2, m3⟩ := (unhide N7).cells
        have mf := (unhide N7).free 3
        by_cases h2 : st = 2
        · have h2' : (((st : Nat) : Int) == 2) = true := by rw [h2]; rfl
          have HH2 := hide h2
          clear h2
          go_wp2_with fail
          generalize hW : w6.alloc (.cells #[.int .i64 ((j : Int) + 1), .int .i64 (st : Int), .int .i64 (r : Int), .bool false] 107) = W7 at *
          clear hW
          refine (chance p a bs cap (q + 5) 2 _ (by omega) (by omega) (by omega) hm (unhide S7)).mono ?_
          rintro e w8 ⟨b, hre, rfl, wr8, s8⟩
          have EB := hide hre
          clear hre
          clear m0 m1 m2 m3 mf
          have N7' : Hid (NW w8 w6.heap.size ((j : Int) + 1) st r false) := hide ((wr8.block w6.heap.size (by omega)).trans (unhide N7))
          have H8 : Hid (HV (w8.setCell ⟨w6.heap.size, 3, none⟩ (.bool b)) B x y (.slice av ms.length cv)) := hide ((Below.heap_setCell _ _ _ _ (by show B ≠ w6.heap.size; omega)).trans ((unhide H7).wrote wr8 (by omega)))
          have T8 : Hid (HV (w8.setCell ⟨w6.heap.size, 3, none⟩ (.bool b)) w.heap.size 0 0 (.slice none 0 0)) := hide ((Below.heap_setCell _ _ _ _ (by show w.heap.size ≠ w6.heap.size; omega)).trans ((unhide T7).wrote wr8 (by omega)))
          have O8a := hide (own_other (unhide O7) (but_wrote wr8) (by omega))
          have O8 := hide (ownsRow_setCell_other (unhide O8a) (a := ⟨w6.heap.size, 3, none⟩) (fun e => by have := unhide HROW _ e; simp at this) (.bool b))
          have G8 := hide (but_set (but_trans (unhide G7) (but_wrote wr8)) hN6 3 (.bool b))
          have S8 := hide (src_blocks s8 (Below.heap_setCell w8 ⟨w6.heap.size, 3, none⟩ (.bool b) p (by show p ≠ w6.heap.size; omega)) (fun e0 g off e => Below.heap_setCell _ _ _ _ (by show g ≠ w6.heap.size; have := unhide RL e0 g off e; omega)))
          have N8 : Hid (NW (w8.setCell ⟨w6.heap.size, 3, none⟩ (.bool b)) w6.heap.size ((j : Int) + 1) st r b) := hide (unhide N7').set
          have HOK8 : Hid (okN ⟨(j : Int) + 1, (st : Int), (r : Int), b⟩ = true) := hide (by have := small_ok (i := j + 1) (st := st) (r := r) (mp := b) (by omega) (by omega) (by omega) r1 r2 (fun _ => unhide HH2); rw [show ((j + 1 : Nat) : Int) = (j : Int) + 1 by omega] at this; exact this)
          obtain ⟨m0, m1, m2, m3⟩ := (unhide N7').cells
          have mf := (unhide N7').free 3
          clear wr8 s8 H7 T7 O7 G7 S7 N7 N7' O8a
          obtain ⟨n0, n1, n2, n3⟩ := (unhide N8).cells
          obtain ⟨z0, z1, z2⟩ := (unhide H8).bx
          have hs8 : w.heap.size ≤ (w8.setCell ⟨w6.heap.size, 3, none⟩ (.bool b)).heap.size := (unhide G8).size
          have hs9 : w.heap.size ≤ w8.heap.size := by have h := hs8; simpa [World.setCell] using h
          have H9 := hide ((unhide H8).below ((Below.refl _ _).alloc (Nat.le_refl _) (.cells #[.int .i64 ((j : Int) + 1), .int .i64 (st : Int), .int .i64 (r : Int), .bool b] 107)))
          have T9 := hide ((unhide T8).below ((Below.refl _ _).alloc (Nat.le_refl _) (.cells #[.int .i64 ((j : Int) + 1), .int .i64 (st : Int), .int .i64 (r : Int), .bool b] 107)))
          have O9 := hide ((unhide O8).alloc (.cells #[.int .i64 ((j : Int) + 1), .int .i64 (st : Int), .int .i64 (r : Int), .bool b] 107))
          have G9 := hide (but_alloc (unhide G8) (.cells #[.int .i64 ((j : Int) + 1), .int .i64 (st : Int), .int .i64 (r : Int), .bool b] 107))
          have S9 := hide (src_below (unhide S8) ((Below.refl _ _).alloc (Nat.le_refl _) (.cells #[.int .i64 ((j : Int) + 1), .int .i64 (st : Int), .int .i64 (r : Int), .bool b] 107)))
          have R9 : Hid (Nb.RM ((w8.setCell ⟨w6.heap.size, 3, none⟩ (.bool b)).alloc (.cells #[.int .i64 ((j : Int) + 1), .int .i64 (st : Int), .int .i64 (r : Int), .bool b] 107)) (some ⟨w8.heap.size, 0, none⟩) [(⟨(j : Int) + 1, (st : Int), (r : Int), b⟩ : R)]) := hide (by have h := Nb.rm_new (w8.setCell ⟨w6.heap.size, 3, none⟩ (.bool b)) (⟨(j : Int) + 1, (st : Int), (r : Int), b⟩ : R); rw [show (w8.setCell ⟨w6.heap.size, 3, none⟩ (.bool b)).heap.size = w8.heap.size by simp [World.setCell]] at h; exact h)
          go_wp2_with (at_builtin; refine Nb.wpList_apS (unhide O9) (w8.heap.size) 0 1 1 [(⟨(j : Int) + 1, (st : Int), (r : Int), b⟩ : R)] rfl (unhide R9) (by simp only [List.length_cons, List.length_nil]; omega) (by simp [World.setCell]; omega) rfl _ _ rfl rfl rfl ?_; intro v10 w10 o10 g10; (obtain ⟨gq, cq, rfl, _, _⟩ := o10.form (by simp)); rw [List.length_append, List.length_cons, List.length_nil] at o10 ⊢; have O10 : Hid (w10.ownsRow (w.heap.size + 1) 107 4 (.slice (some ⟨gq, 0, none⟩) (ms.length + 1) cq) (ms ++ [(⟨(j : Int) + 1, (st : Int), (r : Int), b⟩ : R)]).length (Nb.flat (ms ++ [(⟨(j : Int) + 1, (st : Int), (r : Int), b⟩ : R)]))) := hide (by rw [List.length_append, List.length_cons, List.length_nil]; exact o10); have G10 := hide (but_own (unhide G9) g10 (fun k hk => by have := ((unhide O9).lt k hk).1; omega)); have H10 := hide ((unhide H9).grown g10 ((unhide H9).row (unhide O9))); have T10 := hide ((unhide T9).grown g10 ((unhide T9).row (unhide O9))); have S10 := hide (src_grown (unhide S9) g10 (fun e => by have := ((unhide O9).lt p e.symm).1; omega) (fun e0 g off e e1 => by have := unhide RL e0 g off e; have := ((unhide O9).lt g e1.symm).1; omega)); clear o10 g10; have fr2 := (unhide H10).free 2; obtain ⟨q0, q1, q2⟩ := (unhide H10).bx)
          have H11 := hide ((unhide H10).set (.slice (some ⟨gq, 0, none⟩) (ms.length + 1) cq))
          have O11 := hide (ownsRow_setCell_other (unhide O10) (a := ⟨B, 2, none⟩) (fun e => (unhide H10).row (unhide O10) e.symm) (.slice (some ⟨gq, 0, none⟩) (ms.length + 1) cq))
          have G11 := hide (but_set (unhide G10) hB 2 (.slice (some ⟨gq, 0, none⟩) (ms.length + 1) cq))
          have T11 : Hid (HV (w10.setCell ⟨B, 2, none⟩ (.slice (some ⟨gq, 0, none⟩) (ms.length + 1) cq)) w.heap.size 0 0 (.slice none 0 0)) := hide ((Below.heap_setCell _ _ _ _ (by show w.heap.size ≠ B; omega)).trans (unhide T10))
          have S11 := hide (src_blocks (unhide S10) (Below.heap_setCell w10 ⟨B, 2, none⟩ (.slice (some ⟨gq, 0, none⟩) (ms.length + 1) cq) p (by show p ≠ B; omega)) (fun e0 g off e => Below.heap_setCell _ _ _ _ (by show g ≠ B; have := unhide RL e0 g off e; omega)))
          have HAL : Hid (allN (ms ++ [(⟨(j : Int) + 1, (st : Int), (r : Int), b⟩ : R)]) (ms ++ [(⟨(j : Int) + 1, (st : Int), (r : Int), b⟩ : R)]).length = true) := hide (all_snoc (unhide hal) (unhide HOK8) (fun m hmm => by have := unhide hle m hmm; show m.ad < (j : Int) + 1; omega))
          have HLE : Hid (∀ m ∈ ms ++ [(⟨(j : Int) + 1, (st : Int), (r : Int), b⟩ : R)], m.ad ≤ ((j + 1 : Nat) : Int)) := hide (fun m hmm => by
            rcases List.mem_append.1 hmm with h | h
            · have := unhide hle m h; omega
            · rw [List.mem_singleton] at h; subst h; show (j : Int) + 1 ≤ ((j + 1 : Nat) : Int); omega)
          have hlen : (ms ++ [(⟨(j : Int) + 1, (st : Int), (r : Int), b⟩ : R)]).length ≤ j + 1 := by rw [List.length_append, List.length_cons, List.length_nil]; omega
          have HQ := hide (hel_sym (unhide hqa) (unhide EC) (unhide EST) (unhide HH2) (unhide ER) (unhide EB))
          generalize ms ++ [(⟨(j : Int) + 1, (st : Int), (r : Int), b⟩ : R)] = ms' at *
          clear n0 n1 n2 n3 z0 z1 z2 q0 q1 q2 fr2 m0 m1 m2 m3 mf
          go_roundw
          case rel => exact ⟨j + 1, _, ms', q + 6, by omega, HQ, by omega, by go_num, hlen, HAL, HLE, H11, O11, G11, S11, T11⟩
          case measure => simp [intOf]; omega
        · have HN2 := hide h2
          have h2' : (((st : Nat) : Int) == 2) = false := beq_eq_false_iff_ne.2 (by omega)
          have N8 := N7
          have H8 := H7
          have T8 := T7
          have O8 := O7
          have G8 := G7
          have S8 := S7
          have HOK8 : Hid (okN ⟨(j : Int) + 1, (st : Int), (r : Int), false⟩ = true) := hide (by have := small_ok (i := j + 1) (st := st) (r := r) (mp := false) (by omega) (by omega) (by omega) r1 r2 (fun h => by cases h); rw [show ((j + 1 : Nat) : Int) = (j : Int) + 1 by omega] at this; exact this)
          clear H7 T7 O7 G7 S7 N7
          obtain ⟨n0, n1, n2, n3⟩ := (unhide N8).cells
          obtain ⟨z0, z1, z2⟩ := (unhide H8).bx
          have hs8 : w.heap.size ≤ (w6.alloc (.cells #[.int .i64 ((j : Int) + 1), .int .i64 (st : Int), .int .i64 (r : Int), .bool false] 107)).heap.size := (unhide G8).size
          have hs9 : w.heap.size ≤ w6.heap.size + 1 := by have h := hs8; simpa  using h
          have H9 := hide ((unhide H8).below ((Below.refl _ _).alloc (Nat.le_refl _) (.cells #[.int .i64 ((j : Int) + 1), .int .i64 (st : Int), .int .i64 (r : Int), .bool false] 107)))
          have T9 := hide ((unhide T8).below ((Below.refl _ _).alloc (Nat.le_refl _) (.cells #[.int .i64 ((j : Int) + 1), .int .i64 (st : Int), .int .i64 (r : Int), .bool false] 107)))
          have O9 := hide ((unhide O8).alloc (.cells #[.int .i64 ((j : Int) + 1), .int .i64 (st : Int), .int .i64 (r : Int), .bool false] 107))
          have G9 := hide (but_alloc (unhide G8) (.cells #[.int .i64 ((j : Int) + 1), .int .i64 (st : Int), .int .i64 (r : Int), .bool false] 107))
          have S9 := hide (src_below (unhide S8) ((Below.refl _ _).alloc (Nat.le_refl _) (.cells #[.int .i64 ((j : Int) + 1), .int .i64 (st : Int), .int .i64 (r : Int), .bool false] 107)))
          have R9 : Hid (Nb.RM ((w6.alloc (.cells #[.int .i64 ((j : Int) + 1), .int .i64 (st : Int), .int .i64 (r : Int), .bool false] 107)).alloc (.cells #[.int .i64 ((j : Int) + 1), .int .i64 (st : Int), .int .i64 (r : Int), .bool false] 107)) (some ⟨w6.heap.size + 1, 0, none⟩) [(⟨(j : Int) + 1, (st : Int), (r : Int), false⟩ : R)]) := hide (by have h := Nb.rm_new (w6.alloc (.cells #[.int .i64 ((j : Int) + 1), .int .i64 (st : Int), .int .i64 (r : Int), .bool false] 107)) (⟨(j : Int) + 1, (st : Int), (r : Int), false⟩ : R); rw [show (w6.alloc (.cells #[.int .i64 ((j : Int) + 1), .int .i64 (st : Int), .int .i64 (r : Int), .bool false] 107)).heap.size = w6.heap.size + 1 by simp] at h; exact h)
          go_wp2_with (at_builtin; refine Nb.wpList_apS (unhide O9) (w6.heap.size + 1) 0 1 1 [(⟨(j : Int) + 1, (st : Int), (r : Int), false⟩ : R)] rfl (unhide R9) (by simp only [List.length_cons, List.length_nil]; omega) (by simp; omega) rfl _ _ rfl rfl rfl ?_; intro v10 w10 o10 g10; (obtain ⟨gq, cq, rfl, _, _⟩ := o10.form (by simp)); rw [List.length_append, List.length_cons, List.length_nil] at o10 ⊢; have O10 : Hid (w10.ownsRow (w.heap.size + 1) 107 4 (.slice (some ⟨gq, 0, none⟩) (ms.length + 1) cq) (ms ++ [(⟨(j : Int) + 1, (st : Int), (r : Int), false⟩ : R)]).length (Nb.flat (ms ++ [(⟨(j : Int) + 1, (st : Int), (r : Int), false⟩ : R)]))) := hide (by rw [List.length_append, List.length_cons, List.length_nil]; exact o10); have G10 := hide (but_own (unhide G9) g10 (fun k hk => by have := ((unhide O9).lt k hk).1; omega)); have H10 := hide ((unhide H9).grown g10 ((unhide H9).row (unhide O9))); have T10 := hide ((unhide T9).grown g10 ((unhide T9).row (unhide O9))); have S10 := hide (src_grown (unhide S9) g10 (fun e => by have := ((unhide O9).lt p e.symm).1; omega) (fun e0 g off e e1 => by have := unhide RL e0 g off e; have := ((unhide O9).lt g e1.symm).1; omega)); clear o10 g10; have fr2 := (unhide H10).free 2; obtain ⟨q0, q1, q2⟩ := (unhide H10).bx)
          have H11 := hide ((unhide H10).set (.slice (some ⟨gq, 0, none⟩) (ms.length + 1) cq))
          have O11 := hide (ownsRow_setCell_other (unhide O10) (a := ⟨B, 2, none⟩) (fun e => (unhide H10).row (unhide O10) e.symm) (.slice (some ⟨gq, 0, none⟩) (ms.length + 1) cq))
          have G11 := hide (but_set (unhide G10) hB 2 (.slice (some ⟨gq, 0, none⟩) (ms.length + 1) cq))
          have T11 : Hid (HV (w10.setCell ⟨B, 2, none⟩ (.slice (some ⟨gq, 0, none⟩) (ms.length + 1) cq)) w.heap.size 0 0 (.slice none 0 0)) := hide ((Below.heap_setCell _ _ _ _ (by show w.heap.size ≠ B; omega)).trans (unhide T10))
          have S11 := hide (src_blocks (unhide S10) (Below.heap_setCell w10 ⟨B, 2, none⟩ (.slice (some ⟨gq, 0, none⟩) (ms.length + 1) cq) p (by show p ≠ B; omega)) (fun e0 g off e => Below.heap_setCell _ _ _ _ (by show g ≠ B; have := unhide RL e0 g off e; omega)))
          have HAL : Hid (allN (ms ++ [(⟨(j : Int) + 1, (st : Int), (r : Int), false⟩ : R)]) (ms ++ [(⟨(j : Int) + 1, (st : Int), (r : Int), false⟩ : R)]).length = true) := hide (all_snoc (unhide hal) (unhide HOK8) (fun m hmm => by have := unhide hle m hmm; show m.ad < (j : Int) + 1; omega))
          have HLE : Hid (∀ m ∈ ms ++ [(⟨(j : Int) + 1, (st : Int), (r : Int), false⟩ : R)], m.ad ≤ ((j + 1 : Nat) : Int)) := hide (fun m hmm => by
            rcases List.mem_append.1 hmm with h | h
            · have := unhide hle m h; omega
            · rw [List.mem_singleton] at h; subst h; show (j : Int) + 1 ≤ ((j + 1 : Nat) : Int); omega)
          have hlen : (ms ++ [(⟨(j : Int) + 1, (st : Int), (r : Int), false⟩ : R)]).length ≤ j + 1 := by rw [List.length_append, List.length_cons, List.length_nil]; omega
          have HQ := hide (hel_oth (unhide hqa) (unhide EC) (unhide EST) (unhide HN2) (unhide ER))
          generalize ms ++ [(⟨(j : Int) + 1, (st : Int), (r : Int), false⟩ : R)] = ms' at *
          clear n0 n1 n2 n3 z0 z1 z2 q0 q1 q2 fr2 m0 m1 m2 m3 mf
          go_roundw
          case rel => exact ⟨j + 1, _, ms', q + 5, by omega, HQ, by omega, by go_num, hlen, HAL, HLE, H11, O11, G11, S11, T11⟩
          case measure => simp [intOf]; omega
    · have hj9 : ¬ ((j : Int) + 1 ≤ 8) := by omega
      clear how
      obtain ⟨z0, z1, z2⟩ := (unhide hhv).bx
      obtain ⟨x0, x1, x2⟩ := (unhide htr).bx
      have y0 := (unhide htr).free 0
      have y1 := (unhide htr).free 1
      have y2 := (unhide htr).free 2
      have hlw := (unhide htr).lt
      have HTC : Hid (helB x y ms = true) := hide (by
        unfold helB inB
        rw [unhide HVY, unhide hal, decide_eq_true (by omega), decide_eq_true (by omega)]; rfl)
      go_wp2_with fail
      refine bodyPost_ret (v := .agg #[.int .i64 x, .int .i64 y, .slice av ms.length cv]) (by simp [results, Try.results68, go_sem, x0, x1, x2, hlw]) rfl ?_
      obtain rfl : j = 8 := by omega
      refine ⟨x, y, av, ms, hide (hel_all (unhide EX) (unhide EY) (unhide hqa)), ⟨cv, rfl⟩, unhide HTC, ?_, ?_, ?_⟩
      · refine ((unhide HLST).but (p := fun k => k ≠ w.heap.size) (by simp [World.setCell]) (fun k hk hp => ?_) (fun k h1 h2 => ?_)).mono (by omega) (by simp [World.setCell])
        · rw [Below.heap_setCell _ _ _ _ hp, Below.heap_setCell _ _ _ _ hp, Below.heap_setCell _ _ _ _ hp]
        · omega
      · exact but_set (but_set (but_set (unhide hgr) (Nat.le_refl _) 0 _) (Nat.le_refl _) 1 _) (Nat.le_refl _) 2 _
      · have hpq : w.heap.size ≠ p := by omega
        have hR : bs ≠ [] → ∀ g off, a = some ⟨g, off, none⟩ → g ≠ w.heap.size := fun e0 g off e => by have := unhide RL e0 g off e; omega
        have hF := Fm.src_set (Fm.src_set (Fm.src_set (unhide hsr) hpq hR 0 (.int .i64 x)) hpq hR 1 (.int .i64 y)) hpq hR 2 (.slice av ms.length cv)
        have hN : q = helN bs n := congrArg Prod.snd (unhide hqa)
        rw [← hN]; exact hF
end Fh
end Go.Proofs.Ytpknahhdapmcoaa
