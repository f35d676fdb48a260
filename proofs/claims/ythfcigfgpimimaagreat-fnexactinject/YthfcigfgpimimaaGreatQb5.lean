/-
  Of the texts NetB, NetHa, SetG, SetGc, TopG, Rl, RtrC, RtrCo, NetRw, NetOf, RtrD, LnkOw: what this claim needs of them. (put together by mkprune.py)
-/
import Derived.Test.YthfcigfgpimimaaGreatQb4
import Derived.Deep.Cut
import Derived.Lib.AppendZeros
import Derived.OrdersHeld
import Derived.Deep.MidRow
import Derived.Deep.DeepHandedRow
namespace Go.Proofs.YthfcigfgpimimaaGreat
open Go.ChangeShapes Go.WideShapes Go.ChangeAt Go.RowKit
set_option linter.unusedVariables false
set_option linter.unusedSimpArgs false
set_option maxRecDepth 100000
attribute [local go_sem ↓] Go.wp_at_zero Go.wp_at_succ
namespace Fm
open W1
def mkF (K : Int) : R := ⟨K, K + 1, K + 1 + 1, Ss.mtx (K + 1 + 1 + 1).toNat⟩
def mksF (K : Int) (n : Nat) : List R := (List.range n).map fun t : Nat => mkF (K + 4 * (t : Int))
theorem mksF_len (K : Int) (n : Nat) : (mksF K n).length = n := by simp [mksF]
theorem mksF_at (K : Int) (n t : Nat) (h : t < n) : (mksF K n).getD t R.zero = mkF (K + 4 * (t : Int)) := by
  unfold mksF
  rw [List.getD_eq_getElem?_getD, List.getElem?_map, List.getElem?_range h]; rfl
theorem gset {w w1 : World} {g o : Nat} {v : Value} (h : w.grownBy w1 (some g)) : w.grownBy (w1.setCell ⟨g, o, none⟩ v) (some g) :=
  ⟨h.os, h.tape, h.output, by have := h.size; simp [World.setCell]; exact this, fun k hk hne => (Below.heap_setCell _ _ _ _ (fun e => hne (by rw [e]))).trans (h.block k hk hne)⟩
theorem gbel {w w1 w2 : World} {g : Nat} (h : w.grownBy w1 (some g)) (hb : Below w1.heap.size w1 w2) : w.grownBy w2 (some g) :=
  ⟨hb.os.trans h.os, hb.tape.trans h.tape, hb.output.trans h.output, Nat.le_trans h.size hb.size, fun k hk hne => (hb.block k (Nat.lt_of_lt_of_le hk h.size)).trans (h.block k hk hne)⟩
theorem Upto.far {w : World} {g n j o : Nat} {ms : List R} (h : Upto w g n j ms) (ho : j * 4 ≤ o) (v : Value) : Upto (w.setCell ⟨g, o, none⟩ v) g n j ms := by
  have e : ∀ q, q ≠ o → (w.setCell ⟨g, o, none⟩ v).cell? ⟨g, q, none⟩ = w.cell? ⟨g, q, none⟩ := fun q hq => World.cell?_setCell_other _ _ _ _ (by intro h; cases h; exact hq rfl)
  refine ⟨fun i hi => ?_, fun i hi => ⟨?_, by rw [World.frozen?_setCell]; exact (h.2 i hi).2⟩⟩
  · obtain ⟨h0, h1, h2, h3⟩ := h.1 i hi
    exact ⟨(e _ (by omega)).trans h0, (e _ (by omega)).trans h1, (e _ (by omega)).trans h2, (e _ (by omega)).trans h3⟩
  · obtain ⟨u, hu⟩ := Option.isSome_iff_exists.1 (h.2 i hi).1
    obtain ⟨u', hu'⟩ := cell?_setCell_some (p := ⟨g, o, none⟩) (x := v) hu
    rw [hu']; rfl
theorem Upto.close {w : World} {g n j : Nat} {ms : List R} (h : Upto w g n j ms) (ha : At w g (j * 4) (ms.getD j R.zero)) : Upto w g n (j + 1) ms := by
  refine ⟨fun i hi => ?_, h.2⟩
  by_cases e : i = j
  · subst e; exact ha
  · exact h.1 i (by omega)
/-- The first j frames and three numbers of the next one. -/
def Up3 (w : World) (g n j : Nat) (x y z : Int) (ms : List R) : Prop := Upto w g n j ms ∧ w.cell? ⟨g, j * 4, none⟩ = some (.int .i64 x) ∧ w.cell? ⟨g, j * 4 + 1, none⟩ = some (.int .i64 y) ∧ w.cell? ⟨g, j * 4 + 2, none⟩ = some (.int .i64 z)
theorem Up3.of {w : World} {g n j : Nat} {ms : List R} (h : Upto w g n j ms) (hj : j < n) (x y z : Int) : Up3 (((w.setCell ⟨g, j * 4, none⟩ (.int .i64 x)).setCell ⟨g, j * 4 + 1, none⟩ (.int .i64 y)).setCell ⟨g, j * 4 + 2, none⟩ (.int .i64 z)) g n j x y z ms := by
  obtain ⟨v0, h0⟩ := Option.isSome_iff_exists.1 (h.2 (j * 4) (by omega)).1
  obtain ⟨v1, h1⟩ := Option.isSome_iff_exists.1 (h.2 (j * 4 + 1) (by omega)).1
  obtain ⟨v2, h2⟩ := Option.isSome_iff_exists.1 (h.2 (j * 4 + 2) (by omega)).1
  have n : ∀ {w : World} {v : Value} {a b : Nat}, a ≠ b → (w.setCell ⟨g, a, none⟩ v).cell? ⟨g, b, none⟩ = w.cell? ⟨g, b, none⟩ := fun {w v a b} e => World.cell?_setCell_other _ _ _ _ (by intro h; cases h; exact e rfl)
  refine ⟨((h.far (by omega) _).far (by omega) _).far (by omega) _, ?_, ?_, ?_⟩
  · rw [n (by omega), n (by omega), World.cell?_setCell_same _ _ _ h0]
  · rw [n (by omega), World.cell?_setCell_same _ _ _ ((n (by omega)).trans h1)]
  · rw [World.cell?_setCell_same _ _ _ ((n (by omega)).trans ((n (by omega)).trans h2))]
theorem Up3.below {w w' : World} {g n j : Nat} {x y z : Int} {ms : List R} (h : Up3 w g n j x y z ms) (hb : Below w.heap.size w w') (hg : g < w.heap.size) : Up3 w' g n j x y z ms :=
  ⟨h.1.below hb hg, (hb.cell (p := ⟨g, j * 4, none⟩) hg).trans h.2.1, (hb.cell (p := ⟨g, j * 4 + 1, none⟩) hg).trans h.2.2.1, (hb.cell (p := ⟨g, j * 4 + 2, none⟩) hg).trans h.2.2.2⟩
theorem Up3.put {w : World} {g n j : Nat} {x y z : Int} {bs : ByteArray} {ms : List R} (h : Up3 w g n j x y z ms) (hj : j < n) (e : ms.getD j R.zero = ⟨x, y, z, bs⟩) : Upto (w.setCell ⟨g, j * 4 + 3, none⟩ (.string bs)) g n (j + 1) ms := by
  obtain ⟨v3, h3⟩ := Option.isSome_iff_exists.1 (h.1.2 (j * 4 + 3) (by omega)).1
  have n : ∀ {w : World} {v : Value} {a b : Nat}, a ≠ b → (w.setCell ⟨g, a, none⟩ v).cell? ⟨g, b, none⟩ = w.cell? ⟨g, b, none⟩ := fun {w v a b} e => World.cell?_setCell_other _ _ _ _ (by intro h; cases h; exact e rfl)
  refine (h.1.far (by omega) _).close ?_
  rw [e]
  exact ⟨(n (by omega)).trans h.2.1, (n (by omega)).trans h.2.2.1, (n (by omega)).trans h.2.2.2, World.cell?_setCell_same _ _ _ h3⟩
set_option maxHeartbeats 8000000 in
theorem mkFS (g n c : Nat) (K : Int) (ms : List R) (w : World) (hK : 0 ≤ K) (hK1 : K + 4 * n ≤ 99999990) (hn : n ≤ 1048576) (hg : g < w.heap.size) (hU : Upto w g n n ms) :
    Calls Tryz.prog 30 #[.slice (some ⟨g, 0, none⟩) n c, .int .i64 K] w fun e w' => e = .returned (.int .i64 (K + 4 * (n : Int))) ∧ w.grownBy w' (some g) ∧ Upto w' g n n (mksF K n) := by
  have hU0 : Hid (Upto w g n 0 (mksF K n)) := hide ⟨fun i hi => by omega, hU.2⟩
  clear hU
  go_enter Tryz.func30, Tryz.ntmps30
  go_wp2
  go_loopw [1, 5] (fun q i wr => ∃ j : Nat, j ≤ n ∧ i = .int .i64 j ∧ q = .int .i64 (K + 4 * (j : Int)) ∧ Hid (w.grownBy wr (some g)) ∧ Hid (Upto wr g n j (mksF K n))) (fun _ i _ => n - (intOf i).toNat)
  case atStart => exact ⟨0, by omega, rfl, by simp, hide ⟨rfl, rfl, rfl, Nat.le_refl _, fun _ _ _ => rfl⟩, hU0⟩
  case round =>
    obtain ⟨j, hj, rfl, rfl, hgr, hu⟩ := hrel
    by_cases hlt : (j : Int) < (n : Int)
    · have k0 : (0 : Int) ≤ (j : Int) := by omega
      have hma := mksF_at K n j (by omega)
      obtain ⟨q, hq⟩ : ∃ q, K + 4 * (j : Int) = q := ⟨_, rfl⟩
      rw [hq] at hma ⊢
      obtain ⟨t, ht⟩ : ∃ t : Nat, q + 1 + 1 + 1 = (t : Int) := ⟨(q + 1 + 1 + 1).toNat, by omega⟩
      unfold mkF at hma
      rw [ht, Int.toNat_natCast] at hma
      have HMA := hide hma
      have hgs : g < wr.heap.size := Nat.lt_of_lt_of_le hg (unhide hgr).size
      have HQ := hide hq
      have HT := hide ht
      have hq0 : 0 ≤ q := by omega
      have hq1 : q ≤ 99999990 := by omega
      have ht1 : 1 ≤ t := by omega
      have ht8 : t ≤ 99999999 := by omega
      obtain ⟨v0, x0⟩ := Option.isSome_iff_exists.1 ((unhide hu).2 (j * 4) (by omega)).1
      obtain ⟨v1, x1⟩ := Option.isSome_iff_exists.1 ((unhide hu).2 (j * 4 + 1) (by omega)).1
      obtain ⟨v2, x2⟩ := Option.isSome_iff_exists.1 ((unhide hu).2 (j * 4 + 2) (by omega)).1
      have y0 := ((unhide hu).2 (j * 4) (by omega)).2
      have y1 := ((unhide hu).2 (j * 4 + 1) (by omega)).2
      have y2 := ((unhide hu).2 (j * 4 + 2) (by omega)).2
      have HU3 := hide (Up3.of (unhide hu) (show j < n by omega) q (q + 1) (q + 1 + 1))
      have HG3 := hide (gset (o := j * 4 + 2) (v := .int .i64 (q + 1 + 1)) (gset (o := j * 4 + 1) (v := .int .i64 (q + 1)) (gset (o := j * 4) (v := .int .i64 q) (unhide hgr))))
      have HS3 := hide (show g < (((wr.setCell ⟨g, j * 4, none⟩ (.int .i64 q)).setCell ⟨g, j * 4 + 1, none⟩ (.int .i64 (q + 1))).setCell ⟨g, j * 4 + 2, none⟩ (.int .i64 (q + 1 + 1))).heap.size by simpa [World.setCell] using hgs)
      clear hq hma hgs hu hgr
      go_wp2_with fail
      clear x0 x1 x2 y0 y1 y2
      try rw [unhide HT]
      generalize ((wr.setCell ⟨g, j * 4, none⟩ (.int .i64 q)).setCell ⟨g, j * 4 + 1, none⟩ (.int .i64 (q + 1))).setCell ⟨g, j * 4 + 2, none⟩ (.int .i64 (q + 1 + 1)) = w3 at *
      refine (Ss.markText t ht1 ht8 _).mono ?_
      rintro e w4 ⟨rfl, b4⟩
      have HU4 := hide ((unhide HU3).below b4 (unhide HS3))
      have HG4 := hide (gbel (unhide HG3) b4)
      clear b4 HU3 HG3
      obtain ⟨v3, x3⟩ := Option.isSome_iff_exists.1 ((unhide HU4).1.2 (j * 4 + 3) (by omega)).1
      have y3 := ((unhide HU4).1.2 (j * 4 + 3) (by omega)).2
      have HST := hide ((unhide HU4).put (by omega) (unhide HMA))
      have HGN := hide (gset (o := j * 4 + 3) (v := .string (Ss.mtx t)) (unhide HG4))
      clear HU4 HG4 HMA
      generalize Ss.mtx t = mt at *
      clear ht
      go_wp2_with fail
      exact ⟨⟨j + 1, by omega, by go_num, by have h1 := unhide HT; have h2 := unhide HQ; first | (congr 1; omega) | (simp; omega), HGN, HST⟩, by simp [intOf]; omega⟩
    · obtain rfl : j = n := by omega
      go_wp2
      go_ret
      exact ⟨rfl, unhide hgr, unhide hu⟩
theorem mkFS0 (a : Option Addr) (c : Nat) (K : Int) (w : World) :
    Calls Tryz.prog 30 #[.slice a 0 c, .int .i64 K] w fun e w' => e = .returned (.int .i64 K) ∧ w' = w := by
  go_enter Tryz.func30, Tryz.ntmps30
  go_wp2
  go_loop [1, 5] (fun q i => q = .int .i64 K ∧ i = .int .i64 0) (fun _ i => 0)
  case atStart => exact ⟨rfl, rfl⟩
  case round =>
    obtain ⟨rfl, rfl⟩ := hrel
    go_wp2
    go_ret
    exact ⟨rfl, rfl⟩
/-- Marks on a list that may be written, whether it has any or not. -/
theorem mkFF (a : Option Addr) (c lo hi : Nat) (K : Int) (ms : List R) (w : World) (hK : 0 ≤ K) (hK1 : K + 4 * ms.length ≤ 99999990) (hn : ms.length ≤ 1048576) (h : Lst w a ms lo hi) :
    Calls Tryz.prog 30 #[.slice a ms.length c, .int .i64 K] w fun e w' => e = .returned (.int .i64 (K + 4 * (ms.length : Int))) ∧ w.heap.size ≤ w'.heap.size ∧ Below (min lo w.heap.size) w w' ∧ Lst w' a (mksF K ms.length) lo hi ∧ ∀ k, k < w.heap.size → (k < lo ∨ hi ≤ k) → w'.heap[k]? = w.heap[k]? := by
  have hnil : ∀ w', w' = w → w.heap.size ≤ w'.heap.size ∧ Below (min lo w.heap.size) w w' ∧ ∀ k, k < w.heap.size → (k < lo ∨ hi ≤ k) → w'.heap[k]? = w.heap[k]? := by
    rintro w' rfl
    exact ⟨Nat.le_refl _, Below.refl _ _, fun _ _ _ => rfl⟩
  by_cases h0 : ms.length = 0
  · obtain rfl : ms = [] := List.eq_nil_of_length_eq_zero h0
    refine (mkFS0 a c K w).mono ?_
    rintro e w' ⟨rfl, hw⟩
    obtain ⟨q1, q2, q3⟩ := hnil w' hw
    exact ⟨by simp, q1, q2, .inl rfl, q3⟩
  rcases h with rfl | ⟨g, rfl, h1, h2, h3, hu⟩
  · simp at h0
  refine (mkFS g ms.length c K ms w hK hK1 hn h3 hu).mono ?_
  rintro e w' ⟨rfl, gr, hu'⟩
  exact ⟨rfl, gr.size, ⟨gr.os, gr.tape, gr.output, gr.size, fun k hk => gr.block k (by omega) (fun e => by cases e; omega)⟩, .inr ⟨g, rfl, h1, h2, Nat.lt_of_lt_of_le h3 gr.size, by rw [mksF_len]; exact hu'⟩, fun k hk hne => gr.block k hk (fun e => by cases e; omega)⟩
theorem hdFS0 (a : Option Addr) (c : Nat) (K : Int) (w : World) :
    Calls Tryz.prog 33 #[.slice a 0 c, .int .i64 K] w fun e w' => e = .returned (.int .i64 K) ∧ w' = w := by
  go_enter Tryz.func33, Tryz.ntmps33
  go_wp2
  go_loop [1, 5] (fun q i => q = .int .i64 K ∧ i = .int .i64 0) (fun _ i => 0)
  case atStart => exact ⟨rfl, rfl⟩
  case round =>
    obtain ⟨rfl, rfl⟩ := hrel
    go_wp2
    go_ret
    exact ⟨rfl, rfl⟩
set_option maxHeartbeats 8000000 in
theorem hdFS (g n c : Nat) (K : Int) (w : World) (hK : 0 ≤ K) (hK1 : K + 4 * n ≤ 99999990) (hn : n ≤ 1048576) (hg : g < w.heap.size) (hU : Upto w g n n (mksF K n)) :
    Calls Tryz.prog 33 #[.slice (some ⟨g, 0, none⟩) n c, .int .i64 K] w fun e w' => e = .returned (.int .i64 (K + 4 * (n : Int))) ∧ Below w.heap.size w w' := by
  have HU := hide hU
  clear hU
  go_enter Tryz.func33, Tryz.ntmps33
  go_wp2
  go_loopw [1, 5] (fun q i wr => ∃ j : Nat, j ≤ n ∧ i = .int .i64 j ∧ q = .int .i64 (K + 4 * (j : Int)) ∧ Hid (Below w.heap.size w wr)) (fun _ i _ => n - (intOf i).toNat)
  case atStart => exact ⟨0, by omega, rfl, by simp, hide (Below.refl _ _)⟩
  case round =>
    obtain ⟨j, hj, rfl, rfl, hbl⟩ := hrel
    by_cases hlt : (j : Int) < (n : Int)
    · have k0 : (0 : Int) ≤ (j : Int) := by omega
      have hA := ((unhide HU).below (unhide hbl) hg).1 j (by omega)
      rw [mksF_at K n j (by omega)] at hA
      obtain ⟨q, hq⟩ : ∃ q, K + 4 * (j : Int) = q := ⟨_, rfl⟩
      rw [hq] at hA ⊢
      obtain ⟨t, ht⟩ : ∃ t : Nat, q + 1 + 1 + 1 = (t : Int) := ⟨(q + 1 + 1 + 1).toNat, by omega⟩
      unfold mkF at hA
      rw [ht, Int.toNat_natCast] at hA
      obtain ⟨c0, c1, c2, c3⟩ := hA
      dsimp only at c0 c1 c2 c3
      have HQ := hide hq
      have HT := hide ht
      have hq0 : 0 ≤ q := by omega
      have hq1 : q ≤ 99999990 := by omega
      have ht1 : 1 ≤ t := by omega
      have ht8 : t ≤ 99999999 := by omega
      obtain ⟨mt, hmt⟩ : ∃ mt, Ss.mtx t = mt := ⟨_, rfl⟩
      rw [hmt] at c3
      have HMT := hide hmt
      have HC3 := hide c3
      clear hmt c3 hq ht
      go_wp2_with fail
      clear c0 c1 c2
      refine wp_region_noPanic ?_
      refine wp_region_held_drew (S := fun w' => w'.cell? ⟨g, j * 4 + 3, none⟩ = some (.string mt)) (by kernel_rfl) (show wr.drew.cell? ⟨g, j * 4 + 3, none⟩ = some (.string mt) from unhide HC3) (fun hHeld => ?_)
      refine Rg.t 0 39 ?_
      refine Rg.t 1 40 ?_
      refine Rg.t 2 41 ?_
      refine Rg.t 3 42 ?_
      refine Rg.t 4 43 ?_
      refine Rg.t 5 44 ?_
      (refine Rg.o 6 (fun K hK => ?_); go_simp)
      rw [unhide HT]
      refine (Ss.markText t ht1 ht8 _).mono ?_
      rintro e w1 ⟨rfl, b1⟩
      rw [unhide HMT]
      have hc1 : w1.cell? ⟨g, j * 4 + 3, none⟩ = some (.string mt) := (b1.cell (p := ⟨g, j * 4 + 3, none⟩) (World.block_lt_of_cell? _ _ hHeld)).trans hHeld
      have HB1 := hide ((unhide hbl).drew.trans (b1.mono (by show w.heap.size ≤ wr.heap.size; exact (unhide hbl).size)))
      clear b1 hHeld
      refine hK.out _ _ hc1 (fun hHeld => ?_)
      clear hK K
      (try simp only [Act.put, List.setIfInBounds_toArray, List.set_cons_zero, List.set_cons_succ])
      refine Rg.t 7 46 ?_
      refine wpAnyH_done (by kernel_rfl) (NoPanic.normal ?_) _
      clear hHeld hc1
      go_wp2_with fail
      go_roundw
      case rel => exact ⟨j + 1, by omega, by go_num, by have h1 := unhide HT; have h2 := unhide HQ; first | (congr 1; omega) | (simp; omega), HB1⟩
      case measure => simp [intOf]; omega
    · obtain rfl : j = n := by omega
      go_wp2
      go_ret
      exact ⟨by first | trivial | rfl | simp, unhide hbl⟩
theorem hdFF (a : Option Addr) (c n lo hi : Nat) (K : Int) (w : World) (hK : 0 ≤ K) (hK1 : K + 4 * n ≤ 99999990) (hn : n ≤ 1048576) (h : Lst w a (mksF K n) lo hi) :
    Calls Tryz.prog 33 #[.slice a n c, .int .i64 K] w fun e w' => e = .returned (.int .i64 (K + 4 * (n : Int))) ∧ Below w.heap.size w w' := by
  by_cases h0 : n = 0
  · subst h0
    refine (hdFS0 a c K w).mono ?_
    rintro e w' ⟨rfl, rfl⟩
    exact ⟨by simp, Below.refl _ _⟩
  rcases h with h | ⟨g, rfl, _, _, h3, hu⟩
  · have := mksF_len K n; rw [h] at this; simp at this; omega
  · rw [mksF_len] at hu
    exact hdFS g n c K w hK hK1 hn h3 hu
end Fm
end Go.Proofs.YthfcigfgpimimaaGreat
namespace Go.Proofs.YthfcigfgpimimaaGreat
open Go.ChangeShapes Go.WideShapes Go.ChangeAt Go.RowKit
set_option linter.unusedVariables false
set_option linter.unusedSimpArgs false
set_option maxRecDepth 100000
attribute [local go_sem ↓] Go.wp_at_zero Go.wp_at_succ
namespace Nt
open W1 Rt
/-- Routers that may be written, whether there are any or not. -/
def NL (W : World) (a : Option Addr) (lo hi n : Nat) (f : Nat → Nat) (M : Nat → Rm) (Q : Nat → Pl) : Prop := n = 0 ∨ ∃ g, a = some ⟨g, 0, none⟩ ∧ lo ≤ g ∧ g < hi ∧ g < W.heap.size ∧ (∀ i, i < n → g < f i ∨ f (i + 1) ≤ g) ∧ (∀ i, i < n → f i ≤ f (i + 1)) ∧ (∀ i, i < n → lo ≤ f i ∧ f (i + 1) ≤ hi ∧ f (i + 1) ≤ W.heap.size) ∧ MkS W g n f M Q
theorem MkS.but {w w' : World} {g n lo hi L H : Nat} {f : Nat → Nat} {M : Nat → Rm} {Q : Nat → Pl} (h : MkS w g n f M Q) (hs : w.heap.size ≤ w'.heap.size) (hgs : g < w.heap.size) (hg : lo ≤ g ∧ g < hi) (hfl : ∀ i, i < n → lo ≤ f i ∧ f (i + 1) ≤ hi) (hb : ∀ k, k < w.heap.size → (k < L ∨ H ≤ k) → w'.heap[k]? = w.heap[k]?) (hd : hi ≤ L ∨ H ≤ lo) : MkS w' g n f M Q := by
  have e : w'.heap[g]? = w.heap[g]? := hb g hgs (by omega)
  have cb : ∀ q, w'.cell? ⟨g, q, none⟩ = w.cell? ⟨g, q, none⟩ := fun q => World.cell?_of_block (a := ⟨g, q, none⟩) e
  have fb : ∀ q, w'.frozen? ⟨g, q, none⟩ = w.frozen? ⟨g, q, none⟩ := fun q => World.frozen?_of_block (a := ⟨g, q, none⟩) e
  exact ⟨fun i hi k u hu => (cb _).trans (h.1 i hi k u hu), fun k hk => by rw [cb, fb]; exact h.2.1 k hk, fun i hi => (h.2.2 i hi).but hs hb (by have := hfl i hi; omega)⟩
theorem NL.but {w w' : World} {a : Option Addr} {lo hi n L H : Nat} {f : Nat → Nat} {M : Nat → Rm} {Q : Nat → Pl} (h : NL w a lo hi n f M Q) (hs : w.heap.size ≤ w'.heap.size) (hb : ∀ k, k < w.heap.size → (k < L ∨ H ≤ k) → w'.heap[k]? = w.heap[k]?) (hd : hi ≤ L ∨ H ≤ lo) : NL w' a lo hi n f M Q := by
  rcases h with h | ⟨g, rfl, h1, h2, h3, h4, h5, h6, h7⟩
  · exact .inl h
  · exact .inr ⟨g, rfl, h1, h2, Nat.lt_of_lt_of_le h3 hs, h4, h5, fun i hi => ⟨(h6 i hi).1, (h6 i hi).2.1, Nat.le_trans (h6 i hi).2.2 hs⟩, h7.but hs h3 ⟨h1, h2⟩ (fun i hi => ⟨(h6 i hi).1, (h6 i hi).2.1⟩) hb hd⟩
theorem NL.below {w w' : World} {a : Option Addr} {lo hi n : Nat} {f : Nat → Nat} {M : Nat → Rm} {Q : Nat → Pl} (h : NL w a lo hi n f M Q) (hb : Below w.heap.size w w') : NL w' a lo hi n f M Q := by
  rcases h with h | ⟨g, rfl, h1, h2, h3, h4, h5, h6, h7⟩
  · exact .inl h
  · refine .inr ⟨g, rfl, h1, h2, Nat.lt_of_lt_of_le h3 hb.size, h4, h5, fun i hi => ⟨(h6 i hi).1, (h6 i hi).2.1, Nat.le_trans (h6 i hi).2.2 hb.size⟩, ?_⟩
    exact ⟨fun i hi => rng_under (h7.1 i hi) hb h3, there_under h7.2.1 hb h3, fun i hi => (h7.2.2 i hi).below hb⟩
theorem NL.nr {w : World} {a : Option Addr} {lo hi n : Nat} {f : Nat → Nat} {ms : List Rm} {qs : List Pl} (hn : ms.length = n) (h : NL w a lo hi n f (fun i => ms.getD i Rm.zero) (fun i => qs.getD i Pl.zero)) : NR w a ms qs := by
  rcases h with h | ⟨g, rfl, h1, h2, h3, h4, h5, h6, h7⟩
  · exact .inl (List.eq_nil_of_length_eq_zero (by omega))
  · exact .inr ⟨g, 0, rfl, fun i hi => ⟨by rw [Nat.zero_add]; exact h7.1 i (by omega), (h7.2.2 i (by omega)).rd⟩⟩
/-- A net in memory of its own: its rows, its costs, its frames, each in an interval. -/
def MT (W : World) (lo hi : Nat) (a b d : Option Addr) (ms : List Rm) (qs : List Pl) (cs : List Int) (fs : List Fm.R) : Prop :=
  ∃ f p1 q1 p2 q2 p3 q3, (lo ≤ p1 ∧ q1 ≤ hi) ∧ (lo ≤ p2 ∧ q2 ≤ hi) ∧ (lo ≤ p3 ∧ q3 ≤ hi) ∧ (q1 ≤ p2 ∨ q2 ≤ p1) ∧ (q1 ≤ p3 ∨ q3 ≤ p1) ∧ (q2 ≤ p3 ∨ q3 ≤ p2) ∧ NL W a p1 q1 ms.length f (fun i => ms.getD i Rm.zero) (fun i => qs.getD i Pl.zero) ∧ In.Lst W b cs p2 q2 ∧ Fm.Lst W d fs p3 q3
theorem MT.below {W W' : World} {lo hi : Nat} {a b d : Option Addr} {ms : List Rm} {qs : List Pl} {cs : List Int} {fs : List Fm.R} (h : MT W lo hi a b d ms qs cs fs) (hb : Below W.heap.size W W') : MT W' lo hi a b d ms qs cs fs := by
  obtain ⟨f, p1, q1, p2, q2, p3, q3, e1, e2, e3, e4, e5, e6, h1, h2, h3⟩ := h
  exact ⟨f, p1, q1, p2, q2, p3, q3, e1, e2, e3, e4, e5, e6, h1.below hb, h2.below hb, h3.below hb⟩
theorem MT.but {W W' : World} {lo hi L H : Nat} {a b d : Option Addr} {ms : List Rm} {qs : List Pl} {cs : List Int} {fs : List Fm.R} (h : MT W lo hi a b d ms qs cs fs) (hs : W.heap.size ≤ W'.heap.size) (hb : ∀ k, k < W.heap.size → (k < L ∨ H ≤ k) → W'.heap[k]? = W.heap[k]?) (hd : hi ≤ L ∨ H ≤ lo) : MT W' lo hi a b d ms qs cs fs := by
  obtain ⟨f, p1, q1, p2, q2, p3, q3, e1, e2, e3, e4, e5, e6, h1, h2, h3⟩ := h
  exact ⟨f, p1, q1, p2, q2, p3, q3, e1, e2, e3, e4, e5, e6, h1.but hs hb (by omega), h2.but (p := fun k => k < L ∨ H ≤ k) hs (fun k hk h => hb k hk h) (fun k h1 h2 => by omega), h3.but (p := fun k => k < L ∨ H ≤ k) hs (fun k hk h => hb k hk h) (fun k h1 h2 => by omega)⟩
theorem MT.nr {W : World} {lo hi : Nat} {a b d : Option Addr} {ms : List Rm} {qs : List Pl} {cs : List Int} {fs : List Fm.R} (h : MT W lo hi a b d ms qs cs fs) : NR W a ms qs := by
  obtain ⟨f, p1, q1, p2, q2, p3, q3, e1, e2, e3, e4, e5, e6, h1, h2, h3⟩ := h; exact h1.nr rfl
theorem MT.ri {W : World} {lo hi : Nat} {a b d : Option Addr} {ms : List Rm} {qs : List Pl} {cs : List Int} {fs : List Fm.R} (h : MT W lo hi a b d ms qs cs fs) : In.RM W b cs := by
  obtain ⟨f, p1, q1, p2, q2, p3, q3, e1, e2, e3, e4, e5, e6, h1, h2, h3⟩ := h; exact h2.rm
theorem MT.rf {W : World} {lo hi : Nat} {a b d : Option Addr} {ms : List Rm} {qs : List Pl} {cs : List Int} {fs : List Fm.R} (h : MT W lo hi a b d ms qs cs fs) : Fm.RM W d fs := by
  obtain ⟨f, p1, q1, p2, q2, p3, q3, e1, e2, e3, e4, e5, e6, h1, h2, h3⟩ := h; exact h3.rm
theorem OwT.mt {W : World} {lo hi g1 g2 g3 : Nat} {ms : List Rm} {qs : List Pl} {cs : List Int} {fs : List Fm.R} (h : OwT W lo hi g1 g2 g3 ms qs cs fs) : MT W lo hi (some ⟨g1, 0, none⟩) (some ⟨g2, 0, none⟩) (some ⟨g3, 0, none⟩) ms qs cs fs := by
  obtain ⟨p, e1, e2, e3, e4, e5, e6, _, h1, ⟨f, f0, f1, f2, f3⟩, h3, h4⟩ := h
  have up : ∀ i k, i + k ≤ ms.length → f i ≤ f (i + k) := fun i k => by
    induction k with
    | zero => intro _; exact Nat.le_refl _
    | succ k ih => intro hk; exact Nat.le_trans (ih (by omega)) (f1 (i + k) (by omega))
  have fb : ∀ i, i < ms.length → g1 + 1 ≤ f i ∧ f (i + 1) ≤ p := fun i hi => by
    have h0 := up 0 i (by omega)
    have h9 := up (i + 1) (ms.length - (i + 1)) (by omega)
    rw [Nat.zero_add] at h0
    rw [show i + 1 + (ms.length - (i + 1)) = ms.length by omega] at h9
    omega
  refine ⟨f, g1, p, g2, g2 + 1, g3, g3 + 1, by omega, by omega, by omega, by omega, by omega, by omega, ?_, ?_, ?_⟩
  · exact .inr ⟨g1, rfl, Nat.le_refl _, e2, by omega, fun i hi => .inl (by have := fb i hi; omega), f1, fun i hi => by have := fb i hi; omega, h1.1, h1.2, f3⟩
  · exact .inr ⟨g2, rfl, Nat.le_refl _, by omega, by omega, h3⟩
  · exact .inr ⟨g3, rfl, Nat.le_refl _, by omega, by omega, h4⟩
/-- A net's marks from K on. -/
def MM (W : World) (a b d : Option Addr) (K : Int) (ms : List Rm) (qs : List Pl) (cs : List Int) (fs : List Fm.R) (lo hi : Nat) : Prop :=
  ∃ f p1 q1 p2 q2 p3 q3, ((lo ≤ p1 ∧ q1 ≤ hi) ∧ (lo ≤ p2 ∧ q2 ≤ hi) ∧ (lo ≤ p3 ∧ q3 ≤ hi)) ∧ NL W a p1 q1 ms.length f (fun i => mkM (ms.getD i Rm.zero) (K + sumK ms i)) (fun i => qs.getD i Pl.zero) ∧ In.Lst W b (In.marks (K + sumK ms ms.length) cs.length) p2 q2 ∧ Fm.Lst W d (Fm.mksF (K + sumK ms ms.length + cs.length) fs.length) p3 q3
theorem MM.below {W W' : World} {a b d : Option Addr} {K : Int} {ms : List Rm} {qs : List Pl} {cs : List Int} {fs : List Fm.R} {lo hi : Nat} (h : MM W a b d K ms qs cs fs lo hi) (hb : Below W.heap.size W W') : MM W' a b d K ms qs cs fs lo hi := by
  obtain ⟨f, p1, q1, p2, q2, p3, q3, e, h1, h2, h3⟩ := h
  exact ⟨f, p1, q1, p2, q2, p3, q3, e, h1.below hb, h2.below hb, h3.below hb⟩
def totK (ms : List Rm) (cs : List Int) (fs : List Fm.R) : Int := sumK ms ms.length + cs.length + 4 * fs.length
theorem mkK_le (m : Rm) : mkK m ≤ 6 + 6 * cnt m := by unfold mkK cnt; omega
theorem sumK_tot (ms : List Rm) : ∀ j, j ≤ ms.length → sumK ms j ≤ 6 * ((j : Int) + tot (ms.take j))
  | 0, _ => by simp [sumK, tot]
  | j + 1, h => by
    have h1 := sumK_tot ms j (by omega)
    have h2 := mkK_le (ms.getD j Rm.zero)
    have h3 := tot_take (ms := ms) (j := j) (by omega)
    simp only [sumK]
    rw [h3]
    have h4 : ((j + 1 : Nat) : Int) = (j : Int) + 1 := by omega
    rw [h4]
    omega
theorem totK_pos (ms : List Rm) (cs : List Int) (fs : List Fm.R) : 0 ≤ totK ms cs fs := by have := sumK_pos ms ms.length; unfold totK; omega
theorem totK_le {ms : List Rm} {cs : List Int} {fs : List Fm.R} (h : (ms.length : Int) + tot ms + cs.length + fs.length + totF fs ≤ 1048576) : 1 + totK ms cs fs ≤ 99999990 := by
  have h1 := sumK_tot ms ms.length (Nat.le_refl _)
  rw [List.take_length] at h1
  have h2 := totF_nonneg fs
  have h3 := tot_nonneg ms
  unfold totK
  omega
theorem markNS0 (a : Option Addr) (c : Nat) (K : Int) (w : World) :
    Calls Tryz.prog 28 #[.slice a 0 c, .int .i64 K] w fun e w' => e = .returned (.int .i64 K) ∧ w' = w := by
  go_enter Tryz.func28, Tryz.ntmps28
  go_wp2
  go_loop [1, 5] (fun q i => q = .int .i64 K ∧ i = .int .i64 0) (fun _ i => 0)
  case atStart => exact ⟨rfl, rfl⟩
  case round =>
    obtain ⟨rfl, rfl⟩ := hrel
    go_wp2
    go_ret
    exact ⟨rfl, rfl⟩
theorem markNF (a : Option Addr) (c lo hi n : Nat) (f : Nat → Nat) (K : Int) (ms : List Rm) (Q : Nat → Pl) (w : World) (hn : ms.length = n) (hn8 : n ≤ 1048576) (hK : 0 ≤ K) (hK1 : K + sumK ms n ≤ 900000000) (hs : ∀ i, i < ms.length → Sm (ms.getD i Rm.zero)) (h : NL w a lo hi n f (fun i => ms.getD i Rm.zero) Q) :
    Calls Tryz.prog 28 #[.slice a n c, .int .i64 K] w fun e w' => e = .returned (.int .i64 (K + sumK ms n)) ∧ w.heap.size ≤ w'.heap.size ∧ Below (min lo w.heap.size) w w' ∧ NL w' a lo hi n f (fun i => mkM (ms.getD i Rm.zero) (K + sumK ms i)) Q ∧ ∀ k, k < w.heap.size → (k < lo ∨ hi ≤ k) → w'.heap[k]? = w.heap[k]? := by
  by_cases h0 : n = 0
  · subst h0
    refine (markNS0 a c K w).mono ?_
    rintro e w' ⟨rfl, rfl⟩
    exact ⟨by simp [sumK], Nat.le_refl _, Below.refl _ _, .inl rfl, fun _ _ _ => rfl⟩
  rcases h with h | ⟨g, rfl, h1, h2, h3, h4, h5, h6, h7⟩
  · exact absurd h h0
  refine (markNS g n c lo hi f K ms Q w hn hn8 hK hK1 hs h3 h1 h2 h4 h5 h6 h7).mono ?_
  rintro e w' ⟨rfl, hz, hb, hm, hk⟩
  exact ⟨rfl, hz, hb, .inr ⟨g, rfl, h1, h2, Nat.lt_of_lt_of_le h3 hz, h4, h5, fun i hi => ⟨(h6 i hi).1, (h6 i hi).2.1, Nat.le_trans (h6 i hi).2.2 hz⟩, hm⟩, hk⟩
theorem heldNS0 (a : Option Addr) (c : Nat) (K : Int) (w : World) :
    Calls Tryz.prog 31 #[.slice a 0 c, .int .i64 K] w fun e w' => e = .returned (.int .i64 K) ∧ w' = w := by
  go_enter Tryz.func31, Tryz.ntmps31
  go_wp2
  go_loop [1, 5] (fun q i => q = .int .i64 K ∧ i = .int .i64 0) (fun _ i => 0)
  case atStart => exact ⟨rfl, rfl⟩
  case round =>
    obtain ⟨rfl, rfl⟩ := hrel
    go_wp2
    go_ret
    exact ⟨rfl, rfl⟩
theorem heldNF (a : Option Addr) (c lo hi n : Nat) (f : Nat → Nat) (K : Int) (ms : List Rm) (Q : Nat → Pl) (w : World) (hn : ms.length = n) (hn8 : n ≤ 1048576) (hK : 0 ≤ K) (hK1 : K + sumK ms n ≤ 900000000) (hs : ∀ i, i < ms.length → Sm (ms.getD i Rm.zero)) (h : NL w a lo hi n f (fun i => mkM (ms.getD i Rm.zero) (K + sumK ms i)) Q) :
    Calls Tryz.prog 31 #[.slice a n c, .int .i64 K] w fun e w' => e = .returned (.int .i64 (K + sumK ms n)) ∧ w' = w := by
  by_cases h0 : n = 0
  · subst h0
    refine (heldNS0 a c K w).mono ?_
    rintro e w' ⟨rfl, rfl⟩
    exact ⟨by simp [sumK], rfl⟩
  rcases h with h | ⟨g, rfl, h1, h2, h3, h4, h5, h6, h7⟩
  · exact absurd h h0
  exact heldNS g n c f K ms Q w hn hn8 hK hK1 hs h7
end Nt
end Go.Proofs.YthfcigfgpimimaaGreat
namespace Go.Proofs.YthfcigfgpimimaaGreat
open Go.ChangeShapes Go.WideShapes Go.ChangeAt Go.RowKit
set_option linter.unusedVariables false
set_option linter.unusedSimpArgs false
attribute [local go_sem ↓] Go.wp_at_zero Go.wp_at_succ
namespace St
open W1 Tu
theorem l03Own (g off : Nat) (ms : List R) (cap n : Nat) (w : World) (hn : ms.length = n) (hm : ms.length ≤ 4096) (hr : RM w (some ⟨g, off, none⟩) ms) :
    Calls Tryz.prog 74 #[.slice (some ⟨g, off, none⟩) n cap] w fun e w' => ∃ v, e = .returned v ∧ Below w.heap.size w w' ∧ LstV w' v ms w.heap.size w'.heap.size := by
  have HR := hide (hr.below ((Below.refl _ _).alloc (Nat.le_refl _) (.cells #[] 111)))
  have O0 := hide (own_empty w w.heap.size (Nat.le_refl _))
  clear hr
  go_enter Tryz.func74, Tryz.ntmps74
  go_wp2_with (at_builtin; refine wpList_apS (unhide O0) g off n cap ms hn (unhide HR) (by simp; omega) (by simp) rfl _ _ rfl rfl rfl ?_; intro v' w' ho hg; have HL := hide (lst_own rfl ho); have HB := hide (below_own ((Below.refl _ _).alloc (Nat.le_refl _) _) (unhide O0) hg (Nat.le_refl _) (by simp)); clear ho hg)
  go_ret
  exact ⟨_, rfl, unhide HB, unhide HL⟩
theorem copied (g off : Nat) (ms : List R) (cap n : Nat) (w : World) (hn : ms.length = n) (hm : ms.length ≤ 4096) (hr : RM w (some ⟨g, off, none⟩) ms) :
    Calls Tryz.prog 111 #[.slice (some ⟨g, off, none⟩) n cap] w fun e w' => ∃ v, e = .returned v ∧ Below w.heap.size w w' ∧ LstV w' v ms w.heap.size w'.heap.size := by
  have HR := hide hr
  have O0 := hide (own_nil w w.heap.size)
  clear hr
  go_enter Tryz.func111, Tryz.ntmps111
  go_wp2_with (at_builtin; refine wpList_apS (unhide O0) g off n cap ms hn (unhide HR) (by simp; omega) (by simp) rfl _ _ rfl rfl rfl ?_; intro v' w' ho hg; have HL := hide (lst_own rfl ho); have HB := hide (below_own (Below.refl _ _) (unhide O0) hg (Nat.le_refl _) (Nat.le_refl _)); clear ho hg)
  go_ret
  exact ⟨_, rfl, unhide HB, unhide HL⟩
end St
end Go.Proofs.YthfcigfgpimimaaGreat
namespace Go.Proofs.YthfcigfgpimimaaGreat
open Go.ChangeShapes Go.WideShapes Go.ChangeAt Go.RowKit
set_option linter.unusedVariables false
set_option linter.unusedSimpArgs false
attribute [local go_sem ↓] Go.wp_at_zero Go.wp_at_succ
namespace St
open W1 Tu
/-- What a slice of one's own looks like: its capacity, and where it lies. -/
def Shp (v : Value) : Prop := ∃ a n c, v = .slice a n c ∧ n ≤ c ∧ c ≤ maxLen ∧ (a = none ∨ ∃ g, a = some ⟨g, 0, none⟩)
theorem Shp.at {a : Option Addr} {n c : Nat} (h : Shp (.slice a n c)) : n ≤ c ∧ c ≤ maxLen ∧ (a = none ∨ ∃ g, a = some ⟨g, 0, none⟩) := by
  obtain ⟨a', n', c', e, h⟩ := h
  cases e
  exact h
end St
end Go.Proofs.YthfcigfgpimimaaGreat
namespace Go.Proofs.YthfcigfgpimimaaGreat
open Go.ChangeShapes Go.WideShapes Go.ChangeAt Go.RowKit
set_option linter.unusedVariables false
set_option linter.unusedSimpArgs false
set_option maxRecDepth 100000
attribute [local go_sem ↓] Go.wp_at_zero Go.wp_at_succ
namespace Tp
open W1 So
theorem copied (g off : Nat) (ms : List R) (cap n : Nat) (w : World) (hn : ms.length = n) (hm : ms.length ≤ 4096) (hr : RM w (some ⟨g, off, none⟩) ms) :
    Calls Tryz.prog 112 #[.slice (some ⟨g, off, none⟩) n cap] w fun e w' => ∃ v, e = .returned v ∧ Below w.heap.size w w' ∧ LstV w' v ms w.heap.size w'.heap.size := by
  have HR := hide hr
  have O0 := hide (own_nil w w.heap.size)
  clear hr
  go_enter Tryz.func112, Tryz.ntmps112
  go_wp2_with (at_builtin; refine wpList_apS (unhide O0) g off n cap ms hn (unhide HR) (by simp; omega) (by simp) rfl _ _ rfl rfl rfl ?_; intro v' w' ho hg; have HL := hide (lst_own rfl ho); have HB := hide (below_own (Below.refl _ _) (unhide O0) hg (Nat.le_refl _) (Nat.le_refl _)); clear ho hg)
  go_ret
  exact ⟨_, rfl, unhide HB, unhide HL⟩
end Tp
end Go.Proofs.YthfcigfgpimimaaGreat
namespace Go.Proofs.YthfcigfgpimimaaGreat
namespace Rl
variable {P : Program} {ops : Array Oper} {Q : Exit → Act → World → Prop} {md : Region.Mode} {S T : World → Prop} {k : Nat}
/-- Whatever order is picked from here on, S holds behind every operation that is carried out, and T as long as k has not come up. -/
def wpAnyL (P : Program) (md : Region.Mode) (ops : Array Oper) (Q : Exit → Act → World → Prop) (S T : World → Prop) (k : Nat) : Nat → Array Bool → Act → World → Prop
  | 0, listed, a, w => Region.ready md ops listed = [] ∧ Q .normal a w
  | fuel + 1, listed, a, w =>
    (Region.ready md ops listed = [] → Q .normal a w) ∧
    ∀ i ∈ Region.ready md ops listed, wpOp P ops Q i (fun a' w' => (S w' ∧ ((listed.setIfInBounds i true).getD k true = false → T w')) ∧ wpAnyL P md ops Q S T k fuel (listed.setIfInBounds i true) a' w') a w
theorem wpAny_of : ∀ (fuel : Nat) (listed : Array Bool) (a : Act) (w : World), wpAnyL P md ops Q S T k fuel listed a w → wpAny P md ops Q fuel listed a w
  | 0, _, _, _, h => h
  | fuel + 1, _, _, _, h => ⟨h.1, fun i hi => wpOp_mono (fun a' w' h' => wpAny_of fuel _ a' w' h'.2) (h.2 i hi)⟩
theorem first {i : Nat} {oi ok : Oper} {v : Value} (hi : ops[i]? = some oi) (hk : ops[k]? = some ok) (hki : k ≠ i) (hsel : ∀ (j : Nat) (o : Oper) cs b, ops[j]? = some o → o.op ≠ .select cs b)
    (hwait : ∃ e ∈ ok.after, Region.binds md e = true ∧ e.on = i)
    (hQ : ∀ c a w, Q (.panic c) (a.put oi.dst v) w → Q (.panic c) a w) :
    ∀ (fuel : Nat) (listed : Array Bool) (a : Act) (w : World),
      (∀ j oj, ops[j]? = some oj → j ≠ i → listed.getD j true = false → (∀ e ∈ oj.after, Region.binds md e = true → e.on ≠ i) → oi.apart ops oj = true) →
      i ∈ Region.ready md ops listed → YieldsIf P ops (fun w => S w ∧ T w) oi v a → listed.getD k true = false → S w ∧ T w →
      wpAnyL P md ops Q S T k fuel (listed.setIfInBounds i true) (a.put oi.dst v) w → wpAnyL P md ops Q S T k (fuel + 1) listed a w := by
  intro fuel
  induction fuel with
  | zero =>
    intro listed a w _ hr hy hlk hS H
    refine ⟨fun h => (by rw [h] at hr; cases hr), fun j hj => ?_⟩
    by_cases hji : j = i
    · subst hji; exact hy.wpOp hi hS ⟨⟨hS.1, fun _ => hS.2⟩, H⟩
    · have := ready_mono hj hji
      rw [H.1] at this
      cases this
  | succ fuel ih =>
    intro listed a w hfree hr hy hlk hS H
    refine ⟨fun h => (by rw [h] at hr; cases hr), fun j hj => ?_⟩
    by_cases hji : j = i
    · subst hji; exact hy.wpOp hi hS ⟨⟨hS.1, fun _ => hS.2⟩, H⟩
    · have h1 := H.2 j (ready_mono hj hji)
      obtain ⟨hjun, oj, hoj, hall⟩ := mem_ready.1 hj
      have hnot : ∀ e ∈ oj.after, Region.binds md e = true → e.on ≠ i := fun e he hb heq => by
        have h1 := hall e he hb
        have h0 := (mem_ready.1 hr).1
        rw [heq] at h1
        rcases Nat.lt_or_ge i listed.size with h' | h'
        · simp [h'] at h0 h1; rw [h0] at h1; cases h1
        · simp [Array.getElem?_eq_none h'] at h1
      have hjk : j ≠ k := fun e => by
        subst e
        rw [hk] at hoj; cases hoj
        obtain ⟨e, he, hb, hon⟩ := hwait
        exact hnot e he hb hon
      have hlj : (listed.setIfInBounds j true).getD k true = false := by rw [getD_set_ne true hjk]; exact hlk
      have hlij : ((listed.setIfInBounds i true).setIfInBounds j true).getD k true = false := by rw [getD_set_ne true hjk, getD_set_ne true (Ne.symm hki)]; exact hlk
      have h2 := wpOp_putIf hoj (hfree j oj hoj hji hjun hnot) (fun cs b => hsel i oi cs b hi) (fun cs b => hsel j oj cs b hoj) hQ hy h1
      have hfree' : ∀ k ok, ops[k]? = some ok → k ≠ i → (listed.setIfInBounds j true).getD k true = false →
          (∀ e ∈ ok.after, Region.binds md e = true → e.on ≠ i) → oi.apart ops ok = true := fun k ok hk hki hun hno => by
        refine hfree k ok hk hki ?_ hno
        by_cases hjk : j = k
        · subst hjk; exact hjun
        · rw [getD_set_ne true hjk] at hun; exact hun
      refine wpOp_mono (fun a' w' h3 => ⟨⟨h3.2.1.1, fun _ => h3.2.1.2 hlij⟩, ih (listed.setIfInBounds j true) a' w' hfree' (ready_mono hr (Ne.symm hji)) h3.1 hlj ⟨h3.2.1.1, h3.2.1.2 hlij⟩ ?_⟩) h2
      rw [Array.setIfInBounds_comm _ _ hji]
      exact h3.2.2
/-- Whether operation k waits for i. -/
def waits (md : Region.Mode) (ops : Array Oper) (k i : Nat) : Bool := match ops[k]? with | some ok => ok.after.any (fun e => Region.binds md e && e.on == i) | none => false
theorem waits_spec {i : Nat} (h : waits md ops k i = true) : ∃ ok, ops[k]? = some ok ∧ ∃ e ∈ ok.after, Region.binds md e = true ∧ e.on = i := by
  unfold waits at h
  split at h
  · rename_i ok ho
    obtain ⟨e, he, hh⟩ := Array.any_eq_true'.1 h
    rw [Bool.and_eq_true] at hh
    exact ⟨ok, ho, e, he, hh.1, by simpa using hh.2⟩
  · cases h
/-- Take number i first, into slot d. -/
theorem tk {i d : Nat} {oi : Oper} {v : Value} {fuel : Nat} {listed : Array Bool} {a : Act} {w : World} (hi : ops[i]? = some oi) (hd : oi.dst = some d)
    (hs : Region.noSelect ops = true) (hf : Region.free md ops listed i = true) (hr : (Region.ready md ops listed).contains i = true) (hw : waits md ops k i = true) (hki : (k == i) = false) (hlk : listed.getD k true = false)
    (hQ : ∀ c a w, Q (.panic c) (a.put oi.dst v) w → Q (.panic c) a w) (hy : Region.wanted oi (yielded ops a.tmps) = true) (hv : ∀ w, S w ∧ T w → (execOp a.eval oi).run P w = .ok (.value v) w) (hS : S w ∧ T w)
    (h : wpAnyL P md ops Q S T k fuel (listed.setIfInBounds i true) (a.put (some d) v) w) : wpAnyL P md ops Q S T k (fuel + 1) listed a w := by
  obtain ⟨ok, hok, hwt⟩ := waits_spec hw
  exact first hi hok (fun e => by subst e; simp at hki) (Region.noSelect_spec hs) hwt hQ fuel listed a w (Region.free_spec hi hf) (by simpa using hr) (.inl ⟨hy, hv⟩) hlk hS (by rw [hd]; exact h)
/-- What yields under S alone may be taken first whether k waits for it or not. -/
theorem firstS {i : Nat} {oi : Oper} {v : Value} (hi : ops[i]? = some oi) (hki : k ≠ i) (hsel : ∀ (j : Nat) (o : Oper) cs b, ops[j]? = some o → o.op ≠ .select cs b)
    (hQ : ∀ c a w, Q (.panic c) (a.put oi.dst v) w → Q (.panic c) a w) :
    ∀ (fuel : Nat) (listed : Array Bool) (a : Act) (w : World),
      (∀ j oj, ops[j]? = some oj → j ≠ i → listed.getD j true = false → (∀ e ∈ oj.after, Region.binds md e = true → e.on ≠ i) → oi.apart ops oj = true) →
      i ∈ Region.ready md ops listed → YieldsIf P ops S oi v a → S w ∧ (listed.getD k true = false → T w) →
      wpAnyL P md ops Q S T k fuel (listed.setIfInBounds i true) (a.put oi.dst v) w → wpAnyL P md ops Q S T k (fuel + 1) listed a w := by
  intro fuel
  induction fuel with
  | zero =>
    intro listed a w _ hr hy hS H
    refine ⟨fun h => (by rw [h] at hr; cases hr), fun j hj => ?_⟩
    by_cases hji : j = i
    · subst hji; exact hy.wpOp hi hS.1 ⟨⟨hS.1, fun h => hS.2 (by rw [getD_set_ne true (Ne.symm hki)] at h; exact h)⟩, H⟩
    · have := ready_mono hj hji
      rw [H.1] at this
      cases this
  | succ fuel ih =>
    intro listed a w hfree hr hy hS H
    refine ⟨fun h => (by rw [h] at hr; cases hr), fun j hj => ?_⟩
    by_cases hji : j = i
    · subst hji; exact hy.wpOp hi hS.1 ⟨⟨hS.1, fun h => hS.2 (by rw [getD_set_ne true (Ne.symm hki)] at h; exact h)⟩, H⟩
    · have h1 := H.2 j (ready_mono hj hji)
      obtain ⟨hjun, oj, hoj, hall⟩ := mem_ready.1 hj
      have hnot : ∀ e ∈ oj.after, Region.binds md e = true → e.on ≠ i := fun e he hb heq => by
        have h1 := hall e he hb
        have h0 := (mem_ready.1 hr).1
        rw [heq] at h1
        rcases Nat.lt_or_ge i listed.size with h' | h'
        · simp [h'] at h0 h1; rw [h0] at h1; cases h1
        · simp [Array.getElem?_eq_none h'] at h1
      have hsame : ((listed.setIfInBounds i true).setIfInBounds j true).getD k true = (listed.setIfInBounds j true).getD k true := by rw [Array.setIfInBounds_comm _ _ (Ne.symm hji), getD_set_ne true (Ne.symm hki)]
      have h2 := wpOp_putIf hoj (hfree j oj hoj hji hjun hnot) (fun cs b => hsel i oi cs b hi) (fun cs b => hsel j oj cs b hoj) hQ hy h1
      have hfree' : ∀ k ok, ops[k]? = some ok → k ≠ i → (listed.setIfInBounds j true).getD k true = false →
          (∀ e ∈ ok.after, Region.binds md e = true → e.on ≠ i) → oi.apart ops ok = true := fun k ok hk hki hun hno => by
        refine hfree k ok hk hki ?_ hno
        by_cases hjk : j = k
        · subst hjk; exact hjun
        · rw [getD_set_ne true hjk] at hun; exact hun
      refine wpOp_mono (fun a' w' h3 => ⟨⟨h3.2.1.1, fun h => h3.2.1.2 (hsame.trans h)⟩, ih (listed.setIfInBounds j true) a' w' hfree' (ready_mono hr (Ne.symm hji)) h3.1 ⟨h3.2.1.1, fun h => h3.2.1.2 (hsame.trans h)⟩ ?_⟩) h2
      rw [Array.setIfInBounds_comm _ _ hji]
      exact h3.2.2
theorem tkS {i d : Nat} {oi : Oper} {v : Value} {fuel : Nat} {listed : Array Bool} {a : Act} {w : World} (hi : ops[i]? = some oi) (hd : oi.dst = some d)
    (hs : Region.noSelect ops = true) (hf : Region.free md ops listed i = true) (hr : (Region.ready md ops listed).contains i = true) (hki : (k == i) = false)
    (hQ : ∀ c a w, Q (.panic c) (a.put oi.dst v) w → Q (.panic c) a w) (hy : Region.wanted oi (yielded ops a.tmps) = true) (hv : ∀ w, S w → (execOp a.eval oi).run P w = .ok (.value v) w) (hS : S w ∧ T w)
    (h : wpAnyL P md ops Q S T k fuel (listed.setIfInBounds i true) (a.put (some d) v) w) : wpAnyL P md ops Q S T k (fuel + 1) listed a w :=
  firstS hi (fun e => by subst e; simp at hki) (Region.noSelect_spec hs) hQ fuel listed a w (Region.free_spec hi hf) (by simpa using hr) (.inl ⟨hy, hv⟩) ⟨hS.1, fun _ => hS.2⟩ (by rw [hd]; exact h)
/-- Each of the operations rs comes up next. -/
def AllReadyL (P : Program) (md : Region.Mode) (ops : Array Oper) (Q : Exit → Act → World → Prop) (S T : World → Prop) (k : Nat) (fuel : Nat) (listed : Array Bool) (a : Act) (w : World) (rs : List Nat) : Prop :=
  ∀ i ∈ rs, wpOp P ops Q i (fun a' w' => (S w' ∧ ((listed.setIfInBounds i true).getD k true = false → T w')) ∧ wpAnyL P md ops Q S T k fuel (listed.setIfInBounds i true) a' w') a w
theorem AllReadyL.nil {fuel : Nat} {listed : Array Bool} {a : Act} {w : World} : AllReadyL P md ops Q S T k fuel listed a w [] := fun _ h => by cases h
theorem AllReadyL.cons {fuel : Nat} {listed : Array Bool} {a : Act} {w : World} {i : Nat} {o : Oper} {rs : List Nat} (ho : ops[i]? = some o) (hik : (i == k) = false)
    (h : ∀ K' : Act → World → Prop, Shut (∀ a w, S w ∧ T w → (S w ∧ T w → wpAnyL P md ops Q S T k fuel (listed.setIfInBounds i true) a w) → K' a w) → if Region.wanted o (yielded ops a.tmps) = true then Oper.wp P o a w K' Q else K' (a.put o.dst undef) w)
    (hs : AllReadyL P md ops Q S T k fuel listed a w rs) : AllReadyL P md ops Q S T k fuel listed a w (i :: rs) := fun j hj => by
  rcases List.mem_cons.1 hj with rfl | hj
  · exact wpOp_step ho (fun K' hK => h K' (fun a w hS hW => hK a w ⟨⟨hS.1, fun _ => hS.2⟩, hW hS⟩))
  · exact hs j hj
theorem AllReadyL.last {fuel : Nat} {listed : Array Bool} {a : Act} {w : World} {o : Oper} (ho : ops[k]? = some o) (hlk : (listed.setIfInBounds k true).getD k true = true)
    (h : ∀ K' : Act → World → Prop, Shut (∀ a w, S w → (S w → wpAnyL P md ops Q S T k fuel (listed.setIfInBounds k true) a w) → K' a w) → if Region.wanted o (yielded ops a.tmps) = true then Oper.wp P o a w K' Q else K' (a.put o.dst undef) w) :
    AllReadyL P md ops Q S T k fuel listed a w [k] := fun j hj => by
  rcases List.mem_cons.1 hj with rfl | hj
  · exact wpOp_step ho (fun K' hK => h K' (fun a w hS hW => hK a w ⟨⟨hS, fun e => by rw [hlk] at e; cases e⟩, hW hS⟩))
  · cases hj
theorem ready {rs : List Nat} {fuel : Nat} {listed : Array Bool} {a : Act} {w : World} (hr : Region.ready md ops listed = rs) (hne : rs ≠ [])
    (h : AllReadyL P md ops Q S T k fuel listed a w rs) : wpAnyL P md ops Q S T k (fuel + 1) listed a w :=
  ⟨fun h0 => absurd (hr ▸ h0) hne, hr ▸ h⟩
theorem done {listed : Array Bool} {a : Act} {w : World} (hr : Region.ready md ops listed = []) (h : Q .normal a w) : ∀ fuel, wpAnyL P md ops Q S T k fuel listed a w
  | 0 => ⟨hr, h⟩
  | _ + 1 => ⟨fun _ => h, by rw [hr]; simp⟩
/-- The beginning. -/
theorem drew {id : Nat} {a : Act} {w : World} (k : Nat) (hm : P.follows .mixedOrders = true) (hS : S w.drew ∧ T w.drew)
    (h : S w.drew ∧ T w.drew → wpAnyL P .any ops Q S T k ops.size (Array.replicate ops.size false) a w.drew) : (Code.region id ops true).wp P Q a w :=
  wp_region_any hm (wpAny_of _ _ _ _ (h hS))
end Rl
end Go.Proofs.YthfcigfgpimimaaGreat
namespace Go.Proofs.YthfcigfgpimimaaGreat
open Go.ChangeShapes Go.WideShapes Go.ChangeAt Go.RowKit
set_option linter.unusedVariables false
set_option linter.unusedSimpArgs false
set_option maxRecDepth 100000
attribute [local go_sem ↓] Go.wp_at_zero Go.wp_at_succ
namespace Rt
open W1
/-- A core's cells: five numbers, seven lists, a number. -/
def cC (x1 x2 x3 x4 x5 : Int) (v1 v2 v3 v4 v5 v6 v7 : Value) (x6 : Int) (v8 : Value) : List Value := [.int .i64 x1, .int .i64 x2, .int .i64 x3, .int .i64 x4, .int .i64 x5, v1, v2, v3, v4, v5, v6, v7, .int .i64 x6, v8]
def ones14 (cs : List Value) : Prop := cs.length = 14 ∧ ∀ v ∈ cs, v.oneCell' = true
theorem cC_ones {x1 x2 x3 x4 x5 : Int} {v1 v2 v3 v4 v5 v6 v7 : Value} {x6 : Int} {v8 : Value} (h1 : v1.oneCell' = true) (h2 : v2.oneCell' = true) (h3 : v3.oneCell' = true) (h4 : v4.oneCell' = true) (h5 : v5.oneCell' = true) (h6 : v6.oneCell' = true) (h7 : v7.oneCell' = true) (h8 : v8.oneCell' = true) : ones14 (cC x1 x2 x3 x4 x5 v1 v2 v3 v4 v5 v6 v7 x6 v8) := by
  refine ⟨rfl, ?_⟩
  intro v hv
  unfold cC at hv
  simp only [List.mem_cons, List.not_mem_nil, or_false] at hv
  rcases hv with rfl | rfl | rfl | rfl | rfl | rfl | rfl | rfl | rfl | rfl | rfl | rfl | rfl | rfl <;> first | rfl | assumption
def CA (w : World) (b : Nat) (cs : List Value) : Prop := w.rangeAt b 0 cs ∧ w.there b 0 14 ∧ cs.length = 14
theorem CA.at {w : World} {b : Nat} {cs : List Value} (h : CA w b cs) {i : Nat} {v : Value} (hi : cs[i]? = some v) : w.cell? ⟨b, i, none⟩ = some v := by
  have := h.1 i v hi; rwa [Nat.zero_add] at this
theorem CA.lt {w : World} {b : Nat} {cs : List Value} (h : CA w b cs) : b < w.heap.size := by
  obtain ⟨u, hu⟩ := Option.isSome_iff_exists.1 (h.2.1 0 (by omega)).1
  exact World.block_lt_of_cell? _ _ hu
theorem CA.free {w : World} {b : Nat} {cs : List Value} (h : CA w b cs) {i : Nat} (hi : i < 14) : w.frozen? ⟨b, i, none⟩ = false := by
  have := (h.2.1 i hi).2; rwa [Nat.zero_add] at this
theorem CA.under {w w' : World} {B b : Nat} {cs : List Value} (h : CA w b cs) (hb : Below B w w') (hg : b < B) : CA w' b cs :=
  ⟨fun j v hv => (hb.cell (p := ⟨b, 0 + j, none⟩) hg).trans (h.1 j v hv), fun j hj => ⟨by rw [hb.cell (p := ⟨b, 0 + j, none⟩) hg]; exact (h.2.1 j hj).1, by rw [hb.frozen (p := ⟨b, 0 + j, none⟩) hg]; exact (h.2.1 j hj).2⟩, h.2.2⟩
theorem CA.below {w w' : World} {b : Nat} {cs : List Value} (h : CA w b cs) (hb : Below w.heap.size w w') : CA w' b cs := h.under hb h.lt
theorem CA.drew {w : World} {b : Nat} {cs : List Value} (h : CA w b cs) : CA w.drew b cs := h
theorem CA.set {w : World} {b : Nat} {cs : List Value} (h : CA w b cs) {k : Nat} (hk : k < 14) (v : Value) : CA (w.setCell ⟨b, k, none⟩ v) b (cs.set k v) := ⟨range_set h.1 (by rw [h.2.2]; exact hk), there_set h.2.1, by rw [List.length_set]; exact h.2.2⟩
theorem infoC : Tryz.prog.underlying 122 = some (Tryz.prog.underlying 122).get! ∧ ((Tryz.prog.underlying 122).get!).isRow = true ∧ (Tryz.prog.info? 122).map (·.size) = some 14 := ⟨by kernel_rfl, by kernel_rfl, by kernel_rfl⟩
/-- The same, with all other blocks as they were. -/
theorem wpList_storeC2 {ops : Array Oper} {rest : List Oper} {op : Oper} {a : Act} {w : World} {Q : Exit → Act → World → Prop} (x y : Operand) (hgd : op.guard = none) (ho : op.op = .store 122 x y) {b : Nat} (cs : List Value) (h14 : ones14 cs) (hx : a.eval x = .pointer (some ⟨b, 0, none⟩)) (hy : a.eval y = .agg cs.toArray) (ht : w.there b 0 14)
    (hk : ∀ w', CA w' b cs → (∀ B w0, Below B w0 w → B ≤ b → Below B w0 w') → w'.heap.size = w.heap.size → (∀ k, k ≠ b → w'.heap[k]? = w.heap[k]?) → wpList Tryz.prog ops Q rest (a.put op.dst undef) w') : wpList Tryz.prog ops Q (op :: rest) a w := by
  have ht' : w.there b 0 cs.length := h14.1.symm ▸ ht
  exact wpList_store_mid hgd 122 x y ho b 0 cs.toArray hx hy (by simpa using ht') (by simpa [h14.1] using infoC.2.2) (all_oneCell_toArray h14.2) (hk _ ⟨World.rangeAt_setCells_same w b 0 _ ht', there_cells _ _ _ ht, h14.1⟩ (fun B w0 h hb => below_cells hb _ _ _ h) (size_cells _ _ _) (fun k hk => heap_cells hk _ _ _))
/-- A core handed back, alone or with a number. -/
theorem resultsC {fn : Func} {p : Tmp} (h : fn.results = #[.cell p 122]) (tmps : Array Value) (w : World) {b : Nat} {cs : List Value} (hp : tmps.getD p undef = .pointer (some ⟨b, 0, none⟩)) (hg : CA w b cs) : (results fn tmps).run Tryz.prog w = .ok (.agg cs.toArray) w := by
  have hp' : tmps[p]?.getD undef = .pointer (some ⟨b, 0, none⟩) := by simpa using hp
  simp only [results, h]
  simp [Sem.run_bind, hp', asAddr, run_loadVar_mid w b 0 122 cs _ hg.1 infoC.1 infoC.2.1 (hg.2.2 ▸ infoC.2.2), Result.andThen]
theorem ca_new (w : World) (cs : List Value) (h14 : cs.length = 14) (t : Nat) : CA (w.alloc (.cells cs.toArray t)) w.heap.size cs := by
  have hb : (w.alloc (.cells cs.toArray t)).heap[w.heap.size]? = some (.cells cs.toArray t) := heap_alloc_last w _
  refine ⟨fun j v hv => ?_, fun j hj => ⟨?_, ?_⟩, h14⟩
  · rw [Nat.zero_add]
    unfold World.cell?
    simp only [hb]
    simpa using hv
  · rw [Nat.zero_add]
    unfold World.cell?
    simp only [hb]
    simp [h14, hj]
  · unfold World.frozen?
    simp only [hb]
    simp
theorem CA.other {w : World} {b : Nat} {cs : List Value} (h : CA w b cs) {p : Addr} (hne : b ≠ p.block) (v : Value) : CA (w.setCell p v) b cs := by
  have hb : (w.setCell p v).heap[b]? = w.heap[b]? := Below.heap_setCell _ _ _ _ hne
  refine ⟨fun j u hu => ?_, fun j hj => ⟨?_, ?_⟩, h.2.2⟩
  · exact (World.cell?_of_block (a := ⟨b, 0 + j, none⟩) hb).trans (h.1 j u hu)
  · rw [World.cell?_of_block (a := ⟨b, 0 + j, none⟩) hb]; exact (h.2.1 j hj).1
  · rw [World.frozen?_setCell]; exact (h.2.1 j hj).2
theorem copyE (g off : Nat) (ms : List Ed.R) (cap n : Nat) (w : World) (hn : ms.length = n) (hm : ms.length ≤ 4096) (hr : Ed.RM w (some ⟨g, off, none⟩) ms) :
    Calls Tryz.prog 113 #[.slice (some ⟨g, off, none⟩) n cap] w fun e w' => ∃ v, e = .returned v ∧ Below w.heap.size w w' ∧ Ed.LstV w' v ms w.heap.size w'.heap.size := by
  have HR := hide hr
  have O0 := hide (Ed.own_nil w w.heap.size)
  clear hr
  go_enter Tryz.func113, Tryz.ntmps113
  go_wp2_with (at_builtin; refine Ed.wpList_apS (unhide O0) g off n cap ms hn (unhide HR) (by simp; omega) (by simp) rfl _ _ rfl rfl rfl ?_; intro v' w' ho hg; have HL := hide (Ed.lst_own rfl ho); have HB := hide (Ed.below_own (Below.refl _ _) (unhide O0) hg (Nat.le_refl _) (Nat.le_refl _)); clear ho hg)
  go_ret
  exact ⟨_, rfl, unhide HB, unhide HL⟩
theorem copyL (g off : Nat) (ms : List Lk.R) (cap n : Nat) (w : World) (hn : ms.length = n) (hm : ms.length ≤ 4096) (hr : Lk.RM w (some ⟨g, off, none⟩) ms) :
    Calls Tryz.prog 110 #[.slice (some ⟨g, off, none⟩) n cap] w fun e w' => ∃ v, e = .returned v ∧ Below w.heap.size w w' ∧ Lk.LstV w' v ms w.heap.size w'.heap.size := by
  have HR := hide hr
  have O0 := hide (Lk.own_nil w w.heap.size)
  clear hr
  go_enter Tryz.func110, Tryz.ntmps110
  go_wp2_with (at_builtin; refine Lk.wpList_apS (unhide O0) g off n cap ms hn (unhide HR) (by simp; omega) (by simp) rfl _ _ rfl rfl rfl ?_; intro v' w' ho hg; have HL := hide (Lk.lst_own rfl ho); have HB := hide (Lk.below_own (Below.refl _ _) (unhide O0) hg (Nat.le_refl _) (Nat.le_refl _)); clear ho hg)
  go_ret
  exact ⟨_, rfl, unhide HB, unhide HL⟩
end Rt
end Go.Proofs.YthfcigfgpimimaaGreat
namespace Go.Proofs.YthfcigfgpimimaaGreat
open Go.ChangeShapes Go.WideShapes Go.ChangeAt Go.RowKit
set_option linter.unusedVariables false
set_option linter.unusedSimpArgs false
set_option maxRecDepth 100000
attribute [local go_sem ↓] Go.wp_at_zero Go.wp_at_succ
namespace Rt
open W1
theorem gb_reflC (w : World) (r : Option Nat) : w.grownBy w r := ⟨rfl, rfl, rfl, Nat.le_refl _, fun _ _ _ => rfl⟩
theorem run_append_none {P : Program} {w : World} (base : Nat) (t ty e : TypeId) (i : TypeInfo) (size : Nat) (ht : P.underlying t = some (.slice e)) (hi : P.info? e = some i)
    (v : Value) (n : Nat) (xs : List Value) (hown : w.ownsRow base e size v n xs) (a : Option Addr) (c : Nat) :
    (Builtin.append_ #[t, t] ty #[v, .slice a 0 c]).run P w = .ok v w := by
  have h0 : ∀ (x : Addr), (loadCells x 0).run P w = .ok #[] w := fun x => run_loadCells_list (P := P) w x [] (fun j v hv => by simp at hv)
  rcases hown.2 with ⟨rfl, rfl⟩ | ⟨g, cap, cur, rfl, _, _, hnc, _⟩
  · cases a <;> simp [Builtin.append_, run_underlying ht, sizeOf, typeInfo, hi, Builtin.lenOf, Builtin.firstCells, h0, Result.andThen]
  · cases a <;> simp [Builtin.append_, run_underlying ht, sizeOf, typeInfo, hi, Builtin.lenOf, Builtin.firstCells, hnc, storeCells, h0, Result.andThen]
/-- append of nothing, wherever it lies. -/
theorem wpList_append_none {P : Program} {w : World} {ops : Array Oper} {rest : List Oper} {o : Oper} {a : Act} {Q : Exit → Act → World → Prop} (hgd : o.guard = none) (s x : Operand) (t : TypeId)
    (ho : o.op = .call { callee := .builtin .append, args := #[s, x], argTypes := #[t, t] })
    (base : Nat) (e : TypeId) (i : TypeInfo) (size : Nat) (ht : P.underlying t = some (.slice e)) (hi : P.info? e = some i)
    (v : Value) (n : Nat) (xs : List Value) (hs : a.eval s = v) (hown : w.ownsRow base e size v n xs) (b : Option Addr) (c : Nat) (hx : a.eval x = .slice b 0 c)
    (h : wpList P ops Q rest (a.put o.dst v) w) : wpList P ops Q (o :: rest) a w := by
  refine wpList_plain hgd fun K hK => ?_
  have hrun := run_append_none (P := P) (w := w) base t o.type e i size ht hi v n xs hown b c
  unfold Oper.wp
  simp [execOp, ho, resolve, invoke, builtin, hs, hx, hrun, Result.andThen]
  exact hK _ _ h
theorem copyLO (a : Option Addr) (ms : List Lk.R) (cap : Nat) (w : World) (hm : ms.length ≤ 4096) (hr : Lk.RM w a ms) :
    Calls Tryz.prog 110 #[.slice a ms.length cap] w fun e w' => ∃ v, e = .returned v ∧ Below w.heap.size w w' ∧ Lk.LstV w' v ms w.heap.size w'.heap.size := by
  by_cases h0 : 0 < ms.length
  · obtain ⟨g, off, rfl⟩ := hr.form h0
    exact copyL g off ms cap _ w rfl hm hr
  · have hms : ms = [] := List.length_eq_zero_iff.1 (by omega)
    subst hms
    clear h0 hr hm
    have O0 := hide (Lk.own_nil w w.heap.size)
    obtain ⟨i0, hi, _⟩ := Lk.infoR
    go_enter Tryz.func110, Tryz.ntmps110
    go_wp2_with (at_builtin; refine wpList_append_none rfl _ _ _ rfl w.heap.size 103 i0 6 Tryz.underlying73 hi _ _ _ rfl (unhide O0) _ _ rfl ?_)
    go_ret
    exact ⟨_, rfl, Below.refl _ _, Lk.lstV_nil _ _ _ _ _⟩
theorem copyTO (a : Option Addr) (ms : List Tu.R) (cap : Nat) (w : World) (hm : ms.length ≤ 4096) (hr : Tu.RM w a ms) :
    Calls Tryz.prog 111 #[.slice a ms.length cap] w fun e w' => ∃ v, e = .returned v ∧ Below w.heap.size w w' ∧ Tu.LstV w' v ms w.heap.size w'.heap.size := by
  by_cases h0 : 0 < ms.length
  · obtain ⟨g, off, rfl⟩ := hr.form h0
    exact St.copied g off ms cap _ w rfl hm hr
  · have hms : ms = [] := List.length_eq_zero_iff.1 (by omega)
    subst hms
    clear h0 hr hm
    have O0 := hide (Tu.own_nil w w.heap.size)
    obtain ⟨i0, hi, _⟩ := Tu.infoR
    go_enter Tryz.func111, Tryz.ntmps111
    go_wp2_with (at_builtin; refine wpList_append_none rfl _ _ _ rfl w.heap.size 111 i0 3 Tryz.underlying74 hi _ _ _ rfl (unhide O0) _ _ rfl ?_)
    go_ret
    exact ⟨_, rfl, Below.refl _ _, Tu.lstV_nil _ _ _ _ _⟩
theorem copySO (a : Option Addr) (ms : List So.R) (cap : Nat) (w : World) (hm : ms.length ≤ 4096) (hr : So.RM w a ms) :
    Calls Tryz.prog 112 #[.slice a ms.length cap] w fun e w' => ∃ v, e = .returned v ∧ Below w.heap.size w w' ∧ So.LstV w' v ms w.heap.size w'.heap.size := by
  by_cases h0 : 0 < ms.length
  · obtain ⟨g, off, rfl⟩ := hr.form h0
    exact Tp.copied g off ms cap _ w rfl hm hr
  · have hms : ms = [] := List.length_eq_zero_iff.1 (by omega)
    subst hms
    clear h0 hr hm
    have O0 := hide (So.own_nil w w.heap.size)
    obtain ⟨i0, hi, _⟩ := So.infoR
    go_enter Tryz.func112, Tryz.ntmps112
    go_wp2_with (at_builtin; refine wpList_append_none rfl _ _ _ rfl w.heap.size 107 i0 3 Tryz.underlying75 hi _ _ _ rfl (unhide O0) _ _ rfl ?_)
    go_ret
    exact ⟨_, rfl, Below.refl _ _, So.lstV_nil _ _ _ _ _⟩
theorem copyEO (a : Option Addr) (ms : List Ed.R) (cap : Nat) (w : World) (hm : ms.length ≤ 4096) (hr : Ed.RM w a ms) :
    Calls Tryz.prog 113 #[.slice a ms.length cap] w fun e w' => ∃ v, e = .returned v ∧ Below w.heap.size w w' ∧ Ed.LstV w' v ms w.heap.size w'.heap.size := by
  by_cases h0 : 0 < ms.length
  · obtain ⟨g, off, rfl⟩ := hr.form h0
    exact copyE g off ms cap _ w rfl hm hr
  · have hms : ms = [] := List.length_eq_zero_iff.1 (by omega)
    subst hms
    clear h0 hr hm
    have O0 := hide (Ed.own_nil w w.heap.size)
    obtain ⟨i0, hi, _⟩ := Ed.infoR
    go_enter Tryz.func113, Tryz.ntmps113
    go_wp2_with (at_builtin; refine wpList_append_none rfl _ _ _ rfl w.heap.size 130 i0 2 Tryz.underlying78 hi _ _ _ rfl (unhide O0) _ _ rfl ?_)
    go_ret
    exact ⟨_, rfl, Below.refl _ _, Ed.lstV_nil _ _ _ _ _⟩
set_option maxHeartbeats 16000000 in
theorem coreOfO (x1 x2 x3 x4 x5 x6 : Int) (h1 h2 h3 h4 h5 h6 h7 : Option Addr) (c1 c2 c3 c4 c5 c6 c7 : Nat) (ls : List Lk.R) (tw : List Tu.R) (se : List Tu.R) (du : List Tu.R) (ss : List So.R) (es : List Tu.R) (la : List Ed.R) (w : World) (hm1 : ls.length ≤ 4096) (hm2 : tw.length ≤ 4096) (hm3 : se.length ≤ 4096) (hm4 : du.length ≤ 4096) (hm5 : ss.length ≤ 4096) (hm6 : es.length ≤ 4096) (hm7 : la.length ≤ 4096) (hr1 : Lk.RM w h1 ls) (hr2 : Tu.RM w h2 tw) (hr3 : Tu.RM w h3 se) (hr4 : Tu.RM w h4 du) (hr5 : So.RM w h5 ss) (hr6 : Tu.RM w h6 es) (hr7 : Ed.RM w h7 la) :
    Calls Tryz.prog 84 #[.agg #[.int .i64 x1, .int .i64 x2, .int .i64 x3, .int .i64 x4, .int .i64 x5, .slice h1 ls.length c1, .slice h2 tw.length c2, .slice h3 se.length c3, .slice h4 du.length c4, .slice h5 ss.length c5, .slice h6 es.length c6, .slice h7 la.length c7, .int .i64 x6]] w fun e w' => ∃ a1 a2 a3 a4 a5 a6 a7 d1 d2 d3 d4 d5 d6 d7, e = .returned (.agg (cC x1 x2 x3 x4 x5 (.slice a1 ls.length d1) (.slice a2 tw.length d2) (.slice a3 se.length d3) (.slice a4 du.length d4) (.slice a5 ss.length d5) (.slice a6 es.length d6) (.slice a7 la.length d7) x6 (.slice none 0 0)).toArray) ∧ Below w.heap.size w w' ∧ RL w' w.heap.size w'.heap.size a1 a2 a3 a4 a5 a6 a7 ls tw se du ss es la := by
  have HA1 : Hid (Below w.heap.size w (w.alloc (.cells #[.int .i64 x1, .int .i64 x2, .int .i64 x3, .int .i64 x4, .int .i64 x5, .slice h1 ls.length c1, .slice h2 tw.length c2, .slice h3 se.length c3, .slice h4 du.length c4, .slice h5 ss.length c5, .slice h6 es.length c6, .slice h7 la.length c7, .int .i64 x6] 80))) := hide ((Below.refl _ _).alloc (Nat.le_refl _) _)
  have HB0 : Hid (Below w.heap.size w ((w.alloc (.cells #[.int .i64 x1, .int .i64 x2, .int .i64 x3, .int .i64 x4, .int .i64 x5, .slice h1 ls.length c1, .slice h2 tw.length c2, .slice h3 se.length c3, .slice h4 du.length c4, .slice h5 ss.length c5, .slice h6 es.length c6, .slice h7 la.length c7, .int .i64 x6] 80)).alloc (.cells #[.int .i64 0, .int .i64 0, .int .i64 0, .int .i64 0, .int .i64 0, .slice none 0 0, .slice none 0 0, .slice none 0 0, .slice none 0 0, .slice none 0 0, .slice none 0 0, .slice none 0 0, .int .i64 0, .slice none 0 0] 122))) := hide ((unhide HA1).alloc (unhide HA1).size _)
  have HX0 : Hid (RA ((w.alloc (.cells #[.int .i64 x1, .int .i64 x2, .int .i64 x3, .int .i64 x4, .int .i64 x5, .slice h1 ls.length c1, .slice h2 tw.length c2, .slice h3 se.length c3, .slice h4 du.length c4, .slice h5 ss.length c5, .slice h6 es.length c6, .slice h7 la.length c7, .int .i64 x6] 80)).alloc (.cells #[.int .i64 0, .int .i64 0, .int .i64 0, .int .i64 0, .int .i64 0, .slice none 0 0, .slice none 0 0, .slice none 0 0, .slice none 0 0, .slice none 0 0, .slice none 0 0, .slice none 0 0, .int .i64 0, .slice none 0 0] 122)) w.heap.size (rC x1 x2 x3 x4 x5 (.slice h1 ls.length c1) (.slice h2 tw.length c2) (.slice h3 se.length c3) (.slice h4 du.length c4) (.slice h5 ss.length c5) (.slice h6 es.length c6) (.slice h7 la.length c7) x6)) := hide ((ra_new w _ rfl _).below ((Below.refl _ _).alloc (Nat.le_refl _) _))
  have HZ0 : Hid (CA ((w.alloc (.cells #[.int .i64 x1, .int .i64 x2, .int .i64 x3, .int .i64 x4, .int .i64 x5, .slice h1 ls.length c1, .slice h2 tw.length c2, .slice h3 se.length c3, .slice h4 du.length c4, .slice h5 ss.length c5, .slice h6 es.length c6, .slice h7 la.length c7, .int .i64 x6] 80)).alloc (.cells #[.int .i64 0, .int .i64 0, .int .i64 0, .int .i64 0, .int .i64 0, .slice none 0 0, .slice none 0 0, .slice none 0 0, .slice none 0 0, .slice none 0 0, .slice none 0 0, .slice none 0 0, .int .i64 0, .slice none 0 0] 122)) (w.heap.size + 1) (cC 0 0 0 0 0 (.slice none 0 0) (.slice none 0 0) (.slice none 0 0) (.slice none 0 0) (.slice none 0 0) (.slice none 0 0) (.slice none 0 0) 0 (.slice none 0 0))) := hide (by have := ca_new (w.alloc (.cells #[.int .i64 x1, .int .i64 x2, .int .i64 x3, .int .i64 x4, .int .i64 x5, .slice h1 ls.length c1, .slice h2 tw.length c2, .slice h3 se.length c3, .slice h4 du.length c4, .slice h5 ss.length c5, .slice h6 es.length c6, .slice h7 la.length c7, .int .i64 x6] 80)) (cC 0 0 0 0 0 (.slice none 0 0) (.slice none 0 0) (.slice none 0 0) (.slice none 0 0) (.slice none 0 0) (.slice none 0 0) (.slice none 0 0) 0 (.slice none 0 0)) rfl 122; rw [show (w.alloc (.cells #[.int .i64 x1, .int .i64 x2, .int .i64 x3, .int .i64 x4, .int .i64 x5, .slice h1 ls.length c1, .slice h2 tw.length c2, .slice h3 se.length c3, .slice h4 du.length c4, .slice h5 ss.length c5, .slice h6 es.length c6, .slice h7 la.length c7, .int .i64 x6] 80)).heap.size = w.heap.size + 1 by simp] at this; exact this)
  have hq0 : (((w.alloc (.cells #[.int .i64 x1, .int .i64 x2, .int .i64 x3, .int .i64 x4, .int .i64 x5, .slice h1 ls.length c1, .slice h2 tw.length c2, .slice h3 se.length c3, .slice h4 du.length c4, .slice h5 ss.length c5, .slice h6 es.length c6, .slice h7 la.length c7, .int .i64 x6] 80)).alloc (.cells #[.int .i64 0, .int .i64 0, .int .i64 0, .int .i64 0, .int .i64 0, .slice none 0 0, .slice none 0 0, .slice none 0 0, .slice none 0 0, .slice none 0 0, .slice none 0 0, .slice none 0 0, .int .i64 0, .slice none 0 0] 122))).heap.size = w.heap.size + 2 := by simp
  have HR1 := hide hr1
  have HR2 := hide hr2
  have HR3 := hide hr3
  have HR4 := hide hr4
  have HR5 := hide hr5
  have HR6 := hide hr6
  have HR7 := hide hr7
  clear hr1 hr2 hr3 hr4 hr5 hr6 hr7 HA1
  go_enter Tryz.func84, Tryz.ntmps84
  go_wp2_with fail
  generalize hW : ((w.alloc (.cells #[.int .i64 x1, .int .i64 x2, .int .i64 x3, .int .i64 x4, .int .i64 x5, .slice h1 ls.length c1, .slice h2 tw.length c2, .slice h3 se.length c3, .slice h4 du.length c4, .slice h5 ss.length c5, .slice h6 es.length c6, .slice h7 la.length c7, .int .i64 x6] 80)).alloc (.cells #[.int .i64 0, .int .i64 0, .int .i64 0, .int .i64 0, .int .i64 0, .slice none 0 0, .slice none 0 0, .slice none 0 0, .slice none 0 0, .slice none 0 0, .slice none 0 0, .slice none 0 0, .int .i64 0, .slice none 0 0] 122)) = V0 at *
  clear hW
  refine (copyLO h1 ls c1 _ hm1 ((unhide HR1).below (unhide HB0))).mono ?_
  rintro e V1 ⟨v1, rfl, b1, l1⟩
  obtain ⟨a1, d1, rfl, L1⟩ := l1
  have HB1 := hide ((unhide HB0).trans (b1.mono (unhide HB0).size))
  have HX1 := hide ((unhide HX0).below b1)
  have HZ1 := hide ((unhide HZ0).below b1)
  have hq1 := b1.size
  clear HX0 HZ0 
  have U1_1 := hide L1
  clear L1 b1
  obtain ⟨V2, hV2⟩ : ∃ V, (V1.setCell ⟨w.heap.size, 5, none⟩ (.slice a1 ls.length d1)) = V := ⟨_, rfl⟩
  have HB2 : Hid (Below w.heap.size w V2) := hide (by rw [← hV2]; exact ((unhide HB1).setCell (p := ⟨w.heap.size, 5, none⟩) (Nat.le_refl _) (.slice a1 ls.length d1)))
  have HX2 : Hid (RA V2 w.heap.size (rC x1 x2 x3 x4 x5 (.slice a1 ls.length d1) (.slice h2 tw.length c2) (.slice h3 se.length c3) (.slice h4 du.length c4) (.slice h5 ss.length c5) (.slice h6 es.length c6) (.slice h7 la.length c7) x6)) := hide (by rw [← hV2]; exact (RA.set (unhide HX1) (k := 5) (by omega) (.slice a1 ls.length d1)))
  have HZ2 : Hid (CA V2 (w.heap.size + 1) (cC 0 0 0 0 0 (.slice none 0 0) (.slice none 0 0) (.slice none 0 0) (.slice none 0 0) (.slice none 0 0) (.slice none 0 0) (.slice none 0 0) 0 (.slice none 0 0))) := hide (by rw [← hV2]; exact (CA.other (unhide HZ1) (p := ⟨w.heap.size, 5, none⟩) (by show w.heap.size + 1 ≠ w.heap.size; omega) (.slice a1 ls.length d1)))
  have hq2 : V2.heap.size = V1.heap.size := by rw [← hV2]; simp [World.setCell]
  have hk2 : ∀ k, k < V1.heap.size → k ≠ w.heap.size → V2.heap[k]? = V1.heap[k]? := fun k _ h => by rw [← hV2]; exact (Below.heap_setCell _ _ _ _ h)
  have U1_2 := hide ((unhide U1_1).but (p := fun k => k ≠ w.heap.size) (by omega) hk2 (fun k h1 h2 => by omega))
  have HV2 := hide hV2
  clear hV2 hk2
  have o5 := (unhide HX1).at (i := 5) rfl
  have f5 := (unhide HX1).free (i := 5) (by omega)
  have z6 := (unhide HX1).at (i := 6) rfl
  go_wp2_with fail
  rw [unhide HV2]
  clear o5 f5 z6 HX1 HZ1 U1_1
  refine (copyTO h2 tw c2 _ hm2 ((unhide HR2).below (unhide HB2))).mono ?_
  rintro e V3 ⟨v3, rfl, b3, l3⟩
  obtain ⟨a2, d2, rfl, L3⟩ := l3
  have HB3 := hide ((unhide HB2).trans (b3.mono (unhide HB2).size))
  have HX3 := hide ((unhide HX2).below b3)
  have HZ3 := hide ((unhide HZ2).below b3)
  have U1_3 := hide ((unhide U1_2).below b3)
  have hq3 := b3.size
  clear HX2 HZ2 U1_2
  have U2_3 := hide L3
  clear L3 b3
  obtain ⟨V4, hV4⟩ : ∃ V, (V3.setCell ⟨w.heap.size, 6, none⟩ (.slice a2 tw.length d2)) = V := ⟨_, rfl⟩
  have HB4 : Hid (Below w.heap.size w V4) := hide (by rw [← hV4]; exact ((unhide HB3).setCell (p := ⟨w.heap.size, 6, none⟩) (Nat.le_refl _) (.slice a2 tw.length d2)))
  have HX4 : Hid (RA V4 w.heap.size (rC x1 x2 x3 x4 x5 (.slice a1 ls.length d1) (.slice a2 tw.length d2) (.slice h3 se.length c3) (.slice h4 du.length c4) (.slice h5 ss.length c5) (.slice h6 es.length c6) (.slice h7 la.length c7) x6)) := hide (by rw [← hV4]; exact (RA.set (unhide HX3) (k := 6) (by omega) (.slice a2 tw.length d2)))
  have HZ4 : Hid (CA V4 (w.heap.size + 1) (cC 0 0 0 0 0 (.slice none 0 0) (.slice none 0 0) (.slice none 0 0) (.slice none 0 0) (.slice none 0 0) (.slice none 0 0) (.slice none 0 0) 0 (.slice none 0 0))) := hide (by rw [← hV4]; exact (CA.other (unhide HZ3) (p := ⟨w.heap.size, 6, none⟩) (by show w.heap.size + 1 ≠ w.heap.size; omega) (.slice a2 tw.length d2)))
  have hq4 : V4.heap.size = V3.heap.size := by rw [← hV4]; simp [World.setCell]
  have hk4 : ∀ k, k < V3.heap.size → k ≠ w.heap.size → V4.heap[k]? = V3.heap[k]? := fun k _ h => by rw [← hV4]; exact (Below.heap_setCell _ _ _ _ h)
  have U1_4 := hide ((unhide U1_3).but (p := fun k => k ≠ w.heap.size) (by omega) hk4 (fun k h1 h2 => by omega))
  have U2_4 := hide ((unhide U2_3).but (p := fun k => k ≠ w.heap.size) (by omega) hk4 (fun k h1 h2 => by omega))
  have HV4 := hide hV4
  clear hV4 hk4
  have o6 := (unhide HX3).at (i := 6) rfl
  have f6 := (unhide HX3).free (i := 6) (by omega)
  have z7 := (unhide HX3).at (i := 7) rfl
  go_wp2_with fail
  rw [unhide HV4]
  clear o6 f6 z7 HX3 HZ3 U1_3 U2_3
  refine (copyTO h3 se c3 _ hm3 ((unhide HR3).below (unhide HB4))).mono ?_
  rintro e V5 ⟨v5, rfl, b5, l5⟩
  obtain ⟨a3, d3, rfl, L5⟩ := l5
  have HB5 := hide ((unhide HB4).trans (b5.mono (unhide HB4).size))
  have HX5 := hide ((unhide HX4).below b5)
  have HZ5 := hide ((unhide HZ4).below b5)
  have U1_5 := hide ((unhide U1_4).below b5)
  have U2_5 := hide ((unhide U2_4).below b5)
  have hq5 := b5.size
  clear HX4 HZ4 U1_4 U2_4
  have U3_5 := hide L5
  clear L5 b5
  obtain ⟨V6, hV6⟩ : ∃ V, (V5.setCell ⟨w.heap.size, 7, none⟩ (.slice a3 se.length d3)) = V := ⟨_, rfl⟩
  have HB6 : Hid (Below w.heap.size w V6) := hide (by rw [← hV6]; exact ((unhide HB5).setCell (p := ⟨w.heap.size, 7, none⟩) (Nat.le_refl _) (.slice a3 se.length d3)))
  have HX6 : Hid (RA V6 w.heap.size (rC x1 x2 x3 x4 x5 (.slice a1 ls.length d1) (.slice a2 tw.length d2) (.slice a3 se.length d3) (.slice h4 du.length c4) (.slice h5 ss.length c5) (.slice h6 es.length c6) (.slice h7 la.length c7) x6)) := hide (by rw [← hV6]; exact (RA.set (unhide HX5) (k := 7) (by omega) (.slice a3 se.length d3)))
  have HZ6 : Hid (CA V6 (w.heap.size + 1) (cC 0 0 0 0 0 (.slice none 0 0) (.slice none 0 0) (.slice none 0 0) (.slice none 0 0) (.slice none 0 0) (.slice none 0 0) (.slice none 0 0) 0 (.slice none 0 0))) := hide (by rw [← hV6]; exact (CA.other (unhide HZ5) (p := ⟨w.heap.size, 7, none⟩) (by show w.heap.size + 1 ≠ w.heap.size; omega) (.slice a3 se.length d3)))
  have hq6 : V6.heap.size = V5.heap.size := by rw [← hV6]; simp [World.setCell]
  have hk6 : ∀ k, k < V5.heap.size → k ≠ w.heap.size → V6.heap[k]? = V5.heap[k]? := fun k _ h => by rw [← hV6]; exact (Below.heap_setCell _ _ _ _ h)
  have U1_6 := hide ((unhide U1_5).but (p := fun k => k ≠ w.heap.size) (by omega) hk6 (fun k h1 h2 => by omega))
  have U2_6 := hide ((unhide U2_5).but (p := fun k => k ≠ w.heap.size) (by omega) hk6 (fun k h1 h2 => by omega))
  have U3_6 := hide ((unhide U3_5).but (p := fun k => k ≠ w.heap.size) (by omega) hk6 (fun k h1 h2 => by omega))
  have HV6 := hide hV6
  clear hV6 hk6
  have o7 := (unhide HX5).at (i := 7) rfl
  have f7 := (unhide HX5).free (i := 7) (by omega)
  have z8 := (unhide HX5).at (i := 8) rfl
  go_wp2_with fail
  rw [unhide HV6]
  clear o7 f7 z8 HX5 HZ5 U1_5 U2_5 U3_5
  refine (copyTO h4 du c4 _ hm4 ((unhide HR4).below (unhide HB6))).mono ?_
  rintro e V7 ⟨v7, rfl, b7, l7⟩
  obtain ⟨a4, d4, rfl, L7⟩ := l7
  have HB7 := hide ((unhide HB6).trans (b7.mono (unhide HB6).size))
  have HX7 := hide ((unhide HX6).below b7)
  have HZ7 := hide ((unhide HZ6).below b7)
  have U1_7 := hide ((unhide U1_6).below b7)
  have U2_7 := hide ((unhide U2_6).below b7)
  have U3_7 := hide ((unhide U3_6).below b7)
  have hq7 := b7.size
  clear HX6 HZ6 U1_6 U2_6 U3_6
  have U4_7 := hide L7
  clear L7 b7
  obtain ⟨V8, hV8⟩ : ∃ V, (V7.setCell ⟨w.heap.size, 8, none⟩ (.slice a4 du.length d4)) = V := ⟨_, rfl⟩
  have HB8 : Hid (Below w.heap.size w V8) := hide (by rw [← hV8]; exact ((unhide HB7).setCell (p := ⟨w.heap.size, 8, none⟩) (Nat.le_refl _) (.slice a4 du.length d4)))
  have HX8 : Hid (RA V8 w.heap.size (rC x1 x2 x3 x4 x5 (.slice a1 ls.length d1) (.slice a2 tw.length d2) (.slice a3 se.length d3) (.slice a4 du.length d4) (.slice h5 ss.length c5) (.slice h6 es.length c6) (.slice h7 la.length c7) x6)) := hide (by rw [← hV8]; exact (RA.set (unhide HX7) (k := 8) (by omega) (.slice a4 du.length d4)))
  have HZ8 : Hid (CA V8 (w.heap.size + 1) (cC 0 0 0 0 0 (.slice none 0 0) (.slice none 0 0) (.slice none 0 0) (.slice none 0 0) (.slice none 0 0) (.slice none 0 0) (.slice none 0 0) 0 (.slice none 0 0))) := hide (by rw [← hV8]; exact (CA.other (unhide HZ7) (p := ⟨w.heap.size, 8, none⟩) (by show w.heap.size + 1 ≠ w.heap.size; omega) (.slice a4 du.length d4)))
  have hq8 : V8.heap.size = V7.heap.size := by rw [← hV8]; simp [World.setCell]
  have hk8 : ∀ k, k < V7.heap.size → k ≠ w.heap.size → V8.heap[k]? = V7.heap[k]? := fun k _ h => by rw [← hV8]; exact (Below.heap_setCell _ _ _ _ h)
  have U1_8 := hide ((unhide U1_7).but (p := fun k => k ≠ w.heap.size) (by omega) hk8 (fun k h1 h2 => by omega))
  have U2_8 := hide ((unhide U2_7).but (p := fun k => k ≠ w.heap.size) (by omega) hk8 (fun k h1 h2 => by omega))
  have U3_8 := hide ((unhide U3_7).but (p := fun k => k ≠ w.heap.size) (by omega) hk8 (fun k h1 h2 => by omega))
  have U4_8 := hide ((unhide U4_7).but (p := fun k => k ≠ w.heap.size) (by omega) hk8 (fun k h1 h2 => by omega))
  have HV8 := hide hV8
  clear hV8 hk8
  have o8 := (unhide HX7).at (i := 8) rfl
  have f8 := (unhide HX7).free (i := 8) (by omega)
  go_wp2_with fail
  rw [unhide HV8]
  clear o8 f8  HX7 HZ7 U1_7 U2_7 U3_7 U4_7
  refine wp_region_noPanic ?_
  refine Rl.drew (S := fun _ => True) (T := fun w' => RA w' w.heap.size (rC x1 x2 x3 x4 x5 (.slice a1 ls.length d1) (.slice a2 tw.length d2) (.slice a3 se.length d3) (.slice a4 du.length d4) (.slice h5 ss.length c5) (.slice h6 es.length c6) (.slice h7 la.length c7) x6) ∧ w'.cell? ⟨w.heap.size, 9, none⟩ = some (.slice h5 ss.length c5) ∧ w'.cell? ⟨w.heap.size, 10, none⟩ = some (.slice h6 es.length c6)) 10 (by kernel_rfl) ⟨trivial, ⟨(unhide HX8).drew, (unhide HX8).drew.at (i := 9) rfl, (unhide HX8).drew.at (i := 10) rfl⟩⟩ (fun hHeld => ?_)

  (refine Rl.tkS (k := 10) (i := 0) (d := 19) (v := ?_) rfl rfl (by kernel_rfl) (by kernel_rfl) (by kernel_rfl) rfl (fun _ _ _ h => h) (by rfl) ?_ (by assumption) ?_; rotate_left; (focus (intro w0 hSw; (try dsimp only at hSw); go_simp; (try with_reducible rfl))); (try simp only [Act.put, List.setIfInBounds_toArray, List.set_cons_zero, List.set_cons_succ]))
  (refine Rl.tkS (k := 10) (i := 1) (d := 20) (v := ?_) rfl rfl (by kernel_rfl) (by kernel_rfl) (by kernel_rfl) rfl (fun _ _ _ h => h) (by rfl) ?_ (by assumption) ?_; rotate_left; (focus (intro w0 hSw; (try dsimp only at hSw); go_simp; (try with_reducible rfl))); (try simp only [Act.put, List.setIfInBounds_toArray, List.set_cons_zero, List.set_cons_succ]))
  (refine Rl.tk (k := 10) (i := 2) (d := 21) (v := ?_) rfl rfl (by kernel_rfl) (by kernel_rfl) (by kernel_rfl) (by kernel_rfl) rfl (by kernel_rfl) (fun _ _ _ h => h) (by rfl) ?_ (by assumption) ?_; rotate_left; (focus (intro w0 hSw; (try dsimp only at hSw); go_simp; (try with_reducible rfl))); (try simp only [Act.put, List.setIfInBounds_toArray, List.set_cons_zero, List.set_cons_succ]))
  (refine Rl.tkS (k := 10) (i := 4) (d := 23) (v := ?_) rfl rfl (by kernel_rfl) (by kernel_rfl) (by kernel_rfl) rfl (fun _ _ _ h => h) (by rfl) ?_ (by assumption) ?_; rotate_left; (focus (intro w0 hSw; (try dsimp only at hSw); go_simp; (try with_reducible rfl))); (try simp only [Act.put, List.setIfInBounds_toArray, List.set_cons_zero, List.set_cons_succ]))
  (refine Rl.tkS (k := 10) (i := 5) (d := 24) (v := ?_) rfl rfl (by kernel_rfl) (by kernel_rfl) (by kernel_rfl) rfl (fun _ _ _ h => h) (by rfl) ?_ (by assumption) ?_; rotate_left; (focus (intro w0 hSw; (try dsimp only at hSw); go_simp; (try with_reducible rfl))); (try simp only [Act.put, List.setIfInBounds_toArray, List.set_cons_zero, List.set_cons_succ]))
  (refine Rl.tk (k := 10) (i := 6) (d := 25) (v := ?_) rfl rfl (by kernel_rfl) (by kernel_rfl) (by kernel_rfl) (by kernel_rfl) rfl (by kernel_rfl) (fun _ _ _ h => h) (by rfl) ?_ (by assumption) ?_; rotate_left; (focus (intro w0 hSw; (try dsimp only at hSw); go_simp; (try with_reducible rfl))); (try simp only [Act.put, List.setIfInBounds_toArray, List.set_cons_zero, List.set_cons_succ]))
  (refine Rl.ready (rs := [3]) (by kernel_rfl) (by simp) ?_; refine Rl.AllReadyL.cons (o := _) rfl rfl (fun K hK => ?_) Rl.AllReadyL.nil; go_simp)
  refine (copySO h5 ss c5 _ hm5 ((unhide HR5).below (unhide HB8).drew)).mono ?_
  rintro e V9 ⟨v9, rfl, b_, l9⟩
  have b9 : Below V8.heap.size V8 V9 := (Below.refl _ _).drew.trans b_
  obtain ⟨a5, d5, rfl, L9⟩ := l9
  have HB9 := hide ((unhide HB8).trans (b9.mono (unhide HB8).size))
  have HX9 := hide ((unhide HX8).below b9)
  have HZ9 := hide ((unhide HZ8).below b9)
  have U1_9 := hide ((unhide U1_8).below b9)
  have U2_9 := hide ((unhide U2_8).below b9)
  have U3_9 := hide ((unhide U3_8).below b9)
  have U4_9 := hide ((unhide U4_8).below b9)
  have hq9 := b9.size
  clear HX8 HZ8 U1_8 U2_8 U3_8 U4_8
  have U5_9 : Hid (So.Lst V9 a5 ss V8.heap.size V9.heap.size) := hide L9
  clear L9 b9 b_ hHeld
  refine hK.out _ _ ⟨trivial, ⟨(unhide HX9), (unhide HX9).at (i := 9) rfl, (unhide HX9).at (i := 10) rfl⟩⟩ (fun hHeld => ?_)
  clear hK K
  (try simp only [Act.put, List.setIfInBounds_toArray, List.set_cons_zero, List.set_cons_succ])
  (refine Rl.ready (rs := [7]) (by kernel_rfl) (by simp) ?_; refine Rl.AllReadyL.cons (o := _) rfl rfl (fun K hK => ?_) Rl.AllReadyL.nil; go_simp)
  refine (copyTO h6 es c6 _ hm6 ((unhide HR6).below (unhide HB9))).mono ?_
  rintro e V10 ⟨v10, rfl, b10, l10⟩
  obtain ⟨a6, d6, rfl, L10⟩ := l10
  have HB10 := hide ((unhide HB9).trans (b10.mono (unhide HB9).size))
  have HX10 := hide ((unhide HX9).below b10)
  have HZ10 := hide ((unhide HZ9).below b10)
  have U1_10 := hide ((unhide U1_9).below b10)
  have U2_10 := hide ((unhide U2_9).below b10)
  have U3_10 := hide ((unhide U3_9).below b10)
  have U4_10 := hide ((unhide U4_9).below b10)
  have U5_10 := hide ((unhide U5_9).below b10)
  have hq10 := b10.size
  clear HX9 HZ9 U1_9 U2_9 U3_9 U4_9 U5_9
  have U6_10 := hide L10
  clear L10 b10 hHeld
  refine hK.out _ _ ⟨trivial, ⟨(unhide HX10), (unhide HX10).at (i := 9) rfl, (unhide HX10).at (i := 10) rfl⟩⟩ (fun hHeld => ?_)
  clear hK K
  (try simp only [Act.put, List.setIfInBounds_toArray, List.set_cons_zero, List.set_cons_succ])
  (refine Rl.tkS (k := 10) (i := 8) (d := 27) (v := ?_) rfl rfl (by kernel_rfl) (by kernel_rfl) (by kernel_rfl) rfl (fun _ _ _ h => h) (by rfl) ?_ (by assumption) ?_; rotate_left; (focus (intro w0 hSw; (try dsimp only at hSw); go_simp; (try with_reducible rfl))); (try simp only [Act.put, List.setIfInBounds_toArray, List.set_cons_zero, List.set_cons_succ]))
  (refine Rl.tkS (k := 10) (i := 9) (d := 28) (v := ?_) rfl rfl (by kernel_rfl) (by kernel_rfl) (by kernel_rfl) rfl (fun _ _ _ h => h) (by rfl) ?_ (by assumption) ?_; rotate_left; (focus (intro w0 hSw; (try dsimp only at hSw); go_simp; (try with_reducible rfl))); (try simp only [Act.put, List.setIfInBounds_toArray, List.set_cons_zero, List.set_cons_succ]))
  obtain ⟨V11, hV11⟩ : ∃ V, ((V10.setCell ⟨w.heap.size, 9, none⟩ (.slice a5 ss.length d5)).setCell ⟨w.heap.size, 10, none⟩ (.slice a6 es.length d6)) = V := ⟨_, rfl⟩
  have HB11 : Hid (Below w.heap.size w V11) := hide (by rw [← hV11]; exact (((unhide HB10).setCell (p := ⟨w.heap.size, 9, none⟩) (Nat.le_refl _) (.slice a5 ss.length d5)).setCell (p := ⟨w.heap.size, 10, none⟩) (Nat.le_refl _) (.slice a6 es.length d6)))
  have HX11 : Hid (RA V11 w.heap.size (rC x1 x2 x3 x4 x5 (.slice a1 ls.length d1) (.slice a2 tw.length d2) (.slice a3 se.length d3) (.slice a4 du.length d4) (.slice a5 ss.length d5) (.slice a6 es.length d6) (.slice h7 la.length c7) x6)) := hide (by rw [← hV11]; exact (RA.set (RA.set (unhide HX10) (k := 9) (by omega) (.slice a5 ss.length d5)) (k := 10) (by omega) (.slice a6 es.length d6)))
  have HZ11 : Hid (CA V11 (w.heap.size + 1) (cC 0 0 0 0 0 (.slice none 0 0) (.slice none 0 0) (.slice none 0 0) (.slice none 0 0) (.slice none 0 0) (.slice none 0 0) (.slice none 0 0) 0 (.slice none 0 0))) := hide (by rw [← hV11]; exact (CA.other (CA.other (unhide HZ10) (p := ⟨w.heap.size, 9, none⟩) (by show w.heap.size + 1 ≠ w.heap.size; omega) (.slice a5 ss.length d5)) (p := ⟨w.heap.size, 10, none⟩) (by show w.heap.size + 1 ≠ w.heap.size; omega) (.slice a6 es.length d6)))
  have hq11 : V11.heap.size = V10.heap.size := by rw [← hV11]; simp [World.setCell]
  have hk11 : ∀ k, k < V10.heap.size → k ≠ w.heap.size → V11.heap[k]? = V10.heap[k]? := fun k _ h => by rw [← hV11]; exact ((Below.heap_setCell _ _ _ _ h).trans (Below.heap_setCell _ _ _ _ h))
  have U1_11 := hide ((unhide U1_10).but (p := fun k => k ≠ w.heap.size) (by omega) hk11 (fun k h1 h2 => by omega))
  have U2_11 := hide ((unhide U2_10).but (p := fun k => k ≠ w.heap.size) (by omega) hk11 (fun k h1 h2 => by omega))
  have U3_11 := hide ((unhide U3_10).but (p := fun k => k ≠ w.heap.size) (by omega) hk11 (fun k h1 h2 => by omega))
  have U4_11 := hide ((unhide U4_10).but (p := fun k => k ≠ w.heap.size) (by omega) hk11 (fun k h1 h2 => by omega))
  have U5_11 := hide ((unhide U5_10).but (p := fun k => k ≠ w.heap.size) (by omega) hk11 (fun k h1 h2 => by omega))
  have U6_11 := hide ((unhide U6_10).but (p := fun k => k ≠ w.heap.size) (by omega) hk11 (fun k h1 h2 => by omega))
  have HV11 := hide hV11
  clear hV11 hk11
  have o9 := (unhide HX10).at (i := 9) rfl
  have f9 := (unhide HX10).free (i := 9) (by omega)
  have o10 := (unhide HX10).at (i := 10) rfl
  have f10 := (unhide HX10).free (i := 10) (by omega)
  (refine Rl.ready (rs := [10]) (by kernel_rfl) (by simp) ?_; refine Rl.AllReadyL.last (o := _) rfl (by kernel_rfl) (fun K hK => ?_); go_simp)
  rw [unhide HV11]
  clear o9 f9 o10 f10 hHeld HX10 HZ10 U1_10 U2_10 U3_10 U4_10 U5_10 U6_10
  refine hK.out _ _ trivial (fun hHeld => ?_)
  clear hK K hHeld
  (try simp only [Act.put, List.setIfInBounds_toArray, List.set_cons_zero, List.set_cons_succ])
  refine Rl.done (by kernel_rfl) (NoPanic.normal ?_) _
  have z11 := (unhide HX11).at (i := 11) rfl
  go_wp2_with fail
  clear z11
  refine (copyEO h7 la c7 _ hm7 ((unhide HR7).below (unhide HB11))).mono ?_
  rintro e V12 ⟨v12, rfl, b12, l12⟩
  obtain ⟨a7, d7, rfl, L12⟩ := l12
  have HB12 := hide ((unhide HB11).trans (b12.mono (unhide HB11).size))
  have HX12 := hide ((unhide HX11).below b12)
  have HZ12 := hide ((unhide HZ11).below b12)
  have U1_12 := hide ((unhide U1_11).below b12)
  have U2_12 := hide ((unhide U2_11).below b12)
  have U3_12 := hide ((unhide U3_11).below b12)
  have U4_12 := hide ((unhide U4_11).below b12)
  have U5_12 := hide ((unhide U5_11).below b12)
  have U6_12 := hide ((unhide U6_11).below b12)
  have hq12 := b12.size
  clear HX11 HZ11 U1_11 U2_11 U3_11 U4_11 U5_11 U6_11
  have U7_12 := hide L12
  clear L12 b12
  obtain ⟨V13, hV13⟩ : ∃ V, (V12.setCell ⟨w.heap.size, 11, none⟩ (.slice a7 la.length d7)) = V := ⟨_, rfl⟩
  have HB13 : Hid (Below w.heap.size w V13) := hide (by rw [← hV13]; exact ((unhide HB12).setCell (p := ⟨w.heap.size, 11, none⟩) (Nat.le_refl _) (.slice a7 la.length d7)))
  have HX13 : Hid (RA V13 w.heap.size (rC x1 x2 x3 x4 x5 (.slice a1 ls.length d1) (.slice a2 tw.length d2) (.slice a3 se.length d3) (.slice a4 du.length d4) (.slice a5 ss.length d5) (.slice a6 es.length d6) (.slice a7 la.length d7) x6)) := hide (by rw [← hV13]; exact (RA.set (unhide HX12) (k := 11) (by omega) (.slice a7 la.length d7)))
  have HZ13 : Hid (CA V13 (w.heap.size + 1) (cC 0 0 0 0 0 (.slice none 0 0) (.slice none 0 0) (.slice none 0 0) (.slice none 0 0) (.slice none 0 0) (.slice none 0 0) (.slice none 0 0) 0 (.slice none 0 0))) := hide (by rw [← hV13]; exact (CA.other (unhide HZ12) (p := ⟨w.heap.size, 11, none⟩) (by show w.heap.size + 1 ≠ w.heap.size; omega) (.slice a7 la.length d7)))
  have hq13 : V13.heap.size = V12.heap.size := by rw [← hV13]; simp [World.setCell]
  have hk13 : ∀ k, k < V12.heap.size → k ≠ w.heap.size → V13.heap[k]? = V12.heap[k]? := fun k _ h => by rw [← hV13]; exact (Below.heap_setCell _ _ _ _ h)
  have U1_13 := hide ((unhide U1_12).but (p := fun k => k ≠ w.heap.size) (by omega) hk13 (fun k h1 h2 => by omega))
  have U2_13 := hide ((unhide U2_12).but (p := fun k => k ≠ w.heap.size) (by omega) hk13 (fun k h1 h2 => by omega))
  have U3_13 := hide ((unhide U3_12).but (p := fun k => k ≠ w.heap.size) (by omega) hk13 (fun k h1 h2 => by omega))
  have U4_13 := hide ((unhide U4_12).but (p := fun k => k ≠ w.heap.size) (by omega) hk13 (fun k h1 h2 => by omega))
  have U5_13 := hide ((unhide U5_12).but (p := fun k => k ≠ w.heap.size) (by omega) hk13 (fun k h1 h2 => by omega))
  have U6_13 := hide ((unhide U6_12).but (p := fun k => k ≠ w.heap.size) (by omega) hk13 (fun k h1 h2 => by omega))
  have U7_13 := hide ((unhide U7_12).but (p := fun k => k ≠ w.heap.size) (by omega) hk13 (fun k h1 h2 => by omega))
  have HV13 := hide hV13
  clear hV13 hk13
  have o11 := (unhide HX12).at (i := 11) rfl
  have f11 := (unhide HX12).free (i := 11) (by omega)
  have HOF : Hid (RA (V12.setCell ⟨w.heap.size, 11, none⟩ (.slice a7 la.length d7)) w.heap.size (rC x1 x2 x3 x4 x5 (.slice a1 ls.length d1) (.slice a2 tw.length d2) (.slice a3 se.length d3) (.slice a4 du.length d4) (.slice a5 ss.length d5) (.slice a6 es.length d6) (.slice a7 la.length d7) x6)) := hide (by rw [unhide HV13]; exact unhide HX13)
  have HZF : Hid ((V12.setCell ⟨w.heap.size, 11, none⟩ (.slice a7 la.length d7)).there (w.heap.size + 1) 0 14) := hide (by rw [unhide HV13]; exact (unhide HZ13).2.1)
  go_wp2_with (first | (refine wpList_loadR (cs := [.int .i64 x1, .int .i64 x2, .int .i64 x3, .int .i64 x4, .int .i64 x5, .slice a1 ls.length d1, .slice a2 tw.length d2, .slice a3 se.length d3, .slice a4 du.length d4, .slice a5 ss.length d5, .slice a6 es.length d6, .slice a7 la.length d7, .int .i64 x6]) _ rfl rfl rfl (unhide HOF) ?_) | (refine wpList_storeC2 _ _ rfl rfl (cC x1 x2 x3 x4 x5 (.slice a1 ls.length d1) (.slice a2 tw.length d2) (.slice a3 se.length d3) (.slice a4 du.length d4) (.slice a5 ss.length d5) (.slice a6 es.length d6) (.slice a7 la.length d7) x6 (.slice none 0 0)) (cC_ones rfl rfl rfl rfl rfl rfl rfl rfl) rfl rfl (unhide HZF) ?_; rw [unhide HV13]; intro VF raF bbF hsF kkF; have HRF := hide raF; have HBF := hide (bbF _ _ (unhide HB13) (by omega)); have HUF := hide kkF; have hqF := hsF; clear raF bbF hsF kkF))
  refine bodyPost_ret (resultsC rfl _ _ rfl (unhide HRF)) rfl ⟨a1, a2, a3, a4, a5, a6, a7, d1, d2, d3, d4, d5, d6, d7, rfl, unhide HBF, V1.heap.size, V3.heap.size, V5.heap.size, V7.heap.size, V9.heap.size, V10.heap.size, ⟨by omega, by omega, by omega, by omega, by omega, by omega, by omega⟩, ((unhide U1_13).but (p := fun k => k ≠ w.heap.size + 1) (by omega) (fun k hk h => unhide HUF k h) (fun k h1 h2 => by omega)).mono (by omega) (by omega), ((unhide U2_13).but (p := fun k => k ≠ w.heap.size + 1) (by omega) (fun k hk h => unhide HUF k h) (fun k h1 h2 => by omega)).mono (by omega) (by omega), ((unhide U3_13).but (p := fun k => k ≠ w.heap.size + 1) (by omega) (fun k hk h => unhide HUF k h) (fun k h1 h2 => by omega)).mono (by omega) (by omega), ((unhide U4_13).but (p := fun k => k ≠ w.heap.size + 1) (by omega) (fun k hk h => unhide HUF k h) (fun k h1 h2 => by omega)).mono (by omega) (by omega), ((unhide U5_13).but (p := fun k => k ≠ w.heap.size + 1) (by omega) (fun k hk h => unhide HUF k h) (fun k h1 h2 => by omega)).mono (by omega) (by omega), ((unhide U6_13).but (p := fun k => k ≠ w.heap.size + 1) (by omega) (fun k hk h => unhide HUF k h) (fun k h1 h2 => by omega)).mono (by omega) (by omega), ((unhide U7_13).but (p := fun k => k ≠ w.heap.size + 1) (by omega) (fun k hk h => unhide HUF k h) (fun k h1 h2 => by omega)).mono (by omega) (by omega)⟩
end Rt
end Go.Proofs.YthfcigfgpimimaaGreat
namespace Go.Proofs.YthfcigfgpimimaaGreat
open Go.ChangeShapes Go.WideShapes Go.ChangeAt Go.RowKit
set_option linter.unusedVariables false
set_option linter.unusedSimpArgs false
set_option maxRecDepth 100000
attribute [local go_sem ↓] Go.wp_at_zero Go.wp_at_succ
namespace Nt
open W1 Rt
/-- A router whose lists a copy takes. -/
def okL (m : Rm) : Prop := m.ls.length ≤ 4096 ∧ m.tw.length ≤ 4096 ∧ m.se.length ≤ 4096 ∧ m.du.length ≤ 4096 ∧ m.ss.length ≤ 4096 ∧ m.es.length ≤ 4096 ∧ m.la.length ≤ 4096
/-- The cells of routers, each with where its lists lie. -/
def fl (xs : List (Rm × Pl)) : List Value := xs.flatMap fun x => cl x.1 x.2
def zP : Rm × Pl := (Rm.zero, Pl.zero)
theorem fl_len (xs : List (Rm × Pl)) : (fl xs).length = xs.length * 13 := by
  unfold fl
  induction xs with
  | nil => rfl
  | cons m t ih => rw [List.flatMap_cons, List.length_append, ih, cl_len, List.length_cons]; omega
theorem fl_append (xs ys : List (Rm × Pl)) : fl (xs ++ ys) = fl xs ++ fl ys := by unfold fl; rw [List.flatMap_append]
theorem fl_get : ∀ (xs : List (Rm × Pl)) (i j : Nat), j < 13 → i < xs.length → (fl xs)[i * 13 + j]? = (cl (xs.getD i zP).1 (xs.getD i zP).2)[j]?
  | [], i, j, hj, hi => by simp at hi
  | m :: t, 0, j, hj, hi => by
    unfold fl
    rw [List.flatMap_cons, Nat.zero_mul, Nat.zero_add, List.getElem?_append_left (by rw [cl_len]; exact hj)]; rfl
  | m :: t, i + 1, j, hj, hi => by
    have ih := fl_get t i j hj (by simpa using hi)
    unfold fl at ih ⊢
    rw [List.flatMap_cons, show (i + 1) * 13 + j = (cl m.1 m.2).length + (i * 13 + j) by rw [cl_len]; omega, List.getElem?_append_right (by omega), Nat.add_sub_cancel_left, ih]; rfl
theorem fl_ones {xs : List (Rm × Pl)} {u : Value} (h : u ∈ fl xs) : u.oneCell' = true := by
  obtain ⟨x, _, hu⟩ := List.mem_flatMap.1 h; exact (cl_ones x.1 x.2).2 u hu
/-- Routers that stand in a row, cell by cell. -/
def Rws (w : World) (g off : Nat) (xs : List (Rm × Pl)) : Prop := ∀ i, i < xs.length → w.rangeAt g (off + i * 13) (cl (xs.getD i zP).1 (xs.getD i zP).2)
theorem padd (b off k : Nat) : (⟨b, off, none⟩ : Addr).add k = ⟨b, off + k, none⟩ := by unfold Addr.add; split <;> simp_all
theorem Rws.cells {w : World} {g off : Nat} {xs : List (Rm × Pl)} (h : Rws w g off xs) : ∀ j u, (fl xs)[j]? = some u → w.cell? ((⟨g, off, none⟩ : Addr).add j) = some u := by
  intro j u hj
  have hl : j < xs.length * 13 := by rw [← fl_len]; exact (List.getElem?_eq_some_iff.1 hj).1
  have hi : j / 13 < xs.length := by omega
  have e : j / 13 * 13 + j % 13 = j := by omega
  rw [← e, fl_get xs _ _ (by omega) hi] at hj
  have := h _ hi _ _ hj
  rw [padd, show off + j = off + j / 13 * 13 + j % 13 by omega]; exact this
def zp (ms : List Rm) (ps : List Pl) : List (Rm × Pl) := (List.range ms.length).map fun i => (ms.getD i Rm.zero, ps.getD i Pl.zero)
theorem zp_len (ms : List Rm) (ps : List Pl) : (zp ms ps).length = ms.length := by unfold zp; simp
theorem zp_get {ms : List Rm} {ps : List Pl} {i : Nat} (h : i < ms.length) : (zp ms ps).getD i zP = (ms.getD i Rm.zero, ps.getD i Pl.zero) := by
  unfold zp
  rw [List.getD_eq_getElem?_getD, List.getElem?_map, List.getElem?_range h]; rfl
theorem NR.rws {w : World} {g off : Nat} {ms : List Rm} {ps : List Pl} (h : NR w (some ⟨g, off, none⟩) ms ps) : Rws w g off (zp ms ps) := fun i hi => by
  rw [zp_len] at hi
  obtain ⟨g', off', e, hA, _⟩ := h.at hi
  cases e
  rw [zp_get hi]; exact hA
theorem NR.form {w : World} {a : Option Addr} {ms : List Rm} {ps : List Pl} (h : NR w a ms ps) (h0 : 0 < ms.length) : ∃ g off, a = some ⟨g, off, none⟩ := by
  obtain ⟨g, off, e, _⟩ := h.at h0; exact ⟨g, off, e⟩
theorem rws_own {w : World} {base g cap n : Nat} {xs : List (Rm × Pl)} (hn : n = xs.length) (h : w.ownsRow base 80 13 (.slice (some ⟨g, 0, none⟩) n cap) n (fl xs)) : (∀ i, i < n → w.rangeAt g (i * 13) (cl (xs.getD i zP).1 (xs.getD i zP).2)) ∧ w.there g 0 (n * 13) ∧ base ≤ g ∧ g < w.heap.size := by
  obtain ⟨_, ⟨e, _⟩ | ⟨g', cap', cur, e, hb, hg, h1, _, h3, h4⟩⟩ := h
  · cases e
  · cases e
    have hlt : g < w.heap.size := by
      rcases Nat.lt_or_ge g w.heap.size with h | h
      · exact h
      · rw [Array.getElem?_eq_none h] at hg; cases hg
    refine ⟨fun i hi j u hu => ?_, fun i hi => ?_, hb, hlt⟩
    · have hj : j < 13 := by have := (List.getElem?_eq_some_iff.1 hu).1; rw [cl_len] at this; exact this
      have hf := fl_get xs i j hj (by omega)
      rw [hu, ← h4, List.getElem?_take_of_lt (by omega)] at hf
      rw [Array.getElem?_toList] at hf
      simp only [World.cell?, hg]
      exact hf
    · have hc : i < cur.size := by rw [h3]; exact Nat.lt_of_lt_of_le hi (Nat.mul_le_mul_right _ h1)
      rw [Nat.zero_add]
      refine ⟨?_, ?_⟩
      · simp [World.cell?, hg, hc]
      · simp [World.frozen?, hg]
theorem own_form {w : World} {base n : Nat} {v : Value} {xs : List Value} (h : w.ownsRow base 80 13 v n xs) (h0 : 0 < n) : ∃ g cap, v = .slice (some ⟨g, 0, none⟩) n cap := by
  obtain ⟨_, ⟨_, e⟩ | ⟨g', cap', cur, e, _⟩⟩ := h
  · omega
  · exact ⟨g', cap', e⟩
theorem ownN_nil (w : World) (base : Nat) : w.ownsRow base 80 13 (.slice none 0 0) ([] : List (Rm × Pl)).length (fl []) := World.ownsRow_nil w base _ _
theorem ownN_empty (w : World) (base : Nat) (hb : base ≤ w.heap.size) : (w.alloc (.cells #[] 80)).ownsRow base 80 13 (.slice (some ⟨w.heap.size, 0, none⟩) 0 0) ([] : List (Rm × Pl)).length (fl []) := World.ownsRow_made w #[] 0 hb (Nat.zero_le _) (by simp)
theorem rwN_new (w : World) (m : Rm) (p : Pl) : Rws (w.alloc (.cells (cl m p).toArray 80)) w.heap.size 0 [(m, p)] := fun i hi j u hu => by
  obtain rfl : i = 0 := by simp at hi; omega
  rw [Nat.zero_mul, Nat.zero_add]
  try rw [Nat.zero_add]
  rw [World.cell?_alloc_new]
  have : (cl m p)[j]? = some u := hu
  rw [List.getElem?_toArray]; exact this
theorem belN_own {B : Nat} {w0 w w' : World} {base : Nat} {v : Value} {n : Nat} {xs : List Value} (h : Below B w0 w) (ho : w.ownsRow base 80 13 v n xs) (hg : w.grownBy w' v.ownBlock) (hb : B ≤ base) (hB : B ≤ w.heap.size) : Below B w0 w' :=
  h.grown hg hB (fun k hk => Nat.le_trans hb (ho.lt k hk).1)
/-- append of routers to a row of one's own. -/
theorem wpList_apN {ops : Array Oper} {rest : List Oper} {o : Oper} {a : Act} {Q : Exit → Act → World → Prop} {w : World} {base : Nat} {v : Value} {xs : List (Rm × Pl)} (hown : w.ownsRow base 80 13 v xs.length (fl xs)) (g off m c : Nat) (ys : List (Rm × Pl)) (hm : ys.length = m) (hr : Rws w g off ys) (hlen : xs.length + ys.length ≤ 4194304) (hbase : base ≤ w.heap.size)
    (hgd : o.guard = none) (s x : Operand) (ho : o.op = .call { callee := .builtin .append, args := #[s, x], argTypes := #[29, 29] }) (hs : a.eval s = v) (hx : a.eval x = .slice (some ⟨g, off, none⟩) m c)
    (h : ∀ v' w', w'.ownsRow base 80 13 v' (xs ++ ys).length (fl (xs ++ ys)) → w.grownBy w' v.ownBlock → wpList Tryz.prog ops Q rest (a.put o.dst v') w') : wpList Tryz.prog ops Q (o :: rest) a w := by
  subst hm
  obtain ⟨i0, hi, hz0, hz1, hz2⟩ := infoZ
  refine wpList_append_own w hgd s x _ ho base 80 i0 _ 13 216 Tryz.underlying29 hi hz0 hz1 hz2 rfl (by decide) v xs.length (fl xs) hs hown ⟨g, off, none⟩ ys.length c (fl ys) hx (fl_len ys) hr.cells (fun u hu => fl_ones hu) (by unfold maxLen; omega) (by omega) hbase (fun v' w' h1 h2 _ => ?_)
  refine h v' w' ?_ h2
  rw [List.length_append, fl_append]; exact h1
set_option maxHeartbeats 4000000 in
theorem copyN (a : Option Addr) (ms : List Rm) (ps : List Pl) (cap n : Nat) (w : World) (hn : ms.length = n) (h0 : 0 < n) (hm : n ≤ 4096) (hr : NR w a ms ps) :
    Calls Tryz.prog 83 #[.slice a n cap] w fun e w' => ∃ g c, e = .returned (.slice (some ⟨g, 0, none⟩) n c) ∧ Below w.heap.size w w' ∧ w.heap.size ≤ g ∧ g < w'.heap.size ∧ w'.there g 0 (n * 13) ∧ ∀ i, i < n → w'.rangeAt g (i * 13) (cl (ms.getD i Rm.zero) (ps.getD i Pl.zero)) := by
  obtain ⟨ga, off, rfl⟩ := hr.form (by omega)
  have HR := hide hr.rws
  have O0 := hide (ownN_nil w w.heap.size)
  have HZ := hide (zp_len ms ps)
  have HG := hide (fun i (h : i < n) => zp_get (ps := ps) (show i < ms.length by omega))
  clear hr
  generalize zp ms ps = xs at *
  have hxn : xs.length = n := by rw [unhide HZ, hn]
  clear hn HZ
  go_enter Tryz.func83, Tryz.ntmps83
  go_wp2_with (at_builtin; refine wpList_apN (unhide O0) ga off n cap xs hxn (unhide HR) (by simp; omega) (by simp) rfl _ _ rfl rfl rfl ?_; intro v' w' ho hg; have HL := hide ho; have HB := hide (belN_own (Below.refl _ _) (unhide O0) hg (Nat.le_refl _) (Nat.le_refl _)); clear ho hg)
  go_ret
  have ho := unhide HL
  rw [List.nil_append, hxn] at ho
  obtain ⟨g, c, rfl⟩ := own_form ho h0
  obtain ⟨h1, h2, h3, h4⟩ := rws_own hxn.symm ho
  exact ⟨g, c, rfl, unhide HB, h3, h4, h2, fun i hi => by have := h1 i hi; rw [unhide HG i hi] at this; exact this⟩

theorem coreN (m : Rm) (p : Pl) (w : World) (hs : okL m) (hr : Rd w m p) :
    Calls Tryz.prog 84 #[.agg (cl m p).toArray] w fun e w' => ∃ q, e = .returned (.agg (cl m q ++ [Value.slice none 0 0]).toArray) ∧ Below w.heap.size w w' ∧ Ow w' w.heap.size w'.heap.size m q := by
  obtain ⟨s1, s2, s3, s4, s5, s6, s7⟩ := hs
  obtain ⟨r1, r2, r3, r4, r5, r6, r7⟩ := hr
  refine (coreOfO m.x1 m.x2 m.x3 m.x4 m.x5 m.x6 p.a1 p.a2 p.a3 p.a4 p.a5 p.a6 p.a7 p.c1 p.c2 p.c3 p.c4 p.c5 p.c6 p.c7 m.ls m.tw m.se m.du m.ss m.es m.la w s1 s2 s3 s4 s5 s6 s7 r1 r2 r3 r4 r5 r6 r7).mono ?_
  rintro e w' ⟨b1, b2, b3, b4, b5, b6, b7, d1, d2, d3, d4, d5, d6, d7, rfl, hb, h⟩
  exact ⟨⟨b1, b2, b3, b4, b5, b6, b7, d1, d2, d3, d4, d5, d6, d7⟩, rfl, hb, h⟩
end Nt
end Go.Proofs.YthfcigfgpimimaaGreat
namespace Go.Proofs.YthfcigfgpimimaaGreat
open Go.ChangeShapes Go.WideShapes Go.ChangeAt Go.RowKit
set_option linter.unusedVariables false
set_option linter.unusedSimpArgs false
set_option maxRecDepth 100000
attribute [local go_sem ↓] Go.wp_at_zero Go.wp_at_succ
namespace Nt
open W1 Rt
theorem rng_blk {w w' : World} {g o : Nat} {cs : List Value} (h : w.rangeAt g o cs) (hb : w'.heap[g]? = w.heap[g]?) : w'.rangeAt g o cs := fun j u hu => (World.cell?_of_block (a := ⟨g, o + j, none⟩) hb).trans (h j u hu)
theorem there_blk {w w' : World} {b n : Nat} (h : w.there b 0 n) (hb : w'.heap[b]? = w.heap[b]?) : w'.there b 0 n := fun k hk => ⟨by rw [World.cell?_of_block (a := ⟨b, 0 + k, none⟩) hb]; exact (h k hk).1, by rw [World.frozen?_of_block (a := ⟨b, 0 + k, none⟩) hb]; exact (h k hk).2⟩
theorem own_blk {w w' : World} {base e k : Nat} {v : Value} {n : Nat} {xs : List Value} (h : w.ownsRow base e k v n xs) (hb : ∀ g, v.ownBlock = some g → w'.heap[g]? = w.heap[g]?) : w'.ownsRow base e k v n xs := by
  obtain ⟨h1, h2 | ⟨g, cap, cur, rfl, h3, h4, h5⟩⟩ := h
  · exact ⟨h1, .inl h2⟩
  · exact ⟨h1, .inr ⟨g, cap, cur, rfl, h3, by rw [hb g rfl]; exact h4, h5⟩⟩
theorem upn_zero {w : World} {g n : Nat} {ms : List Rm} (h : w.there g 0 (n * 13)) : UpN w g n 0 ms [] := ⟨fun i hi => absurd hi (Nat.not_lt_zero i), h⟩
theorem own_zero {w : World} {lo hi : Nat} {ms : List Rm} (h : lo ≤ hi) : OwN w lo hi 0 ms [] := ⟨fun _ => lo, Nat.le_refl _, fun _ _ => Nat.le_refl _, h, fun i hi => absurd hi (Nat.not_lt_zero i)⟩
/-- The pieces of a net in memory of one's own, the row of routers ahead of their lists. -/
theorem mt_of {W : World} {lo hi g p q p2 q2 p3 q3 : Nat} {b d : Option Addr} {ms : List Rm} {qs : List Pl} {cs : List Int} {fs : List Fm.R} {n : Nat} (hn : ms.length = n) (h0 : lo ≤ g) (h1 : g < p) (h2 : p ≤ q) (h3 : q ≤ p2) (h4 : p2 ≤ q2) (h5 : q2 ≤ p3) (h6 : p3 ≤ q3) (h7 : q3 ≤ hi) (hq : q ≤ W.heap.size) (hu : UpN W g n n ms qs) (ho : OwN W p q n ms qs) (hc : In.Lst W b cs p2 q2) (hf : Fm.Lst W d fs p3 q3) : MT W lo hi (some ⟨g, 0, none⟩) b d ms qs cs fs := by
  subst hn
  obtain ⟨f, f0, f1, f2, f3⟩ := ho
  have up : ∀ i k, i + k ≤ ms.length → f i ≤ f (i + k) := fun i k => by
    induction k with
    | zero => intro _; exact Nat.le_refl _
    | succ k ih => intro hk; exact Nat.le_trans (ih (by omega)) (f1 (i + k) (by omega))
  have fb : ∀ i, i < ms.length → p ≤ f i ∧ f (i + 1) ≤ q := fun i hi => by
    have h0 := up 0 i (by omega)
    have h9 := up (i + 1) (ms.length - (i + 1)) (by omega)
    rw [Nat.zero_add] at h0
    rw [show i + 1 + (ms.length - (i + 1)) = ms.length by omega] at h9
    omega
  refine ⟨f, g, q, p2, q2, p3, q3, by omega, by omega, by omega, by omega, by omega, by omega, ?_, hc, hf⟩
  exact .inr ⟨g, rfl, Nat.le_refl _, by omega, by omega, fun i hi => .inl (by have := fb i hi; omega), f1, fun i hi => by have := fb i hi; omega, hu.1, hu.2, f3⟩
theorem field_core (m : Rm) (q : Pl) (W : World) : (Instr.field 122 (.agg (cl m q ++ [Value.slice none 0 0]).toArray) 0).run Tryz.prog W = .ok (.agg (cl m q).toArray) W := by kernel_rfl
theorem execFld {op : Oper} {a : Act} {w : World} (x : Operand) (ho : op.op = .field 122 x 0) {m : Rm} {q : Pl} (hx : a.eval x = .agg (cl m q ++ [Value.slice none 0 0]).toArray) : (execOp a.eval op).run Tryz.prog w = .ok (.value (.agg (cl m q).toArray)) w := by
  unfold execOp
  simp only [ho, hx, Sem.run_bind, field_core, Sem.run_pure, Result.andThen_ok]
theorem wp_storeN {op : Oper} {a : Act} {w : World} {K : Act → World → Prop} {Q : Exit → Act → World → Prop} (x y : Operand) (ho : op.op = .store 80 x y) {b o : Nat} {m : Rm} {p : Pl} (ht : w.there b o 13) (hx : a.eval x = .pointer (some ⟨b, o, none⟩)) (hy : a.eval y = .agg (cl m p).toArray)
    (hk : ∀ w', w' = w.setCells b o (cl m p) → K (a.put op.dst undef) w') : op.wp Tryz.prog a w K Q :=
  wp_store_mid 80 x y ho b o (cl m p).toArray hx hy ht infoR.2.2 (all_oneCell_toArray (cl_ones m p).2) (hk _ rfl)
theorem copyIO (a : Option Addr) (ms : List Int) (cap : Nat) (w : World) (hm : ms.length ≤ 4096) (hr : In.RM w a ms) :
    Calls Tryz.prog 85 #[.slice a ms.length cap] w fun e w' => ∃ v, e = .returned v ∧ Below w.heap.size w w' ∧ In.LstV w' v ms w.heap.size w'.heap.size ∧ Hid (w'.ownsRow w.heap.size 3 1 v ms.length (In.flat ms)) := by
  have O0 := hide (In.own_nil w w.heap.size)
  by_cases h0 : 0 < ms.length
  · rcases hr with e0 | ⟨g, off, rfl, hcc⟩
    · rw [e0] at h0; simp at h0
    have HR := hide (show In.RM w (some ⟨g, off, none⟩) ms from .inr ⟨g, off, rfl, hcc⟩)
    obtain ⟨n, hn⟩ : ∃ n, ms.length = n := ⟨_, rfl⟩
    rw [hn]
    clear hcc h0
    go_enter Tryz.func85, Tryz.ntmps85
    go_wp2_with (at_builtin; refine In.wpList_apS (unhide O0) g off n cap ms hn (unhide HR) (by simp; omega) (by simp) rfl _ _ rfl rfl rfl ?_; intro v' w' ho hg; have HL := hide (In.lst_own rfl ho); have HO := hide ho; have HB := hide (In.below_own (Below.refl _ _) (unhide O0) hg (Nat.le_refl _) (Nat.le_refl _)); clear ho hg)
    go_ret
    exact ⟨_, rfl, unhide HB, unhide HL, by have := unhide HO; rw [List.nil_append, hn] at this; exact hide this⟩
  · have hms : ms = [] := List.length_eq_zero_iff.1 (by omega)
    subst hms
    clear h0 hr hm
    obtain ⟨i0, hi, _⟩ := In.infoI
    go_enter Tryz.func85, Tryz.ntmps85
    go_wp2_with (at_builtin; refine wpList_append_none rfl _ _ _ rfl w.heap.size 3 i0 1 Tryz.underlying23 hi _ _ _ rfl (unhide O0) _ _ rfl ?_)
    go_ret
    exact ⟨_, rfl, Below.refl _ _, In.lstV_nil _ _ _ _ _, O0⟩
theorem copyFO (a : Option Addr) (ms : List Fm.R) (cap : Nat) (w : World) (hm : ms.length ≤ 4096) (hr : Fm.RM w a ms) :
    Calls Tryz.prog 86 #[.slice a ms.length cap] w fun e w' => ∃ v, e = .returned v ∧ Below w.heap.size w w' ∧ Fm.LstV w' v ms w.heap.size w'.heap.size ∧ Hid (w'.ownsRow w.heap.size 49 4 v ms.length (Fm.flat ms)) := by
  have O0 := hide (Fm.own_nil w w.heap.size)
  by_cases h0 : 0 < ms.length
  · rcases hr with e0 | ⟨g, off, rfl, hcc⟩
    · rw [e0] at h0; simp at h0
    have HR := hide (show Fm.RM w (some ⟨g, off, none⟩) ms from .inr ⟨g, off, rfl, hcc⟩)
    obtain ⟨n, hn⟩ : ∃ n, ms.length = n := ⟨_, rfl⟩
    rw [hn]
    clear hcc h0
    go_enter Tryz.func86, Tryz.ntmps86
    go_wp2_with (at_builtin; refine Fm.wpList_apS (unhide O0) g off n cap ms hn (unhide HR) (by simp; omega) (by simp) rfl _ _ rfl rfl rfl ?_; intro v' w' ho hg; have HL := hide (Fm.lst_own rfl ho); have HO := hide ho; have HB := hide (Fm.below_own (Below.refl _ _) (unhide O0) hg (Nat.le_refl _) (Nat.le_refl _)); clear ho hg)
    go_ret
    exact ⟨_, rfl, unhide HB, unhide HL, by have := unhide HO; rw [List.nil_append, hn] at this; exact hide this⟩
  · have hms : ms = [] := List.length_eq_zero_iff.1 (by omega)
    subst hms
    clear h0 hr hm
    obtain ⟨i0, hi, _⟩ := Fm.infoR
    go_enter Tryz.func86, Tryz.ntmps86
    go_wp2_with (at_builtin; refine wpList_append_none rfl _ _ _ rfl w.heap.size 49 i0 4 Tryz.underlying30 hi _ _ _ rfl (unhide O0) _ _ rfl ?_)
    go_ret
    exact ⟨_, rfl, Below.refl _ _, Fm.lstV_nil _ _ _ _ _, O0⟩
set_option maxHeartbeats 32000000 in
theorem netOf (a b d : Option Addr) (ca cb cd n : Nat) (t : Int) (ms : List Rm) (ps : List Pl) (cs : List Int) (fs : List Fm.R) (w : World) (hn : ms.length = n) (h0 : 0 < n) (hm : n ≤ 4096) (hc : cs.length ≤ 4096) (hf : fs.length ≤ 4096) (hs : ∀ i, i < n → okL (ms.getD i Rm.zero)) (hr : NR w a ms ps) (hi : In.RM w b cs) (hz : Fm.RM w d fs) :
    Calls Tryz.prog 48 #[.agg #[.slice a n ca, .slice b cs.length cb, .slice d fs.length cd, .int .i64 t]] w fun e w' => ∃ a' b' d' ca' cb' cd' qs, e = .returned (.agg #[.slice a' n ca', .slice b' cs.length cb', .slice d' fs.length cd', .int .i64 t]) ∧ Below w.heap.size w w' ∧ MT w' w.heap.size w'.heap.size a' b' d' ms qs cs fs ∧ Hid (∃ mid, w.heap.size ≤ mid ∧ mid ≤ w'.heap.size ∧ MT w' w.heap.size mid a' b' none ms qs cs [] ∧ w'.ownsRow mid 49 4 (.slice d' fs.length cd') fs.length (Fm.flat fs)) := by
  have z1 : (w.alloc (.cells #[.slice a n ca, .slice b cs.length cb, .slice d fs.length cd, .int .i64 t] 32)).heap.size = w.heap.size + 1 := by simp
  have hq0 : ((w.alloc (.cells #[.slice a n ca, .slice b cs.length cb, .slice d fs.length cd, .int .i64 t] 32)).alloc (.cells #[.slice none 0 0, .slice none 0 0, .slice none 0 0, .int .i64 0] 32)).heap.size = w.heap.size + 2 := by simp
  have HB0 : Hid (Below w.heap.size w ((w.alloc (.cells #[.slice a n ca, .slice b cs.length cb, .slice d fs.length cd, .int .i64 t] 32)).alloc (.cells #[.slice none 0 0, .slice none 0 0, .slice none 0 0, .int .i64 0] 32))) := hide (((Below.refl _ _).alloc (Nat.le_refl _) _).alloc (by simp) _)
  have c1 : Below (w.alloc (.cells #[.slice a n ca, .slice b cs.length cb, .slice d fs.length cd, .int .i64 t] 32)).heap.size (w.alloc (.cells #[.slice a n ca, .slice b cs.length cb, .slice d fs.length cd, .int .i64 t] 32)) ((w.alloc (.cells #[.slice a n ca, .slice b cs.length cb, .slice d fs.length cd, .int .i64 t] 32)).alloc (.cells #[.slice none 0 0, .slice none 0 0, .slice none 0 0, .int .i64 0] 32)) := bel_new _ _
  have HX0 := hide ((nb_new w (.slice a n ca) (.slice b cs.length cb) (.slice d fs.length cd) t 32).below c1)
  have TX0 : Hid (((w.alloc (.cells #[.slice a n ca, .slice b cs.length cb, .slice d fs.length cd, .int .i64 t] 32)).alloc (.cells #[.slice none 0 0, .slice none 0 0, .slice none 0 0, .int .i64 0] 32)).there w.heap.size 0 4) := hide (there_under (there_new4 w _ _ _ _ _) c1 (by rw [z1]; omega))
  have TZ0 : Hid (((w.alloc (.cells #[.slice a n ca, .slice b cs.length cb, .slice d fs.length cd, .int .i64 t] 32)).alloc (.cells #[.slice none 0 0, .slice none 0 0, .slice none 0 0, .int .i64 0] 32)).there (w.heap.size + 1) 0 4) := hide (by have h := there_new4 (w.alloc (.cells #[.slice a n ca, .slice b cs.length cb, .slice d fs.length cd, .int .i64 t] 32)) (.slice none 0 0) (.slice none 0 0) (.slice none 0 0) (.int .i64 0) 32; rw [z1] at h; exact h)
  have HR := hide hr
  have HI := hide hi
  have HF := hide hz
  have HS := hide hs
  have HN := hide hn
  clear z1 c1 hr hi hz hs hn
  go_enter Tryz.func48, Tryz.ntmps48
  go_wp2_with fail
  generalize hW : ((w.alloc (.cells #[.slice a n ca, .slice b cs.length cb, .slice d fs.length cd, .int .i64 t] 32)).alloc (.cells #[.slice none 0 0, .slice none 0 0, .slice none 0 0, .int .i64 0] 32)) = V0 at *
  clear hW
  refine (copyN a ms ps ca n _ (unhide HN) h0 hm ((unhide HR).below (unhide HB0))).mono ?_
  rintro e V1 ⟨g, c, rfl, d1, lg, lh, th, rg⟩
  have HB1 := hide ((unhide HB0).trans (d1.mono (unhide HB0).size))
  have hq1 := d1.size
  have HX1 := hide ((unhide HX0).below d1)
  have TX1 := hide (there_under (unhide TX0) d1 (unhide HX0).lt)
  have TZ1 := hide (there_under (unhide TZ0) d1 (by have := (unhide HX0).lt; omega))
  have TH1 := hide th
  have RG1 := hide rg
  clear HX0 TX0 TZ0 d1 th rg
  obtain ⟨V2, hV2⟩ : ∃ V, (V1.setCell ⟨w.heap.size, 0, none⟩ (.slice (some ⟨g, 0, none⟩) n c)) = V := ⟨_, rfl⟩
  have HB2 : Hid (Below w.heap.size w V2) := hide (by rw [← hV2]; exact (unhide HB1).setCell (p := ⟨w.heap.size, 0, none⟩) (Nat.le_refl _) _)
  have HX2 := hide (show NB V2 w.heap.size _ _ _ _ by rw [← hV2]; exact (unhide HX1).set0 (.slice (some ⟨g, 0, none⟩) n c))
  have TX2 : Hid (V2.there w.heap.size 0 4) := hide (by rw [← hV2]; exact there_at (unhide TX1))
  have TZ2 : Hid (V2.there (w.heap.size + 1) 0 4) := hide (by rw [← hV2]; exact there_at (unhide TZ1))
  have hq2 : V2.heap.size = V1.heap.size := by rw [← hV2]; simp [World.setCell]
  have ho2 : ∀ x, x ≠ w.heap.size → V2.heap[x]? = V1.heap[x]? := fun x hx => by rw [← hV2]; exact Below.heap_setCell _ _ _ _ hx
  have TH2 := hide (show V2.there g 0 (n * 13) from fun k hk => ⟨by rw [World.cell?_of_block (a := ⟨g, 0 + k, none⟩) (ho2 g (by omega))]; exact (unhide TH1 k hk).1, by rw [World.frozen?_of_block (a := ⟨g, 0 + k, none⟩) (ho2 g (by omega))]; exact (unhide TH1 k hk).2⟩)
  have RG2 := hide (fun (k : Nat) (hk : k < n) => rng_blk (unhide RG1 k hk) (ho2 g (by omega)))
  have HV2 := hide hV2
  clear hV2 ho2
  have f0 := free_at (unhide TX1) (k := 0) (by omega)
  obtain ⟨x0, x1, x2, x3⟩ := unhide HX1
  go_wp2_with fail
  rw [unhide HV2]
  clear f0 x0 x1 x2 x3 HX1 TX1 TZ1 TH1 RG1 HB1
  have RGL := hide (fun (k : Nat) (h : 0 ≤ k) (hk : k < n) => unhide RG2 k hk)
  have UP0 := hide (upn_zero (ms := ms) (unhide TH2))
  have OW0 : Hid (OwN V2 V2.heap.size V2.heap.size 0 ms []) := hide (own_zero (Nat.le_refl _))
  clear RG2 TH2
  go_loopw [12] (fun i wr => ∃ j : Nat, j ≤ n ∧ i = .int .i64 j ∧ ∃ qs : List Pl, qs.length = j ∧ Hid (Below w.heap.size w wr) ∧ Hid (V2.heap.size ≤ wr.heap.size) ∧ Hid (NB wr w.heap.size (.slice (some ⟨g, 0, none⟩) n c) (.slice b cs.length cb) (.slice d fs.length cd) t) ∧ Hid (wr.there w.heap.size 0 4) ∧ Hid (wr.there (w.heap.size + 1) 0 4) ∧ Hid (UpN wr g n j ms qs) ∧ Hid (∀ i, j ≤ i → i < n → wr.rangeAt g (i * 13) (cl (ms.getD i Rm.zero) (ps.getD i Pl.zero))) ∧ Hid (OwN wr V2.heap.size wr.heap.size j ms qs)) (fun i _ => n - (intOf i).toNat)
  case atStart => exact ⟨0, by omega, rfl, [], rfl, HB2, hide (Nat.le_refl _), HX2, TX2, TZ2, UP0, RGL, OW0⟩
  case round =>
    clear HB2 HX2 TX2 TZ2 UP0 RGL OW0
    obtain ⟨j, hj, rfl, qs, hql, hb, hsz, hx, tx, tz, hu, hold, how⟩ := hrel
    have HQL := hide hql
    clear hql
    by_cases hlt : (j : Int) < (n : Int)
    · have k0 : (0 : Int) ≤ (j : Int) := by omega
      have hjn : j < n := by omega
      obtain ⟨ga, off, ea, hA0, hD0⟩ := (unhide HR).at (i := j) (by rw [unhide HN]; exact hjn)
      have HD := hide (hD0.below (unhide hb))
      have HA := hide (unhide hold j (Nat.le_refl _) hjn)
      have HO := hide ((unhide HS) j hjn)
      clear ea hA0 hD0
      have hsw := unhide hsz
      have hgw : g < wr.heap.size := by omega
      have HST := hide (fun w1 (hu1 : UpN w1 g n j ms qs) q => hu1.step (unhide HQL) hjn q)
      have HSO := hide (fun (w0 w1 : World) (h0 : OwN w0 V2.heap.size w0.heap.size j ms qs) (b1 : Below w0.heap.size w0 w1) q (h : Ow w1 w0.heap.size w1.heap.size (ms.getD j Rm.zero) q) => h0.step b1 (unhide HQL) h b1.size)
      have HOO := hide (fun (i : Nat) (h1 : j + 1 ≤ i) (h2 : i < n) => unhide hold i (by omega) h2)
      generalize hmj : ms.getD j Rm.zero = m at HD HA HO HST HSO
      generalize hpj : ps.getD j Pl.zero = p at HD HA
      clear hmj hpj hold
      go_upto_region 5 with (first | (refine loadI _ rfl rfl (unhide HA) rfl ?_) | (refine wpList_storeR _ _ rfl rfl (cl m p) (cl_ones m p) rfl rfl (ra_new wr (rC 0 0 0 0 0 (.slice none 0 0) (.slice none 0 0) (.slice none 0 0) (.slice none 0 0) (.slice none 0 0) (.slice none 0 0) (.slice none 0 0) 0) rfl 80).2.1 ?_; intro w3 ra bb hs3))
      have b3_ : Below wr.heap.size wr w3 := bb _ _ ((Below.refl _ _).alloc (Nat.le_refl _) _) (Nat.le_refl _)
      have hs4 : wr.heap.size < w3.heap.size := by rw [hs3]; simp
      have HB3 := hide ((unhide hb).trans (b3_.mono (unhide hb).size))
      have HX3 := hide ((unhide hx).below b3_)
      have TX3 := hide (there_under (unhide tx) b3_ (unhide hx).lt)
      have TZ3 := hide (there_under (unhide tz) b3_ (by omega))
      have HU3 := hide ((unhide hu).under b3_ hgw)
      have HOL3 := hide (fun i h1 h2 => rng_under (unhide HOO i h1 h2) b3_ hgw)
      have HOW3 := hide ((unhide how).below b3_)
      have HOW3b : Hid (OwN w3 V2.heap.size w3.heap.size j ms qs) := hide (by obtain ⟨f, f0, f1, f2, f3⟩ := unhide HOW3; exact ⟨f, f0, f1, by omega, f3⟩)
      have HD3 := hide ((unhide HD).below b3_)
      have HRA := hide ra.1
      clear ra bb hs3 HA HD b3_ hb hx tx tz hu how HOO HOW3
      refine wp_region_noPanic ?_
      refine wp_region_held_drew (S := fun w' => w'.cell? ⟨w.heap.size, 0, none⟩ = some (.slice (some ⟨g, 0, none⟩) n c) ∧ w'.rangeAt wr.heap.size 0 (cl m p)) (by kernel_rfl) (⟨(unhide HX3).1, unhide HRA⟩) (fun hHeld => ?_)
      refine Rg.t 0 17 ?_
      refine Rg.t 1 18 ?_
      refine Rg.t 2 19 ?_
      refine Rg.t (v := .agg (cl m p).toArray) 3 20 ?_ (hv := fun w0 hSw => execI _ rfl rfl hSw.2)
      (refine Rg.o 4 (fun K hK => ?_); go_simp)
      refine (coreN m p _ (unhide HO) ((unhide HD3).drew)).mono ?_
      rintro e w4 ⟨q, rfl, b4_, ho⟩
      have b4 : Below w3.heap.size w3 w4 := (Below.refl _ _).drew.trans b4_
      have HB4 := hide ((unhide HB3).trans (b4.mono (unhide HB3).size))
      have HX4 := hide ((unhide HX3).below b4)
      have TX4 := hide (there_under (unhide TX3) b4 (unhide HX3).lt)
      have TZ4 := hide (there_under (unhide TZ3) b4 (by omega))
      have HU4 := hide ((unhide HU3).under b4 (by omega))
      have HOL4 := hide (fun i h1 h2 => rng_under (unhide HOL3 i h1 h2) b4 (by omega))
      have HRA4 := hide (rng_under (unhide HRA) b4 (by omega))
      have HOW4 := hide (unhide HSO w3 w4 (unhide HOW3b) b4 q ho)
      have hs5 := b4.size
      clear HB3 HX3 TX3 TZ3 HU3 HOL3 HRA HOW3b HSO HD3 b4_ b4 ho
      refine hK.out _ _ (⟨(unhide HX4).1, unhide HRA4⟩) (fun hHeld => ?_)
      clear hK K
      (try simp only [Act.put, List.setIfInBounds_toArray, List.set_cons_zero, List.set_cons_succ])
      refine Rg.t (v := .agg (cl m q).toArray) 5 22 ?_ (hv := fun w0 hSw => execFld _ rfl rfl)
      refine Rg.t 6 23 ?_
      (refine Rg.o 7 (fun K hK => ?_); rw [if_pos (by rfl)])
      have HT4 := hide (there_part (o := j * 13) (k := 13) (unhide HU4).2 (by omega))
      refine wp_storeN (m := m) (p := q) _ _ rfl (unhide HT4) rfl rfl ?_
      intro w5 hw5
      have ho5 : ∀ x, x ≠ g → w5.heap[x]? = w4.heap[x]? := fun x hx => by rw [hw5]; exact heap_cells hx _ _ _
      have hs6 : w5.heap.size = w4.heap.size := by rw [hw5]; exact size_cells _ _ _
      have HB5 : Hid (Below w.heap.size w w5) := hide (by rw [hw5]; exact below_cells (b := g) (by omega) (cl m q) (j * 13) w4 (unhide HB4))
      have HX5 := hide ((unhide HX4).but (ho5 _ (by omega)))
      have TX5 := hide (there_blk (unhide TX4) (ho5 _ (by omega)))
      have TZ5 := hide (there_blk (unhide TZ4) (ho5 _ (by omega)))
      have HU5 : Hid (UpN w5 g n (j + 1) ms (qs ++ [q])) := hide (by rw [hw5]; exact unhide HST w4 (unhide HU4) q)
      have HOL5 : Hid (∀ i, j + 1 ≤ i → i < n → w5.rangeAt g (i * 13) (cl (ms.getD i Rm.zero) (ps.getD i Pl.zero))) := hide (fun i h1 h2 => by rw [hw5]; exact World.rangeAt_setCells_apart (unhide HOL4 i h1 h2) _ _ _ (.inr (.inr (by rw [cl_len]; omega))))
      have HOW5 : Hid (OwN w5 V2.heap.size w5.heap.size (j + 1) ms (qs ++ [q])) := hide (by
        have := (unhide HOW4).but (w' := w5) (Lo := g) (Hi := g + 1) (by omega) (fun k hk h => ho5 k (by omega)) (.inr (by omega))
        rw [hs6]; exact this)
      have HRA5 := hide (rng_blk (unhide HRA4) (ho5 _ (by omega)))
      clear HB4 HX4 TX4 TZ4 HU4 HOL4 HOW4 HRA4 HT4 HST ho5 hw5 hHeld
      refine hK.out _ _ (⟨(unhide HX5).1, unhide HRA5⟩) (fun hHeld => ?_)
      clear hK K
      (try simp only [Act.put, List.setIfInBounds_toArray, List.set_cons_zero, List.set_cons_succ])
      refine wpAnyH_done (by kernel_rfl) (NoPanic.normal ?_) _
      clear hHeld
      go_wp2_with fail
      go_roundw
      case rel => exact ⟨j + 1, by omega, by go_num, qs ++ [q], by rw [List.length_append, unhide HQL]; rfl, HB5, hide (by omega), HX5, TX5, TZ5, HU5, HOL5, HOW5⟩
      case measure => simp [intOf]; omega
    · obtain rfl : n = j := by omega
      have hsw := unhide hsz
      have hsl := (unhide hx).lt
      clear hold hsz
      obtain ⟨V4, hV4⟩ : ∃ V, wr = V := ⟨_, rfl⟩
      have HB4 := hb
      have HX4 := hx
      have TX4 := tx
      have TZ4 := tz
      have UR4 := hu
      have OR4 := how
      clear hb hx tx tz hu how
      rw [hV4] at HB4 HX4 TX4 TZ4 UR4 OR4 hsw hsl ⊢
      clear hV4
      obtain ⟨x0, x1, x2, x3⟩ := unhide HX4
      go_wp2_with fail
      clear x0 x1 x2 x3
      refine (copyIO b cs cb _ hc ((unhide HI).below (unhide HB4))).mono ?_
      rintro e V5 ⟨v, rfl, d5, lv, _⟩
      obtain ⟨b', cb', rfl, l5⟩ := lv
      have HB5 := hide ((unhide HB4).trans (d5.mono (unhide HB4).size))
      have hq5 := d5.size
      have HX5 := hide ((unhide HX4).below d5)
      have TX5 := hide (there_under (unhide TX4) d5 (unhide HX4).lt)
      have TZ5 := hide (there_under (unhide TZ4) d5 (by have := (unhide HX4).lt; omega))
      have UR5 := hide ((unhide UR4).under d5 (by omega))
      have OR5 := hide ((unhide OR4).below d5)
      have UI5 := hide l5
      clear HX4 TX4 TZ4 UR4 OR4 l5 d5
      obtain ⟨V6, hV6⟩ : ∃ V, (V5.setCell ⟨w.heap.size, 1, none⟩ (.slice b' cs.length cb')) = V := ⟨_, rfl⟩
      have HB6 : Hid (Below w.heap.size w V6) := hide (by rw [← hV6]; exact (unhide HB5).setCell (p := ⟨w.heap.size, 1, none⟩) (Nat.le_refl _) _)
      have HX6 := hide (show NB V6 w.heap.size _ _ _ _ by rw [← hV6]; exact (unhide HX5).set1 (.slice b' cs.length cb'))
      have TX6 : Hid (V6.there w.heap.size 0 4) := hide (by rw [← hV6]; exact there_at (unhide TX5))
      have TZ6 : Hid (V6.there (w.heap.size + 1) 0 4) := hide (by rw [← hV6]; exact there_at (unhide TZ5))
      have hq6 : V6.heap.size = V5.heap.size := by rw [← hV6]; simp [World.setCell]
      have ho6 : ∀ x, x ≠ w.heap.size → V6.heap[x]? = V5.heap[x]? := fun x hx => by rw [← hV6]; exact Below.heap_setCell _ _ _ _ hx
      have UR6 := hide ((unhide UR5).block (ho6 g (by omega)))
      have OR6 := hide ((unhide OR5).but (Lo := w.heap.size) (Hi := w.heap.size + 1) (by omega) (fun k hk e => ho6 k (by omega)) (by omega))
      have UI6 := hide ((unhide UI5).but (p := fun k => k ≠ w.heap.size) (by omega) (fun k hk e => ho6 k e) (fun k h1 h2 => by omega))
      have HV6 := hide hV6
      clear hV6 ho6
      have f1 := free_at (unhide TX5) (k := 1) (by omega)
      obtain ⟨x0, x1, x2, x3⟩ := unhide HX5
      go_wp2_with fail
      rw [unhide HV6]
      clear f1 x0 x1 x2 x3 HX5 TX5 TZ5 UR5 OR5 UI5 HB5
      refine (copyFO d fs cd _ hf ((unhide HF).below (unhide HB6))).mono ?_
      rintro e V7 ⟨v, rfl, d7, lv, OF7⟩
      obtain ⟨d', cd', rfl, l7⟩ := lv
      have hof7 := (unhide OF7).lt
      have HB7 := hide ((unhide HB6).trans (d7.mono (unhide HB6).size))
      have hq7 := d7.size
      have HX7 := hide ((unhide HX6).below d7)
      have TX7 := hide (there_under (unhide TX6) d7 (unhide HX6).lt)
      have TZ7 := hide (there_under (unhide TZ6) d7 (by have := (unhide HX6).lt; omega))
      have UR7 := hide ((unhide UR6).under d7 (by omega))
      have OR7 := hide ((unhide OR6).below d7)
      have UI7 := hide ((unhide UI6).below d7)
      have UF7 := hide l7
      clear HX6 TX6 TZ6 UR6 OR6 UI6 l7 d7 HB6
      obtain ⟨V8, hV8⟩ : ∃ V, (V7.setCell ⟨w.heap.size, 2, none⟩ (.slice d' fs.length cd')) = V := ⟨_, rfl⟩
      have HB8 : Hid (Below w.heap.size w V8) := hide (by rw [← hV8]; exact (unhide HB7).setCell (p := ⟨w.heap.size, 2, none⟩) (Nat.le_refl _) _)
      have HX8 := hide (show NB V8 w.heap.size _ _ _ _ by rw [← hV8]; exact (unhide HX7).set2 (.slice d' fs.length cd'))
      have TX8 : Hid (V8.there w.heap.size 0 4) := hide (by rw [← hV8]; exact there_at (unhide TX7))
      have TZ8 : Hid (V8.there (w.heap.size + 1) 0 4) := hide (by rw [← hV8]; exact there_at (unhide TZ7))
      have hq8 : V8.heap.size = V7.heap.size := by rw [← hV8]; simp [World.setCell]
      have ho8 : ∀ x, x ≠ w.heap.size → V8.heap[x]? = V7.heap[x]? := fun x hx => by rw [← hV8]; exact Below.heap_setCell _ _ _ _ hx
      have UR8 := hide ((unhide UR7).block (ho8 g (by omega)))
      have OR8 := hide ((unhide OR7).but (Lo := w.heap.size) (Hi := w.heap.size + 1) (by omega) (fun k hk e => ho8 k (by omega)) (by omega))
      have UI8 := hide ((unhide UI7).but (p := fun k => k ≠ w.heap.size) (by omega) (fun k hk e => ho8 k e) (fun k h1 h2 => by omega))
      have UF8 := hide ((unhide UF7).but (p := fun k => k ≠ w.heap.size) (by omega) (fun k hk e => ho8 k e) (fun k h1 h2 => by omega))
      have OF8 := hide (own_blk (unhide OF7) (fun g e => ho8 g (by have := hof7 g e; omega)))
      have HV8 := hide hV8
      clear hV8 ho8
      have f2 := free_at (unhide TX7) (k := 2) (by omega)
      obtain ⟨x0, x1, x2, x3⟩ := unhide HX7
      go_upto_region 9 with fail
      rw [unhide HV8]
      clear f2 x0 x1 x2 x3 HX7 TX7 TZ7 UR7 OR7 UI7 UF7 HB7 OF7
      obtain ⟨o0, o1, o2, o3⟩ := unhide HX8
      go_wp2_with (refine storeNB _ _ rfl rfl rfl rfl rfl (unhide TZ8) rfl rfl ?_; intro V9 n9 t9 bb9 s9 k9)
      clear o0 o1 o2 o3 t9
      refine bodyPost_ret (v := .agg #[(.slice (some ⟨g, 0, none⟩) n c), .slice b' cs.length cb', .slice d' fs.length cd', .int .i64 t]) (resultsN rfl _ _ rfl n9) rfl ⟨some ⟨g, 0, none⟩, b', d', c, cb', cd', qs, rfl, bb9 _ _ (unhide HB8) (by omega), ?_, hide ⟨V6.heap.size, by omega, by omega, ?_, own_blk (unhide OF8) (fun g e => k9 g (by have := hof7 g e; omega))⟩⟩
      · refine mt_of (p := V2.heap.size) (q := V4.heap.size) (p2 := V4.heap.size) (q2 := V5.heap.size) (p3 := V6.heap.size) (q3 := V7.heap.size) (unhide HN) (by omega) (by omega) (by omega) (Nat.le_refl _) (by omega) (by omega) (by omega) (by omega) (by omega) ((unhide UR8).block (k9 g (by omega))) ((unhide OR8).but (Lo := w.heap.size + 1) (Hi := w.heap.size + 2) (by omega) (fun k hk e => k9 k (by omega)) (by omega)) ?_ ?_
        · exact (unhide UI8).but (p := fun k => k ≠ w.heap.size + 1) (by omega) (fun k hk e => k9 k e) (fun k h1 h2 => by omega)
        · exact (unhide UF8).but (p := fun k => k ≠ w.heap.size + 1) (by omega) (fun k hk e => k9 k e) (fun k h1 h2 => by omega)
      · refine mt_of (p := V2.heap.size) (q := V4.heap.size) (p2 := V4.heap.size) (q2 := V5.heap.size) (p3 := V6.heap.size) (q3 := V6.heap.size) (unhide HN) (by omega) (by omega) (by omega) (Nat.le_refl _) (by omega) (by omega) (Nat.le_refl _) (Nat.le_refl _) (by omega) ((unhide UR8).block (k9 g (by omega))) ((unhide OR8).but (Lo := w.heap.size + 1) (Hi := w.heap.size + 2) (by omega) (fun k hk e => k9 k (by omega)) (by omega)) ?_ (.inl rfl)
        exact (unhide UI8).but (p := fun k => k ≠ w.heap.size + 1) (by omega) (fun k hk e => k9 k e) (fun k h1 h2 => by omega)
end Nt
end Go.Proofs.YthfcigfgpimimaaGreat
namespace Go.Proofs.YthfcigfgpimimaaGreat
open Go.ChangeShapes Go.WideShapes Go.ChangeAt Go.RowKit
set_option linter.unusedVariables false
set_option linter.unusedSimpArgs false
set_option maxRecDepth 100000
attribute [local go_sem ↓] Go.wp_at_zero Go.wp_at_succ
namespace Rt
open W1
/-- Two intervals that have nothing in common. -/
def Dj (p q r s : Nat) : Prop := q ≤ r ∨ s ≤ p
/-- An interval without blocks of a kind. -/
def Fr (p q : Nat) (X : Nat → Prop) : Prop := ∀ k, p ≤ k → k < q → ¬ X k
/-- Seven lists in intervals of their own, which have none of the blocks X. -/
def Sev (W : World) (lo hi : Nat) (X : Nat → Prop) (a1 a2 a3 a4 a5 a6 a7 : Option Addr) (ls : List Lk.R) (tw : List Tu.R) (se : List Tu.R) (du : List Tu.R) (ss : List So.R) (es : List Tu.R) (la : List Ed.R) : Prop :=
  ∃ p1 q1 p2 q2 p3 q3 p4 q4 p5 q5 p6 q6 p7 q7 : Nat, ((lo ≤ p1 ∧ p1 ≤ q1 ∧ q1 ≤ hi) ∧ (lo ≤ p2 ∧ p2 ≤ q2 ∧ q2 ≤ hi) ∧ (lo ≤ p3 ∧ p3 ≤ q3 ∧ q3 ≤ hi) ∧ (lo ≤ p4 ∧ p4 ≤ q4 ∧ q4 ≤ hi) ∧ (lo ≤ p5 ∧ p5 ≤ q5 ∧ q5 ≤ hi) ∧ (lo ≤ p6 ∧ p6 ≤ q6 ∧ q6 ≤ hi) ∧ (lo ≤ p7 ∧ p7 ≤ q7 ∧ q7 ≤ hi)) ∧ (Dj p1 q1 p2 q2 ∧ Dj p1 q1 p3 q3 ∧ Dj p1 q1 p4 q4 ∧ Dj p1 q1 p5 q5 ∧ Dj p1 q1 p6 q6 ∧ Dj p1 q1 p7 q7 ∧ Dj p2 q2 p3 q3 ∧ Dj p2 q2 p4 q4 ∧ Dj p2 q2 p5 q5 ∧ Dj p2 q2 p6 q6 ∧ Dj p2 q2 p7 q7 ∧ Dj p3 q3 p4 q4 ∧ Dj p3 q3 p5 q5 ∧ Dj p3 q3 p6 q6 ∧ Dj p3 q3 p7 q7 ∧ Dj p4 q4 p5 q5 ∧ Dj p4 q4 p6 q6 ∧ Dj p4 q4 p7 q7 ∧ Dj p5 q5 p6 q6 ∧ Dj p5 q5 p7 q7 ∧ Dj p6 q6 p7 q7) ∧ (Fr p1 q1 X ∧ Fr p2 q2 X ∧ Fr p3 q3 X ∧ Fr p4 q4 X ∧ Fr p5 q5 X ∧ Fr p6 q6 X ∧ Fr p7 q7 X) ∧ Lk.Lst W a1 (ls) p1 q1 ∧ Tu.Lst W a2 (tw) p2 q2 ∧ Tu.Lst W a3 (se) p3 q3 ∧ Tu.Lst W a4 (du) p4 q4 ∧ So.Lst W a5 (ss) p5 q5 ∧ Tu.Lst W a6 (es) p6 q6 ∧ Ed.Lst W a7 (la) p7 q7
theorem Sev.below {W W' : World} {lo hi : Nat} {X : Nat → Prop} {a1 a2 a3 a4 a5 a6 a7 : Option Addr} {ls : List Lk.R} {tw : List Tu.R} {se : List Tu.R} {du : List Tu.R} {ss : List So.R} {es : List Tu.R} {la : List Ed.R} (h : Sev W lo hi X a1 a2 a3 a4 a5 a6 a7 ls tw se du ss es la) (hb : Below W.heap.size W W') : Sev W' lo hi X a1 a2 a3 a4 a5 a6 a7 ls tw se du ss es la := by
  obtain ⟨p1, q1, p2, q2, p3, q3, p4, q4, p5, q5, p6, q6, p7, q7, ⟨⟨u1, v1, w1⟩, ⟨u2, v2, w2⟩, ⟨u3, v3, w3⟩, ⟨u4, v4, w4⟩, ⟨u5, v5, w5⟩, ⟨u6, v6, w6⟩, ⟨u7, v7, w7⟩⟩, ⟨d12, d13, d14, d15, d16, d17, d23, d24, d25, d26, d27, d34, d35, d36, d37, d45, d46, d47, d56, d57, d67⟩, ⟨xx1, xx2, xx3, xx4, xx5, xx6, xx7⟩, h1, h2, h3, h4, h5, h6, h7⟩ := h
  exact ⟨p1, q1, p2, q2, p3, q3, p4, q4, p5, q5, p6, q6, p7, q7, ⟨⟨u1, v1, w1⟩, ⟨u2, v2, w2⟩, ⟨u3, v3, w3⟩, ⟨u4, v4, w4⟩, ⟨u5, v5, w5⟩, ⟨u6, v6, w6⟩, ⟨u7, v7, w7⟩⟩, ⟨d12, d13, d14, d15, d16, d17, d23, d24, d25, d26, d27, d34, d35, d36, d37, d45, d46, d47, d56, d57, d67⟩, ⟨xx1, xx2, xx3, xx4, xx5, xx6, xx7⟩, h1.below hb, h2.below hb, h3.below hb, h4.below hb, h5.below hb, h6.below hb, h7.below hb⟩
theorem Sev.mono {W : World} {lo hi lo' hi' : Nat} {X : Nat → Prop} {a1 a2 a3 a4 a5 a6 a7 : Option Addr} {ls : List Lk.R} {tw : List Tu.R} {se : List Tu.R} {du : List Tu.R} {ss : List So.R} {es : List Tu.R} {la : List Ed.R} (h : Sev W lo hi X a1 a2 a3 a4 a5 a6 a7 ls tw se du ss es la) (hl : lo' ≤ lo) (hh : hi ≤ hi') : Sev W lo' hi' X a1 a2 a3 a4 a5 a6 a7 ls tw se du ss es la := by
  obtain ⟨p1, q1, p2, q2, p3, q3, p4, q4, p5, q5, p6, q6, p7, q7, ⟨⟨u1, v1, w1⟩, ⟨u2, v2, w2⟩, ⟨u3, v3, w3⟩, ⟨u4, v4, w4⟩, ⟨u5, v5, w5⟩, ⟨u6, v6, w6⟩, ⟨u7, v7, w7⟩⟩, ⟨d12, d13, d14, d15, d16, d17, d23, d24, d25, d26, d27, d34, d35, d36, d37, d45, d46, d47, d56, d57, d67⟩, ⟨xx1, xx2, xx3, xx4, xx5, xx6, xx7⟩, h1, h2, h3, h4, h5, h6, h7⟩ := h
  exact ⟨p1, q1, p2, q2, p3, q3, p4, q4, p5, q5, p6, q6, p7, q7, ⟨⟨Nat.le_trans hl u1, v1, Nat.le_trans w1 hh⟩, ⟨Nat.le_trans hl u2, v2, Nat.le_trans w2 hh⟩, ⟨Nat.le_trans hl u3, v3, Nat.le_trans w3 hh⟩, ⟨Nat.le_trans hl u4, v4, Nat.le_trans w4 hh⟩, ⟨Nat.le_trans hl u5, v5, Nat.le_trans w5 hh⟩, ⟨Nat.le_trans hl u6, v6, Nat.le_trans w6 hh⟩, ⟨Nat.le_trans hl u7, v7, Nat.le_trans w7 hh⟩⟩, ⟨d12, d13, d14, d15, d16, d17, d23, d24, d25, d26, d27, d34, d35, d36, d37, d45, d46, d47, d56, d57, d67⟩, ⟨xx1, xx2, xx3, xx4, xx5, xx6, xx7⟩, h1, h2, h3, h4, h5, h6, h7⟩
theorem Sev.but {W W' : World} {lo hi L H : Nat} {X : Nat → Prop} {a1 a2 a3 a4 a5 a6 a7 : Option Addr} {ls : List Lk.R} {tw : List Tu.R} {se : List Tu.R} {du : List Tu.R} {ss : List So.R} {es : List Tu.R} {la : List Ed.R} (h : Sev W lo hi X a1 a2 a3 a4 a5 a6 a7 ls tw se du ss es la) (hs : W.heap.size ≤ W'.heap.size) (hb : ∀ k, k < W.heap.size → (k < L ∨ H ≤ k) → W'.heap[k]? = W.heap[k]?) (hd : hi ≤ L ∨ H ≤ lo) : Sev W' lo hi X a1 a2 a3 a4 a5 a6 a7 ls tw se du ss es la := by
  obtain ⟨p1, q1, p2, q2, p3, q3, p4, q4, p5, q5, p6, q6, p7, q7, ⟨⟨u1, v1, w1⟩, ⟨u2, v2, w2⟩, ⟨u3, v3, w3⟩, ⟨u4, v4, w4⟩, ⟨u5, v5, w5⟩, ⟨u6, v6, w6⟩, ⟨u7, v7, w7⟩⟩, ⟨d12, d13, d14, d15, d16, d17, d23, d24, d25, d26, d27, d34, d35, d36, d37, d45, d46, d47, d56, d57, d67⟩, ⟨xx1, xx2, xx3, xx4, xx5, xx6, xx7⟩, h1, h2, h3, h4, h5, h6, h7⟩ := h
  exact ⟨p1, q1, p2, q2, p3, q3, p4, q4, p5, q5, p6, q6, p7, q7, ⟨⟨u1, v1, w1⟩, ⟨u2, v2, w2⟩, ⟨u3, v3, w3⟩, ⟨u4, v4, w4⟩, ⟨u5, v5, w5⟩, ⟨u6, v6, w6⟩, ⟨u7, v7, w7⟩⟩, ⟨d12, d13, d14, d15, d16, d17, d23, d24, d25, d26, d27, d34, d35, d36, d37, d45, d46, d47, d56, d57, d67⟩, ⟨xx1, xx2, xx3, xx4, xx5, xx6, xx7⟩, h1.but (p := fun k => k < L ∨ H ≤ k) hs (fun k hk h => hb k hk h) (fun k h1 h2 => by omega), h2.but (p := fun k => k < L ∨ H ≤ k) hs (fun k hk h => hb k hk h) (fun k h1 h2 => by omega), h3.but (p := fun k => k < L ∨ H ≤ k) hs (fun k hk h => hb k hk h) (fun k h1 h2 => by omega), h4.but (p := fun k => k < L ∨ H ≤ k) hs (fun k hk h => hb k hk h) (fun k h1 h2 => by omega), h5.but (p := fun k => k < L ∨ H ≤ k) hs (fun k hk h => hb k hk h) (fun k h1 h2 => by omega), h6.but (p := fun k => k < L ∨ H ≤ k) hs (fun k hk h => hb k hk h) (fun k h1 h2 => by omega), h7.but (p := fun k => k < L ∨ H ≤ k) hs (fun k hk h => hb k hk h) (fun k h1 h2 => by omega)⟩
/-- What happens in those blocks leaves them alone. -/
theorem Sev.butX {W W' : World} {lo hi : Nat} {X : Nat → Prop} {a1 a2 a3 a4 a5 a6 a7 : Option Addr} {ls : List Lk.R} {tw : List Tu.R} {se : List Tu.R} {du : List Tu.R} {ss : List So.R} {es : List Tu.R} {la : List Ed.R} (h : Sev W lo hi X a1 a2 a3 a4 a5 a6 a7 ls tw se du ss es la) (hs : W.heap.size ≤ W'.heap.size) (hb : ∀ k, k < W.heap.size → ¬ X k → W'.heap[k]? = W.heap[k]?) : Sev W' lo hi X a1 a2 a3 a4 a5 a6 a7 ls tw se du ss es la := by
  obtain ⟨p1, q1, p2, q2, p3, q3, p4, q4, p5, q5, p6, q6, p7, q7, ⟨⟨u1, v1, w1⟩, ⟨u2, v2, w2⟩, ⟨u3, v3, w3⟩, ⟨u4, v4, w4⟩, ⟨u5, v5, w5⟩, ⟨u6, v6, w6⟩, ⟨u7, v7, w7⟩⟩, ⟨d12, d13, d14, d15, d16, d17, d23, d24, d25, d26, d27, d34, d35, d36, d37, d45, d46, d47, d56, d57, d67⟩, ⟨xx1, xx2, xx3, xx4, xx5, xx6, xx7⟩, h1, h2, h3, h4, h5, h6, h7⟩ := h
  exact ⟨p1, q1, p2, q2, p3, q3, p4, q4, p5, q5, p6, q6, p7, q7, ⟨⟨u1, v1, w1⟩, ⟨u2, v2, w2⟩, ⟨u3, v3, w3⟩, ⟨u4, v4, w4⟩, ⟨u5, v5, w5⟩, ⟨u6, v6, w6⟩, ⟨u7, v7, w7⟩⟩, ⟨d12, d13, d14, d15, d16, d17, d23, d24, d25, d26, d27, d34, d35, d36, d37, d45, d46, d47, d56, d57, d67⟩, ⟨xx1, xx2, xx3, xx4, xx5, xx6, xx7⟩, h1.but (p := fun k => ¬ X k) hs (fun k hk h => hb k hk h) xx1, h2.but (p := fun k => ¬ X k) hs (fun k hk h => hb k hk h) xx2, h3.but (p := fun k => ¬ X k) hs (fun k hk h => hb k hk h) xx3, h4.but (p := fun k => ¬ X k) hs (fun k hk h => hb k hk h) xx4, h5.but (p := fun k => ¬ X k) hs (fun k hk h => hb k hk h) xx5, h6.but (p := fun k => ¬ X k) hs (fun k hk h => hb k hk h) xx6, h7.but (p := fun k => ¬ X k) hs (fun k hk h => hb k hk h) xx7⟩
theorem Sev.set {W : World} {lo hi : Nat} {X : Nat → Prop} {a1 a2 a3 a4 a5 a6 a7 : Option Addr} {ls : List Lk.R} {tw : List Tu.R} {se : List Tu.R} {du : List Tu.R} {ss : List So.R} {es : List Tu.R} {la : List Ed.R} (h : Sev W lo hi X a1 a2 a3 a4 a5 a6 a7 ls tw se du ss es la) {a : Addr} (v : Value) (h1 : X a.block) : Sev (W.setCell a v) lo hi X a1 a2 a3 a4 a5 a6 a7 ls tw se du ss es la :=
  h.butX (by simp [World.setCell]) (fun k _ hk => Below.heap_setCell _ _ _ _ (fun e => hk (e ▸ h1)))
theorem Sev.of {W : World} {lo hi : Nat} {X : Nat → Prop} {a1 a2 a3 a4 a5 a6 a7 : Option Addr} {ls : List Lk.R} {tw : List Tu.R} {se : List Tu.R} {du : List Tu.R} {ss : List So.R} {es : List Tu.R} {la : List Ed.R} (h : RL W lo hi a1 a2 a3 a4 a5 a6 a7 ls tw se du ss es la) (hd : ∀ k, X k → hi ≤ k ∨ k < lo) : Sev W lo hi X a1 a2 a3 a4 a5 a6 a7 ls tw se du ss es la := by
  obtain ⟨b1, b2, b3, b4, b5, b6, ⟨o0, o1, o2, o3, o4, o5, o6⟩, h1, h2, h3, h4, h5, h6, h7⟩ := h
  exact ⟨lo, b1, b1, b2, b2, b3, b3, b4, b4, b5, b5, b6, b6, hi, ⟨⟨by omega, by omega, by omega⟩, ⟨by omega, by omega, by omega⟩, ⟨by omega, by omega, by omega⟩, ⟨by omega, by omega, by omega⟩, ⟨by omega, by omega, by omega⟩, ⟨by omega, by omega, by omega⟩, ⟨by omega, by omega, by omega⟩⟩, ⟨(by unfold Dj; omega), (by unfold Dj; omega), (by unfold Dj; omega), (by unfold Dj; omega), (by unfold Dj; omega), (by unfold Dj; omega), (by unfold Dj; omega), (by unfold Dj; omega), (by unfold Dj; omega), (by unfold Dj; omega), (by unfold Dj; omega), (by unfold Dj; omega), (by unfold Dj; omega), (by unfold Dj; omega), (by unfold Dj; omega), (by unfold Dj; omega), (by unfold Dj; omega), (by unfold Dj; omega), (by unfold Dj; omega), (by unfold Dj; omega), (by unfold Dj; omega)⟩, ⟨(fun k h1 h2 hx => by have := hd k hx; omega), (fun k h1 h2 hx => by have := hd k hx; omega), (fun k h1 h2 hx => by have := hd k hx; omega), (fun k h1 h2 hx => by have := hd k hx; omega), (fun k h1 h2 hx => by have := hd k hx; omega), (fun k h1 h2 hx => by have := hd k hx; omega), (fun k h1 h2 hx => by have := hd k hx; omega)⟩, h1, h2, h3, h4, h5, h6, h7⟩
theorem Sev.r1 {W : World} {lo hi : Nat} {X : Nat → Prop} {a1 a2 a3 a4 a5 a6 a7 : Option Addr} {ls : List Lk.R} {tw : List Tu.R} {se : List Tu.R} {du : List Tu.R} {ss : List So.R} {es : List Tu.R} {la : List Ed.R} (h : Sev W lo hi X a1 a2 a3 a4 a5 a6 a7 ls tw se du ss es la) : Lk.RM W a1 ls := by obtain ⟨p1, q1, p2, q2, p3, q3, p4, q4, p5, q5, p6, q6, p7, q7, ⟨⟨u1, v1, w1⟩, ⟨u2, v2, w2⟩, ⟨u3, v3, w3⟩, ⟨u4, v4, w4⟩, ⟨u5, v5, w5⟩, ⟨u6, v6, w6⟩, ⟨u7, v7, w7⟩⟩, ⟨d12, d13, d14, d15, d16, d17, d23, d24, d25, d26, d27, d34, d35, d36, d37, d45, d46, d47, d56, d57, d67⟩, ⟨xx1, xx2, xx3, xx4, xx5, xx6, xx7⟩, h1, h2, h3, h4, h5, h6, h7⟩ := h; exact h1.rm
theorem Sev.r2 {W : World} {lo hi : Nat} {X : Nat → Prop} {a1 a2 a3 a4 a5 a6 a7 : Option Addr} {ls : List Lk.R} {tw : List Tu.R} {se : List Tu.R} {du : List Tu.R} {ss : List So.R} {es : List Tu.R} {la : List Ed.R} (h : Sev W lo hi X a1 a2 a3 a4 a5 a6 a7 ls tw se du ss es la) : Tu.RM W a2 tw := by obtain ⟨p1, q1, p2, q2, p3, q3, p4, q4, p5, q5, p6, q6, p7, q7, ⟨⟨u1, v1, w1⟩, ⟨u2, v2, w2⟩, ⟨u3, v3, w3⟩, ⟨u4, v4, w4⟩, ⟨u5, v5, w5⟩, ⟨u6, v6, w6⟩, ⟨u7, v7, w7⟩⟩, ⟨d12, d13, d14, d15, d16, d17, d23, d24, d25, d26, d27, d34, d35, d36, d37, d45, d46, d47, d56, d57, d67⟩, ⟨xx1, xx2, xx3, xx4, xx5, xx6, xx7⟩, h1, h2, h3, h4, h5, h6, h7⟩ := h; exact h2.rm
theorem Sev.r3 {W : World} {lo hi : Nat} {X : Nat → Prop} {a1 a2 a3 a4 a5 a6 a7 : Option Addr} {ls : List Lk.R} {tw : List Tu.R} {se : List Tu.R} {du : List Tu.R} {ss : List So.R} {es : List Tu.R} {la : List Ed.R} (h : Sev W lo hi X a1 a2 a3 a4 a5 a6 a7 ls tw se du ss es la) : Tu.RM W a3 se := by obtain ⟨p1, q1, p2, q2, p3, q3, p4, q4, p5, q5, p6, q6, p7, q7, ⟨⟨u1, v1, w1⟩, ⟨u2, v2, w2⟩, ⟨u3, v3, w3⟩, ⟨u4, v4, w4⟩, ⟨u5, v5, w5⟩, ⟨u6, v6, w6⟩, ⟨u7, v7, w7⟩⟩, ⟨d12, d13, d14, d15, d16, d17, d23, d24, d25, d26, d27, d34, d35, d36, d37, d45, d46, d47, d56, d57, d67⟩, ⟨xx1, xx2, xx3, xx4, xx5, xx6, xx7⟩, h1, h2, h3, h4, h5, h6, h7⟩ := h; exact h3.rm
theorem Sev.r4 {W : World} {lo hi : Nat} {X : Nat → Prop} {a1 a2 a3 a4 a5 a6 a7 : Option Addr} {ls : List Lk.R} {tw : List Tu.R} {se : List Tu.R} {du : List Tu.R} {ss : List So.R} {es : List Tu.R} {la : List Ed.R} (h : Sev W lo hi X a1 a2 a3 a4 a5 a6 a7 ls tw se du ss es la) : Tu.RM W a4 du := by obtain ⟨p1, q1, p2, q2, p3, q3, p4, q4, p5, q5, p6, q6, p7, q7, ⟨⟨u1, v1, w1⟩, ⟨u2, v2, w2⟩, ⟨u3, v3, w3⟩, ⟨u4, v4, w4⟩, ⟨u5, v5, w5⟩, ⟨u6, v6, w6⟩, ⟨u7, v7, w7⟩⟩, ⟨d12, d13, d14, d15, d16, d17, d23, d24, d25, d26, d27, d34, d35, d36, d37, d45, d46, d47, d56, d57, d67⟩, ⟨xx1, xx2, xx3, xx4, xx5, xx6, xx7⟩, h1, h2, h3, h4, h5, h6, h7⟩ := h; exact h4.rm
theorem Sev.r5 {W : World} {lo hi : Nat} {X : Nat → Prop} {a1 a2 a3 a4 a5 a6 a7 : Option Addr} {ls : List Lk.R} {tw : List Tu.R} {se : List Tu.R} {du : List Tu.R} {ss : List So.R} {es : List Tu.R} {la : List Ed.R} (h : Sev W lo hi X a1 a2 a3 a4 a5 a6 a7 ls tw se du ss es la) : So.RM W a5 ss := by obtain ⟨p1, q1, p2, q2, p3, q3, p4, q4, p5, q5, p6, q6, p7, q7, ⟨⟨u1, v1, w1⟩, ⟨u2, v2, w2⟩, ⟨u3, v3, w3⟩, ⟨u4, v4, w4⟩, ⟨u5, v5, w5⟩, ⟨u6, v6, w6⟩, ⟨u7, v7, w7⟩⟩, ⟨d12, d13, d14, d15, d16, d17, d23, d24, d25, d26, d27, d34, d35, d36, d37, d45, d46, d47, d56, d57, d67⟩, ⟨xx1, xx2, xx3, xx4, xx5, xx6, xx7⟩, h1, h2, h3, h4, h5, h6, h7⟩ := h; exact h5.rm
theorem Sev.r6 {W : World} {lo hi : Nat} {X : Nat → Prop} {a1 a2 a3 a4 a5 a6 a7 : Option Addr} {ls : List Lk.R} {tw : List Tu.R} {se : List Tu.R} {du : List Tu.R} {ss : List So.R} {es : List Tu.R} {la : List Ed.R} (h : Sev W lo hi X a1 a2 a3 a4 a5 a6 a7 ls tw se du ss es la) : Tu.RM W a6 es := by obtain ⟨p1, q1, p2, q2, p3, q3, p4, q4, p5, q5, p6, q6, p7, q7, ⟨⟨u1, v1, w1⟩, ⟨u2, v2, w2⟩, ⟨u3, v3, w3⟩, ⟨u4, v4, w4⟩, ⟨u5, v5, w5⟩, ⟨u6, v6, w6⟩, ⟨u7, v7, w7⟩⟩, ⟨d12, d13, d14, d15, d16, d17, d23, d24, d25, d26, d27, d34, d35, d36, d37, d45, d46, d47, d56, d57, d67⟩, ⟨xx1, xx2, xx3, xx4, xx5, xx6, xx7⟩, h1, h2, h3, h4, h5, h6, h7⟩ := h; exact h6.rm
theorem Sev.r7 {W : World} {lo hi : Nat} {X : Nat → Prop} {a1 a2 a3 a4 a5 a6 a7 : Option Addr} {ls : List Lk.R} {tw : List Tu.R} {se : List Tu.R} {du : List Tu.R} {ss : List So.R} {es : List Tu.R} {la : List Ed.R} (h : Sev W lo hi X a1 a2 a3 a4 a5 a6 a7 ls tw se du ss es la) : Ed.RM W a7 la := by obtain ⟨p1, q1, p2, q2, p3, q3, p4, q4, p5, q5, p6, q6, p7, q7, ⟨⟨u1, v1, w1⟩, ⟨u2, v2, w2⟩, ⟨u3, v3, w3⟩, ⟨u4, v4, w4⟩, ⟨u5, v5, w5⟩, ⟨u6, v6, w6⟩, ⟨u7, v7, w7⟩⟩, ⟨d12, d13, d14, d15, d16, d17, d23, d24, d25, d26, d27, d34, d35, d36, d37, d45, d46, d47, d56, d57, d67⟩, ⟨xx1, xx2, xx3, xx4, xx5, xx6, xx7⟩, h1, h2, h3, h4, h5, h6, h7⟩ := h; exact h7.rm
end Rt
end Go.Proofs.YthfcigfgpimimaaGreat
namespace Go.Proofs.YthfcigfgpimimaaGreat
open Go.ChangeShapes Go.WideShapes Go.ChangeAt Go.RowKit
set_option linter.unusedVariables false
set_option linter.unusedSimpArgs false
attribute [local go_sem ↓] Go.wp_at_zero Go.wp_at_succ
namespace Ln
open W1 Lk
theorem l06Own (g off : Nat) (ms : List R) (cap n : Nat) (w : World) (hn : ms.length = n) (hm : ms.length ≤ 4096) (hr : RM w (some ⟨g, off, none⟩) ms) :
    Calls Tryz.prog 73 #[.slice (some ⟨g, off, none⟩) n cap] w fun e w' => ∃ v, e = .returned v ∧ Below w.heap.size w w' ∧ LstV w' v ms w.heap.size w'.heap.size := by
  have HR := hide (hr.below ((Below.refl _ _).alloc (Nat.le_refl _) (.cells #[] 103)))
  have O0 := hide (own_empty w w.heap.size (Nat.le_refl _))
  clear hr
  go_enter Tryz.func73, Tryz.ntmps73
  go_wp2_with (at_builtin; refine wpList_apS (unhide O0) g off n cap ms hn (unhide HR) (by simp; omega) (by simp) rfl _ _ rfl rfl rfl ?_; intro v' w' ho hg; have HL := hide (lst_own rfl ho); have HB := hide (below_own ((Below.refl _ _).alloc (Nat.le_refl _) _) (unhide O0) hg (Nat.le_refl _) (by simp)); clear ho hg)
  go_ret
  exact ⟨_, rfl, unhide HB, unhide HL⟩
end Ln
end Go.Proofs.YthfcigfgpimimaaGreat
