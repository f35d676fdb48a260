/-
  A drawn topology: a right one in memory of its own, whatever the source has.
-/
import Derived.Test.YtilphgfjgeoiaaaAdvUs
import Derived.Test.YtilphgfjgeoiaaaTopR
import Derived.Test.YtilphgfjgeoiaaaTopJ
namespace Go.Proofs.Ytilphgfjgeoiaaa
open Go.ChangeShapes Go.WideShapes Go.ChangeAt Go.RowKit
set_option linter.unusedVariables false
set_option linter.unusedSimpArgs false
set_option maxRecDepth 100000
attribute [local go_sem ↓] Go.wp_at_zero Go.wp_at_succ
namespace Tp
open W1 By Tu St Tw Sr
theorem reads_und {w w' : World} {a : Option Addr} {bs : List UInt8} (h : Reads w a bs) (hb : Below w.heap.size w w') : Reads w' a bs :=
  Sr.reads_of_cells h (fun e0 g off o e => hb.cell (p := ⟨g, o, none⟩) (Sr.reads_lt h e0 e))
theorem cells_end {w : World} {p : Nat} (h : (w.cell? ⟨p, 3, none⟩).isSome = false) {o : Nat} (ho : 3 ≤ o) : (w.cell? ⟨p, o, none⟩).isSome = false := by
  unfold World.cell? at *
  cases e : w.heap[p]? with
  | none => rfl
  | some x =>
    rw [e] at h
    cases x <;> simp_all
    all_goals omega
/-- A row of three numbers lies not in the source's block. -/
theorem src_row {w : World} {p : Nat} {a : Option Addr} {bs : List UInt8} {cap n : Nat} (h : Src w p a bs cap n) {o : Nat} {x y z : Int} (h0 : w.cell? ⟨p, o, none⟩ = some (.int .i64 x)) (h1 : w.cell? ⟨p, o + 1, none⟩ = some (.int .i64 y)) (h2 : w.cell? ⟨p, o + 2, none⟩ = some (.int .i64 z)) : False := by
  rcases Nat.eq_zero_or_pos o with e | e
  · subst e
    have := h.code
    rw [h0] at this
    cases this
  · have := cells_end h.top (o := o + 2) (by omega)
    rw [h2] at this
    cases this
theorem so_other {w w' : World} {p g o : Nat} {a : Option Addr} {bs : List UInt8} {cap n : Nat} {ss : List So.R} (hs : Src w p a bs cap n) (h : So.RM w (some ⟨g, o, none⟩) ss) (hg : w.grownBy w' (some p)) : So.RM w' (some ⟨g, o, none⟩) ss := by
  rcases h with h | ⟨g', o', e, h⟩
  · exact .inl h
  · cases e
    refine .inr ⟨g, o, rfl, fun i hi => ?_⟩
    obtain ⟨c0, c1, c2⟩ := h i hi
    have hne : g ≠ p := fun e => by subst e; exact src_row hs c0 c1 c2
    have hlt := World.block_lt_of_cell? _ _ c0
    have hb := hg.block g hlt (by simpa using hne)
    exact ⟨(World.cell?_of_block (a := ⟨g, _, none⟩) hb).trans c0, (World.cell?_of_block (a := ⟨g, _, none⟩) hb).trans c1, (World.cell?_of_block (a := ⟨g, _, none⟩) hb).trans c2⟩
theorem tu_other {w w' : World} {p g o : Nat} {a : Option Addr} {bs : List UInt8} {cap n : Nat} {ss : List R} (hs : Src w p a bs cap n) (h : Tu.RM w (some ⟨g, o, none⟩) ss) (hg : w.grownBy w' (some p)) : Tu.RM w' (some ⟨g, o, none⟩) ss := by
  rcases h with h | ⟨g', o', e, h⟩
  · exact .inl h
  · cases e
    refine .inr ⟨g, o, rfl, fun i hi => ?_⟩
    obtain ⟨c0, c1, c2⟩ := h i hi
    have hne : g ≠ p := fun e => by subst e; exact src_row hs c0 c1 c2
    have hlt := World.block_lt_of_cell? _ _ c0
    have hb := hg.block g hlt (by simpa using hne)
    exact ⟨(World.cell?_of_block (a := ⟨g, _, none⟩) hb).trans c0, (World.cell?_of_block (a := ⟨g, _, none⟩) hb).trans c1, (World.cell?_of_block (a := ⟨g, _, none⟩) hb).trans c2⟩
theorem tv_noint {w : World} {b : Nat} {a1 a2 : Option Addr} {n1 n2 c1 c2 : Nat} (h : TV w b (.slice a1 n1 c1) (.slice a2 n2 c2)) (o : Nat) (x : Int) : w.cell? ⟨b, o, none⟩ ≠ some (.int .i64 x) := by
  unfold TV at h
  intro e
  simp [World.cell?, h] at e
  match o with
  | 0 => simp at e
  | 1 => simp at e
  | o + 2 => simp at e
theorem so_butQ {w w' : World} {O g o : Nat} {ss : List So.R} (h : So.RM w (some ⟨g, o, none⟩) ss) (hg : w.grownBy w' (some O)) (hno : ∀ o x, w.cell? ⟨O, o, none⟩ ≠ some (.int .i64 x)) : So.RM w' (some ⟨g, o, none⟩) ss := by
  rcases h with h | ⟨g', o', e, h⟩
  · exact .inl h
  · cases e
    refine .inr ⟨g, o, rfl, fun i hi => ?_⟩
    obtain ⟨c0, c1, c2⟩ := h i hi
    have hne : g ≠ O := fun e => by subst e; exact hno _ _ c0
    have hlt := World.block_lt_of_cell? _ _ c0
    have hb := hg.block g hlt (by simpa using hne)
    exact ⟨(World.cell?_of_block (a := ⟨g, _, none⟩) hb).trans c0, (World.cell?_of_block (a := ⟨g, _, none⟩) hb).trans c1, (World.cell?_of_block (a := ⟨g, _, none⟩) hb).trans c2⟩
theorem tu_but {w w' : World} {O g o : Nat} {ss : List R} (h : Tu.RM w (some ⟨g, o, none⟩) ss) (hg : w.grownBy w' (some O)) (hno : ∀ o x, w.cell? ⟨O, o, none⟩ ≠ some (.int .i64 x)) : Tu.RM w' (some ⟨g, o, none⟩) ss := by
  rcases h with h | ⟨g', o', e, h⟩
  · exact .inl h
  · cases e
    refine .inr ⟨g, o, rfl, fun i hi => ?_⟩
    obtain ⟨c0, c1, c2⟩ := h i hi
    have hne : g ≠ O := fun e => by subst e; exact hno _ _ c0
    have hlt := World.block_lt_of_cell? _ _ c0
    have hb := hg.block g hlt (by simpa using hne)
    exact ⟨(World.cell?_of_block (a := ⟨g, _, none⟩) hb).trans c0, (World.cell?_of_block (a := ⟨g, _, none⟩) hb).trans c1, (World.cell?_of_block (a := ⟨g, _, none⟩) hb).trans c2⟩
theorem heap_set0 {w : World} {b : Nat} {x y : Int} {v : Value} (h : Av.HV w b x y v) (z : Int) : Av.HV (w.setCell ⟨b, 0, none⟩ (.int .i64 z)) b z y v := heap_set (.int .i64 z) h
theorem sHV {w : World} {b : Nat} {x y : Int} {v : Value} (h : Av.HV w b x y v) : Av.HV w b x y v ∧ w.cell? ⟨b, 0, none⟩ = some (.int .i64 x) ∧ w.cell? ⟨b, 1, none⟩ = some (.int .i64 y) ∧ w.cell? ⟨b, 2, none⟩ = some v := ⟨h, h.bx.1, h.bx.2.1, h.bx.2.2⟩
set_option maxHeartbeats 4000000 in
theorem drawTop (p : Nat) (a : Option Addr) (bs : List UInt8) (cap n : Nat) (w : World) (hn : n ≤ 1099511500000) (hm : bs.length ≤ 1099511627776) (hs : Src w p a bs cap n) :
    Calls Try.prog 22 #[.pointer (some ⟨p, 0, none⟩)] w fun e w' => ∃ (v : Value) (ss : List So.R) (es : List R) (g c h d : Nat), e = .returned v ∧ v = .agg #[.slice (some ⟨g, 0, none⟩) ss.length c, .slice (some ⟨h, 0, none⟩) es.length d] ∧ So.RM w' (some ⟨g, 0, none⟩) ss ∧ Tu.RM w' (some ⟨h, 0, none⟩) es ∧ topB ss es = true ∧ ss.length ≤ c ∧ w.grownBy w' (some p) := by
  have hp := Dw.src_lt hs
  have RL : Hid (bs ≠ [] → ∀ g off, a = some ⟨g, off, none⟩ → g < w.heap.size) := hide (fun e0 g off e => reads_lt hs.rd e0 e)
  have B0 : Hid (Below w.heap.size w ((((w.alloc (.cells #[.slice none 0 0, .slice none 0 0] 26)).alloc (.cells #[] 41)).alloc (.cells #[] 73)).alloc (.cells #[.slice (some ⟨w.heap.size + 1, 0, none⟩) 0 0, .slice (some ⟨w.heap.size + 2, 0, none⟩) 0 0] 26))) := hide (((((Below.refl _ _).alloc (Nat.le_refl _) _).alloc (by simp) _).alloc (by simp; omega) _).alloc (by simp; omega) _)
  have S0 := hide (Dw.src_below hs (unhide B0))
  have T0 : Hid (TV ((((w.alloc (.cells #[.slice none 0 0, .slice none 0 0] 26)).alloc (.cells #[] 41)).alloc (.cells #[] 73)).alloc (.cells #[.slice (some ⟨w.heap.size + 1, 0, none⟩) 0 0, .slice (some ⟨w.heap.size + 2, 0, none⟩) 0 0] 26)) w.heap.size (.slice none 0 0) (.slice none 0 0)) := hide ((((tv_new w _ _).below ((Below.refl _ _).alloc (Nat.le_refl _) _)).below ((Below.refl _ _).alloc (Nat.le_refl _) _)).below ((Below.refl _ _).alloc (Nat.le_refl _) _))
  have O0 : Hid (TV ((((w.alloc (.cells #[.slice none 0 0, .slice none 0 0] 26)).alloc (.cells #[] 41)).alloc (.cells #[] 73)).alloc (.cells #[.slice (some ⟨w.heap.size + 1, 0, none⟩) 0 0, .slice (some ⟨w.heap.size + 2, 0, none⟩) 0 0] 26)) (w.heap.size + 3) (.slice (some ⟨w.heap.size + 1, 0, none⟩) 0 0) (.slice (some ⟨w.heap.size + 2, 0, none⟩) 0 0)) := hide (by have := tv_new (((w.alloc (.cells #[.slice none 0 0, .slice none 0 0] 26)).alloc (.cells #[] 41)).alloc (.cells #[] 73)) (.slice (some ⟨w.heap.size + 1, 0, none⟩) 0 0) (.slice (some ⟨w.heap.size + 2, 0, none⟩) 0 0); rw [show (((w.alloc (.cells #[.slice none 0 0, .slice none 0 0] 26)).alloc (.cells #[] 41)).alloc (.cells #[] 73)).heap.size = w.heap.size + 3 by simp] at this; exact this)
  clear hs
  obtain ⟨W0, hW0⟩ : ∃ W0, (((w.alloc (.cells #[.slice none 0 0, .slice none 0 0] 26)).alloc (.cells #[] 41)).alloc (.cells #[] 73)).alloc (.cells #[.slice (some ⟨w.heap.size + 1, 0, none⟩) 0 0, .slice (some ⟨w.heap.size + 2, 0, none⟩) 0 0] 26) = W0 := ⟨_, rfl⟩
  rw [hW0] at B0 S0 T0 O0
  have HW0 := hide hW0
  clear hW0
  go_enter Try.func22, Try.ntmps22
  go_wp2_with fail
  rw [unhide HW0]
  refine (Sr.next p a bs cap n 7 _ (by omega) (by omega) (by omega) hm (unhide S0)).mono ?_
  rintro e w1 ⟨t, rfl, ht, wr1, s1⟩
  have S1 := hide s1
  have G1 := hide (Dw.but_trans (Dw.but_below (p := p) (unhide B0)) (Dw.but_wrote wr1))
  have T1 := hide ((unhide T0).grown (Dw.but_wrote wr1) (by intro e; cases e; omega))
  have O1 := hide ((unhide O0).grown (Dw.but_wrote wr1) (by intro e; cases e; omega))
  clear s1 wr1 S0 B0 T0 O0
  go_wp2_with fail
  go_loopw [4] (fun i wr => ∃ (j : Nat) (ss : List So.R) (es : List R) (g o c h q d : Nat), j ≤ t ∧ i = .int .i64 ((t - j : Nat) : Int) ∧ ss.length ≤ c ∧ Hid (topB ss es = true) ∧ Hid (TV wr (w.heap.size + 3) (.slice (some ⟨g, o, none⟩) ss.length c) (.slice (some ⟨h, q, none⟩) es.length d)) ∧ Hid (So.RM wr (some ⟨g, o, none⟩) ss) ∧ Hid (Tu.RM wr (some ⟨h, q, none⟩) es) ∧ Hid (w.grownBy wr (some p)) ∧ Hid (Src wr p a bs cap (n + 3 + 200 * j)) ∧ Hid (TV wr w.heap.size (.slice none 0 0) (.slice none 0 0))) (fun i _ => (intOf i).toNat)
  case atStart => exact ⟨0, [], [], w.heap.size + 1, 0, 0, w.heap.size + 2, 0, 0, by omega, by simp, by simp, hide rfl, O1, hide (.inl rfl), hide (.inl rfl), G1, S1, T1⟩
  case round =>
    obtain ⟨j, ss, es, g, o, c, h, q, d, hj, rfl, hsc, htop, hto, hrs, hre, hgr, hsr, htr⟩ := hrel
    by_cases hlt : (0 : Int) < ((t - j : Nat) : Int)
    · go_wp2_with fail
      refine (Av.drawTc p a bs cap (n + 3 + 200 * j) _ (by omega) hm (unhide hsr)).mono ?_
      rintro e w2 ⟨x, y, gx, ns, cx, rfl, htc, hlx, g2, s2⟩
      have R2 := hide (so_other (unhide hsr) (unhide hrs) g2)
      have E2 := hide (tu_other (unhide hsr) (unhide hre) g2)
      have G2 := hide (Dw.but_trans (unhide hgr) g2)
      have T2 := hide ((unhide hto).grown g2 (by intro e; cases e; omega))
      have Z2 := hide ((unhide htr).grown g2 (by intro e; cases e; omega))
      have S2 := hide s2
      have HTC := hide htc
      have HLX := hide hlx
      have hwr := (unhide hgr).size
      have hw2 := g2.size
      have hO2 := (unhide T2).lt
      clear g2 s2 htc hlx hrs hre hgr hto htr hsr
      have b3 : Below w2.heap.size w2 (w2.alloc (.cells #[.int .i64 x, .int .i64 y, .slice gx ns.length cx] 30)) := (Below.refl _ _).alloc (Nat.le_refl _) _
      have H3 : Hid (Av.HV (w2.alloc (.cells #[.int .i64 x, .int .i64 y, .slice gx ns.length cx] 30)) w2.heap.size x y (.slice gx ns.length cx)) := hide (Av.hv_new _ _ _ _)
      have S3 := hide (Dw.src_below (unhide S2) b3)
      obtain ⟨w3, hw3⟩ : ∃ w3, w2.alloc (.cells #[.int .i64 x, .int .i64 y, .slice gx ns.length cx] 30) = w3 := ⟨_, rfl⟩
      rw [hw3] at b3 H3 S3
      have HB3 := hide b3
      have HW3 := hide hw3
      clear b3 hw3
      go_wp2_with fail
      rw [unhide HW3]
      refine (Sr.next p a bs cap (n + 3 + 200 * j + 111) 4 _ (by omega) (by omega) (by omega) hm (unhide S3)).mono ?_
      rintro e w4 ⟨r, rfl, hr4, wr4, s4⟩
      have H4 := hide ((unhide H3).grown (Dw.but_wrote wr4) (by intro e; cases e; omega))
      have G4 := hide (Dw.but_trans (Dw.but_below (p := p) (unhide HB3)) (Dw.but_wrote wr4))
      have S4 := hide s4
      clear s4 wr4 S3 H3 HB3 HW3
      have G5 : Hid (w2.grownBy (w4.setCell ⟨w2.heap.size, 0, none⟩ (.int .i64 r)) (some p)) := hide (Dw.but_set (unhide G4) (Nat.le_refl _) 0 _)
      have H5 := hide (heap_set0 (unhide H4) (r : Int))
      have S5 : Hid (Src (w4.setCell ⟨w2.heap.size, 0, none⟩ (.int .i64 r)) p a bs cap (n + 3 + 200 * j + 111 + 3)) := hide (Dw.src_blocks (unhide S4) (Below.heap_setCell _ _ _ _ (by show p ≠ w2.heap.size; omega)) (fun e0 g off e => Below.heap_setCell _ _ _ _ (by have := unhide RL e0 g off e; show g ≠ w2.heap.size; omega)))
      have z4 := (unhide H4).free
      obtain ⟨y0, y1, y2⟩ := (unhide H4).bx
      go_wp2_with fail
      clear z4 y0 y1 y2
      generalize hw5 : w4.setCell ⟨w2.heap.size, 0, none⟩ (.int .i64 (r : Int)) = w5 at *
      clear hw5 H4 S4 G4
      have R5 := hide (so_other (unhide S2) (unhide R2) (unhide G5))
      have E5 := hide (tu_other (unhide S2) (unhide E2) (unhide G5))
      have T5 := hide ((unhide T2).grown (unhide G5) (by intro e; cases e; omega))
      have Z5 := hide ((unhide Z2).grown (unhide G5) (by intro e; cases e; omega))
      have N5 : Hid (Ed.Lst w5 gx ns wr.heap.size w2.heap.size) := hide ((unhide HLX).but (p := fun k => k ≠ p) (unhide G5).size (fun k hk hne => (unhide G5).block k hk (by simpa using hne)) (fun k h1 h2 => by omega))
      have W5 := hide (Dw.but_trans (unhide G2) (unhide G5))
      have hw5 := (unhide G5).size
      have HT5 : Hid (Av.tcB (r : Int) y ns = true) := hide (by have h1 := unhide HTC; unfold Av.tcB at h1 ⊢; rw [Bool.and_eq_true] at h1; rw [h1.2, Bool.and_true]; unfold inB; rw [decide_eq_true (by omega), decide_eq_true (by omega)]; rfl)
      clear R2 E2 T2 Z2 HLX G2 G5 HTC S2
      generalize hB5 : w2.heap.size = B5 at *
      clear hB5
      have hOp : (w.heap.size + 3) ≠ p := by omega
      have hBp : B5 ≠ p := by omega
      have hBO : B5 ≠ (w.heap.size + 3) := by omega
      refine wp_region_noPanic ?_
      refine Rl.drew (S := fun w' => Av.HV w' B5 (r : Int) y (.slice gx ns.length cx) ∧ w'.cell? ⟨B5, 0, none⟩ = some (.int .i64 (r : Int)) ∧ w'.cell? ⟨B5, 1, none⟩ = some (.int .i64 y) ∧ w'.cell? ⟨B5, 2, none⟩ = some (.slice gx ns.length cx)) (T := fun w' => TV w' (w.heap.size + 3) (.slice (some ⟨g, o, none⟩) ss.length c) (.slice (some ⟨h, q, none⟩) es.length d) ∧ w'.cell? ⟨(w.heap.size + 3), 0, none⟩ = some (.slice (some ⟨g, o, none⟩) ss.length c) ∧ w'.cell? ⟨(w.heap.size + 3), 1, none⟩ = some (.slice (some ⟨h, q, none⟩) es.length d)) 10 (by kernel_rfl) ⟨sHV (unhide H5).drew, sHT (unhide T5).drew⟩ (fun hHeld => ?_)

      (refine Rl.tk (k := 10) (i := 0) (d := 21) (v := ?_) rfl rfl (by kernel_rfl) (by kernel_rfl) (by kernel_rfl) (by kernel_rfl) rfl (by kernel_rfl) (fun _ _ _ h => h) (by rfl) ?_ (by assumption) ?_; rotate_left; (focus (intro w0 hSw; (try dsimp only at hSw); go_simp; (try with_reducible rfl))); (try simp only [Act.put, List.setIfInBounds_toArray, List.set_cons_zero, List.set_cons_succ]))
      (refine Rl.tk (k := 10) (i := 1) (d := 22) (v := ?_) rfl rfl (by kernel_rfl) (by kernel_rfl) (by kernel_rfl) (by kernel_rfl) rfl (by kernel_rfl) (fun _ _ _ h => h) (by rfl) ?_ (by assumption) ?_; rotate_left; (focus (intro w0 hSw; (try dsimp only at hSw); go_simp; (try with_reducible rfl))); (try simp only [Act.put, List.setIfInBounds_toArray, List.set_cons_zero, List.set_cons_succ]))
      (refine Rl.tk (k := 10) (i := 3) (d := 24) (v := ?_) rfl rfl (by kernel_rfl) (by kernel_rfl) (by kernel_rfl) (by kernel_rfl) rfl (by kernel_rfl) (fun _ _ _ h => h) (by rfl) ?_ (by assumption) ?_; rotate_left; (focus (intro w0 hSw; (try dsimp only at hSw); go_simp; (try with_reducible rfl))); (try simp only [Act.put, List.setIfInBounds_toArray, List.set_cons_zero, List.set_cons_succ]))
      (refine Rl.tk (k := 10) (i := 5) (d := 26) (v := ?_) rfl rfl (by kernel_rfl) (by kernel_rfl) (by kernel_rfl) (by kernel_rfl) rfl (by kernel_rfl) (fun _ _ _ h => h) (by rfl) ?_ (by assumption) ?_; rotate_left; (focus (intro w0 hSw; (try dsimp only at hSw); go_simp; (try with_reducible rfl))); (try simp only [Act.put, List.setIfInBounds_toArray, List.set_cons_zero, List.set_cons_succ]))
      (refine Rl.ready (rs := [2]) (by kernel_rfl) (by simp) ?_; refine Rl.AllReadyL.cons (o := _) rfl rfl (fun K hK => ?_) Rl.AllReadyL.nil; go_simp)
      refine (Sr.addr p a bs cap (n + 3 + 200 * j + 111 + 3) _ (by omega) hm (Dw.src_below (unhide S5) (Below.refl _ _).drew)).mono ?_
      rintro e w6 ⟨fr, rfl, hf1, hf2, wr6, s6⟩
      have g6 : w5.grownBy w6 (some p) := Dw.but_trans (Dw.but_below (p := p) (Below.refl _ _).drew) (Dw.but_wrote wr6)
      have H6 := hide ((unhide H5).grown g6 (by intro e; cases e; omega))
      have T6 := hide ((unhide T5).grown g6 (by intro e; cases e; omega))
      have Z6 := hide ((unhide Z5).grown g6 (by intro e; cases e; omega))
      have R6 := hide (so_other (unhide S5) (unhide R5) g6)
      have E6 := hide (tu_other (unhide S5) (unhide E5) g6)
      have N6 : Hid (Ed.Lst w6 gx ns wr.heap.size B5) := hide ((unhide N5).but (p := fun k => k ≠ p) g6.size (fun k hk hne => g6.block k hk (by simpa using hne)) (fun k h1 h2 => by omega))
      have W6 := hide (Dw.but_trans (unhide W5) g6)
      have S6 := hide s6
      clear wr6 s6 g6 hHeld H5 T5 Z5 R5 E5 N5 W5 S5
      refine hK.out _ _ ⟨sHV (unhide H6), sHT (unhide T6)⟩ (fun hHeld => ?_)
      clear hK K
      (try simp only [Act.put, List.setIfInBounds_toArray, List.set_cons_zero, List.set_cons_succ])
      (refine Rl.ready (rs := [4]) (by kernel_rfl) (by simp) ?_; refine Rl.AllReadyL.cons (o := _) rfl rfl (fun K hK => ?_) Rl.AllReadyL.nil; go_simp)
      refine (Sr.next p a bs cap (n + 3 + 200 * j + 111 + 3 + 3) 9 _ (by omega) (by omega) (by omega) hm (unhide S6)).mono ?_
      rintro e w7 ⟨nw, rfl, hnw, wr7, s7⟩
      have g7 : w6.grownBy w7 (some p) := Dw.but_wrote wr7
      have H7 := hide ((unhide H6).grown g7 (by intro e; cases e; omega))
      have T7 := hide ((unhide T6).grown g7 (by intro e; cases e; omega))
      have Z7 := hide ((unhide Z6).grown g7 (by intro e; cases e; omega))
      have R7 := hide (so_other (unhide S6) (unhide R6) g7)
      have E7 := hide (tu_other (unhide S6) (unhide E6) g7)
      have N7 : Hid (Ed.Lst w7 gx ns wr.heap.size B5) := hide ((unhide N6).but (p := fun k => k ≠ p) g7.size (fun k hk hne => g7.block k hk (by simpa using hne)) (fun k h1 h2 => by omega))
      have W7 := hide (Dw.but_trans (unhide W6) g7)
      have S7 := hide s7
      clear wr7 s7 g7 hHeld H6 T6 Z6 R6 E6 N6 W6 S6
      refine hK.out _ _ ⟨sHV (unhide H7), sHT (unhide T7)⟩ (fun hHeld => ?_)
      clear hK K
      (try simp only [Act.put, List.setIfInBounds_toArray, List.set_cons_zero, List.set_cons_succ])
      (refine Rl.ready (rs := [6]) (by kernel_rfl) (by simp) ?_; refine Rl.AllReadyL.cons (o := _) rfl rfl (fun K hK => ?_) Rl.AllReadyL.nil; go_simp)
      refine (l09Hear g o ss c h q es d fr nw r y gx ns cx _ hsc (unhide htop) ⟨by omega, by omega⟩ ⟨by omega, by omega⟩ (unhide HT5) (unhide R7) (unhide E7) (unhide N7).rm).mono ?_
      rintro e w8 ⟨v8, rfl, b8, rd8⟩
      have HNT : Hid (topB (if staleB ss (fr : Int) (r : Int) = true then ss else withS ss ⟨fr, r, (nw : Int) + y⟩) (if staleB ss (fr : Int) (r : Int) = true then es else nowE es fr ((nw : Int) + y) ns) = true) := hide (by
        split
        · exact unhide htop
        · have hv := Av.tc_valid (unhide HT5)
          exact hear_top (unhide htop) ⟨by omega, by omega⟩ ⟨by omega, by omega⟩ ⟨by omega, by omega⟩ (Av.tc_all (unhide HT5)))
      obtain ⟨g', o', c', h', q', d', rfl, hc', r8, e8⟩ := rd8
      generalize (if staleB ss (fr : Int) (r : Int) = true then ss else withS ss ⟨fr, r, (nw : Int) + y⟩) = ss' at *
      generalize (if staleB ss (fr : Int) (r : Int) = true then es else nowE es fr ((nw : Int) + y) ns) = es' at *
      generalize (if staleB ss (fr : Int) (r : Int) = true then (11 : Int) else 0) = cd at *
      have H8 := hide ((unhide H7).below b8)
      have T8 := hide ((unhide T7).below b8)
      have Z8 := hide ((unhide Z7).below b8)
      have W8 := hide (Dw.but_trans (unhide W7) (Dw.but_below b8))
      have S8 := hide (Dw.src_below (unhide S7) b8)
      have R8 := hide r8
      have E8 := hide e8
      clear b8 r8 e8 hHeld H7 T7 Z7 R7 E7 N7 W7 S7
      refine hK.out _ _ ⟨sHV (unhide H8), sHT (unhide T8)⟩ (fun hHeld => ?_)
      clear hK K
      (try simp only [Act.put, List.setIfInBounds_toArray, List.set_cons_zero, List.set_cons_succ])
      (refine Rl.tk (k := 10) (i := 7) (d := 20) (v := ?_) rfl rfl (by kernel_rfl) (by kernel_rfl) (by kernel_rfl) (by kernel_rfl) rfl (by kernel_rfl) (fun _ _ _ h => h) (by rfl) ?_ (by assumption) ?_; rotate_left; (focus (intro w0 hSw; (try dsimp only at hSw); go_simp; (try with_reducible rfl))); (try simp only [Act.put, List.setIfInBounds_toArray, List.set_cons_zero, List.set_cons_succ]))
      (refine Rl.tk (k := 10) (i := 8) (d := 28) (v := ?_) rfl rfl (by kernel_rfl) (by kernel_rfl) (by kernel_rfl) (by kernel_rfl) rfl (by kernel_rfl) (fun _ _ _ h => h) (by rfl) ?_ (by assumption) ?_; rotate_left; (focus (intro w0 hSw; (try dsimp only at hSw); go_simp; (try with_reducible rfl))); (try simp only [Act.put, List.setIfInBounds_toArray, List.set_cons_zero, List.set_cons_succ]))
      (refine Rl.tkS (k := 10) (i := 9) (d := 29) (v := ?_) rfl rfl (by kernel_rfl) (by kernel_rfl) (by kernel_rfl) rfl (fun _ _ _ h => h) (by rfl) ?_ (by assumption) ?_; rotate_left; (focus (intro w0 hSw; (try dsimp only at hSw); go_simp; (try with_reducible rfl))); (try simp only [Act.put, List.setIfInBounds_toArray, List.set_cons_zero, List.set_cons_succ]))
      obtain ⟨x0, x1⟩ := (unhide T8).bx
      have f0 := (unhide T8).free 0
      have f1 := (unhide T8).free 1
      have hzl := (unhide T8).lt
      (refine Rl.ready (rs := [10]) (by kernel_rfl) (by simp) ?_; refine Rl.AllReadyL.last (o := _) rfl (by kernel_rfl) (fun K hK => ?_); go_simp)
      have TF := hide ((unhide T8).put (.slice (some ⟨g', o', none⟩) ss'.length c') (.slice (some ⟨h', q', none⟩) es'.length d'))
      have HNI := hide (tv_noint (unhide T8))
      have GF : Hid (w8.grownBy ((w8.setCell ⟨(w.heap.size + 3), 0, none⟩ (.slice (some ⟨g', o', none⟩) ss'.length c')).setCell ⟨(w.heap.size + 3), 1, none⟩ (.slice (some ⟨h', q', none⟩) es'.length d')) (some (w.heap.size + 3))) := hide (Tu.grown_set (Tu.grown_set (Dw.but_refl w8 (w.heap.size + 3))))
      have WF := hide (Dw.but_set (Dw.but_set (unhide W8) (show w.heap.size ≤ w.heap.size + 3 by omega) 0 (.slice (some ⟨g', o', none⟩) ss'.length c')) (show w.heap.size ≤ w.heap.size + 3 by omega) 1 (.slice (some ⟨h', q', none⟩) es'.length d'))
      clear x0 x1 f0 f1 hzl hHeld
      generalize hwF : (w8.setCell ⟨(w.heap.size + 3), 0, none⟩ (.slice (some ⟨g', o', none⟩) ss'.length c')).setCell ⟨(w.heap.size + 3), 1, none⟩ (.slice (some ⟨h', q', none⟩) es'.length d') = wF at *
      clear hwF
      have RF := hide (so_butQ (unhide R8) (unhide GF) (unhide HNI))
      have EF := hide (tu_but (unhide E8) (unhide GF) (unhide HNI))
      have HF := hide ((unhide H8).grown (unhide GF) (fun e => by have := Option.some.inj e; omega))
      have ZF := hide ((unhide Z8).grown (unhide GF) (fun e => by have := Option.some.inj e; omega))
      have SF := hide (Dw.src_grown (unhide S8) (unhide GF) (fun e => by have := Option.some.inj e; omega) (fun e0 g off e => by have h1 := unhide RL e0 g off e; intro e2; have := Option.some.inj e2; omega))
      clear H8 T8 Z8 R8 E8 W8 S8 GF HNI
      refine hK.out _ _ (sHV (unhide HF)) (fun hHeld => ?_)
      clear hK K
      (try simp only [Act.put, List.setIfInBounds_toArray, List.set_cons_zero, List.set_cons_succ])
      refine Rl.done (by kernel_rfl) (NoPanic.normal ?_) _
      clear hHeld
      go_wp2_with fail
      go_roundw
      case rel => exact ⟨j + 1, ss', es', g', o', c', h', q', d', by omega, by first | go_num | (congr 1; omega), hc', HNT, TF, RF, EF, WF, hide ((unhide SF).mono (by omega)), ZF⟩
      case measure => simp [intOf]; omega
    · have h8 := src_len (top_src (unhide htop))
      have h62 := two_len (top_two (unhide htop))
      obtain ⟨x0, x1⟩ := (unhide hto).bx
      go_wp2_with fail
      clear x0 x1
      refine (l09Own g o ss c h q es d _ (by omega) (by omega) (unhide hrs) (unhide hre)).mono ?_
      rintro e w9 ⟨v9, rfl, b9, ow9⟩
      obtain ⟨g', c', h', d', mid, rfl, hcc, ls, le, _, _⟩ := ow9
      have Z9 := hide ((unhide htr).below b9)
      have W9 := hide (Dw.but_trans (unhide hgr) (Dw.but_below b9))
      have R9 := hide ls.rm
      have E9 := hide le.rm
      clear b9 ls le
      obtain ⟨x0, x1⟩ := (unhide Z9).bx
      have f0 := (unhide Z9).free 0
      have f1 := (unhide Z9).free 1
      have hzl := (unhide Z9).lt
      go_wp2_with fail
      have GF : w9.grownBy ((w9.setCell ⟨w.heap.size, 0, none⟩ (.slice (some ⟨g', 0, none⟩) ss.length c')).setCell ⟨w.heap.size, 1, none⟩ (.slice (some ⟨h', 0, none⟩) es.length d')) (some w.heap.size) := Tu.grown_set (Tu.grown_set (Dw.but_refl w9 w.heap.size))
      refine bodyPost_ret (v := .agg #[.slice (some ⟨g', 0, none⟩) ss.length c', .slice (some ⟨h', 0, none⟩) es.length d']) (by simp [results, Try.results22, go_sem, x0, x1, hzl]) rfl ?_
      have hNI := tv_noint (unhide Z9)
      have hW := Dw.but_set (Dw.but_set (unhide W9) (Nat.le_refl _) 0 (.slice (some ⟨g', 0, none⟩) ss.length c')) (Nat.le_refl _) 1 (.slice (some ⟨h', 0, none⟩) es.length d')
      first | exact ⟨_, ss, es, g', c', h', d', rfl, rfl, so_butQ (unhide R9) GF hNI, tu_but (unhide E9) GF hNI, unhide htop, hcc, hW⟩ | exact ⟨ss, es, g', c', h', d', rfl, so_butQ (unhide R9) GF hNI, tu_but (unhide E9) GF hNI, unhide htop, hcc, hW⟩ | exact ⟨_, rfl, ss, es, g', c', h', d', rfl, so_butQ (unhide R9) GF hNI, tu_but (unhide E9) GF hNI, unhide htop, hcc, hW⟩
set_option maxHeartbeats 1000000 in
theorem topologyOf (a : Option Addr) (bs : List UInt8) (cap : Nat) (w : World) (hm : bs.length ≤ 1048576) (hr : Reads w a bs) :
    Calls Try.prog 5 #[.slice a bs.length cap] w fun e w' => ∃ (v : Value) (ss : List So.R) (es : List R) (g c h d : Nat), e = .returned v ∧ v = .agg #[.slice (some ⟨g, 0, none⟩) ss.length c, .slice (some ⟨h, 0, none⟩) es.length d] ∧ So.RM w' (some ⟨g, 0, none⟩) ss ∧ Tu.RM w' (some ⟨h, 0, none⟩) es ∧ topB ss es = true ∧ ss.length ≤ c ∧ Below w.heap.size w w' := by
  have A0 : Hid (Below w.heap.size w (w.alloc (.cells #[.slice none 0 0, .slice none 0 0] 26))) := hide ((Below.refl _ _).alloc (Nat.le_refl _) _)
  have R0 := hide (reads_und hr (unhide A0))
  have T0 : Hid (TV (w.alloc (.cells #[.slice none 0 0, .slice none 0 0] 26)) w.heap.size (.slice none 0 0) (.slice none 0 0)) := hide (tv_new w _ _)
  have hz0 : (w.alloc (.cells #[.slice none 0 0, .slice none 0 0] 26)).heap.size = w.heap.size + 1 := by simp
  clear hr
  go_enter Try.func5, Try.ntmps5
  go_wp2_with fail
  generalize hW : w.alloc (.cells #[.slice none 0 0, .slice none 0 0] 26) = W0 at *
  clear hW
  refine (Sr.source a bs cap _ hm (unhide R0)).mono ?_
  rintro e w1 ⟨p, rfl, hp, b1, s1⟩
  have T1 := hide ((unhide T0).below b1)
  have D1 := hide ((unhide A0).trans (b1.mono (unhide A0).size))
  have S1 := hide s1
  clear b1 s1
  go_wp2_with fail
  refine (drawTop p a bs cap 0 w1 (by omega) (by omega) (unhide S1)).mono ?_
  rintro e w2 ⟨v, ss, es, g, c, h, d, rfl, rfl, hrs, hre, htop, hcc, g2⟩
  have T2 := hide ((unhide T1).grown g2 (fun e => by have := Option.some.inj e; omega))
  have D2 : Hid (Below w.heap.size w w2) := hide ((unhide D1).grown g2 (unhide D1).size (fun k hk => by cases hk; omega))
  have RS := hide hrs
  have RE := hide hre
  have HT := hide htop
  clear hrs hre htop g2
  obtain ⟨x0, x1⟩ := (unhide T2).bx
  have f0 := (unhide T2).free 0
  have f1 := (unhide T2).free 1
  have hzl := (unhide T2).lt
  go_wp2_with fail
  have GF : w2.grownBy ((w2.setCell ⟨w.heap.size, 0, none⟩ (.slice (some ⟨g, 0, none⟩) ss.length c)).setCell ⟨w.heap.size, 1, none⟩ (.slice (some ⟨h, 0, none⟩) es.length d)) (some w.heap.size) := Tu.grown_set (Tu.grown_set (Dw.but_refl w2 w.heap.size))
  refine bodyPost_ret (v := .agg #[.slice (some ⟨g, 0, none⟩) ss.length c, .slice (some ⟨h, 0, none⟩) es.length d]) (by simp [results, Try.results5, go_sem, x0, x1, hzl]) rfl ?_
  have hNI := tv_noint (unhide T2)
  have hB : Below w.heap.size w ((w2.setCell ⟨w.heap.size, 0, none⟩ (.slice (some ⟨g, 0, none⟩) ss.length c)).setCell ⟨w.heap.size, 1, none⟩ (.slice (some ⟨h, 0, none⟩) es.length d)) := (unhide D2).grown GF (unhide D2).size (fun k hk => by cases hk; exact Nat.le_refl _)
  first | exact ⟨_, ss, es, g, c, h, d, rfl, rfl, so_butQ (unhide RS) GF hNI, tu_but (unhide RE) GF hNI, unhide HT, hcc, hB⟩ | exact ⟨ss, es, g, c, h, d, rfl, so_butQ (unhide RS) GF hNI, tu_but (unhide RE) GF hNI, unhide HT, hcc, hB⟩
end Tp
end Go.Proofs.Ytilphgfjgeoiaaa
