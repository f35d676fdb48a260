/-
  Contracts of the laws over the program's Topology: its size, its copy, whether two are alike, the marks, and what one that came in reads as.
-/
import Derived.Test.YtilphgfjgeoiaaaTopV
namespace Go.Proofs.Ytilphgfjgeoiaaa
open Go.ChangeShapes Go.WideShapes Go.ChangeAt Go.RowKit
set_option linter.unusedVariables false
set_option linter.unusedSimpArgs false
set_option maxRecDepth 100000
attribute [local go_sem ↓] Go.wp_at_zero Go.wp_at_succ
namespace Tq
open W1 Tp
set_option maxHeartbeats 2000000 in
theorem sz (a : Option Addr) (n ca : Nat) (b : Option Addr) (m cb : Nat) (L : Int) (w : World) (hL : 0 ≤ L) (hL1 : L ≤ 1048576) (hn : n ≤ maxLen) (hm : m ≤ maxLen) :
    Calls Try.prog 49 #[.agg #[.slice a n ca, .slice b m cb], .int .i64 L] w fun e w' => ∃ r : Int, e = .returned (.int .i64 r) ∧ Below w.heap.size w w' ∧ (r < 0 ∨ (0 ≤ r ∧ r = L - n - m)) := by
  go_enter Try.func49, Try.ntmps49
  go_wp2_with fail
  refine (So.szS a n ca L _ hL hL1 hn).mono ?_
  rintro e w1 ⟨r, rfl, rfl, hr⟩
  rcases hr with hr | ⟨hr, hr1⟩
  · go_wp2_with fail
    go_ret
    exact ⟨_, rfl, (Below.refl _ _).alloc (Nat.le_refl _) _, .inl (by omega)⟩
  · have hnn : ¬ r < 0 := by omega
    have hr2 : r ≤ 1048576 := by omega
    have HR1 := hide hr1
    clear hr1
    go_wp2_with fail
    refine (Tu.szS b m cb r _ hr hr2 hm).mono ?_
    rintro e w2 ⟨s, rfl, rfl, hs⟩
    rcases hs with hs | ⟨hs, hs1⟩
    · go_wp2_with fail
      go_ret
      exact ⟨_, rfl, (Below.refl _ _).alloc (Nat.le_refl _) _, .inl (by omega)⟩
    · have hns : ¬ s < 0 := by omega
      have HS1 := hide hs1
      clear hs1
      go_wp2_with fail
      go_ret
      exact ⟨_, rfl, (Below.refl _ _).alloc (Nat.le_refl _) _, .inr ⟨hs, by rw [unhide HS1, unhide HR1]⟩⟩
theorem uptoS_set {w : World} {g n j : Nat} {ms : List So.R} {p : Addr} {v : Value} (h : So.Upto w g n j ms) (hne : p.block ≠ g) : So.Upto (w.setCell p v) g n j ms :=
  h.of_block (Below.heap_setCell _ _ _ _ (fun e => hne e.symm))
theorem uptoT_set {w : World} {g n j : Nat} {ms : List Tu.R} {p : Addr} {v : Value} (h : Tu.Upto w g n j ms) (hne : p.block ≠ g) : Tu.Upto (w.setCell p v) g n j ms :=
  h.of_block (Below.heap_setCell _ _ _ _ (fun e => hne e.symm))
set_option maxHeartbeats 4000000 in
theorem to (a : Option Addr) (ss : List So.R) (ca : Nat) (b : Option Addr) (es : List Tu.R) (cb : Nat) (w : World) (hm : ss.length ≤ 1048576) (hl : es.length ≤ 1048576) (hr : So.RM w a ss) (hr' : Tu.RM w b es) :
    Calls Try.prog 60 #[.agg #[.slice a ss.length ca, .slice b es.length cb]] w fun e w' => ∃ g h, e = .returned (.agg #[.slice (some ⟨g, 0, none⟩) ss.length ss.length, .slice (some ⟨h, 0, none⟩) es.length es.length]) ∧ Below w.heap.size w w' ∧ (w.heap.size ≤ g ∧ g < h ∧ h < w'.heap.size) ∧ So.Upto w' g ss.length ss.length ss ∧ Tu.Upto w' h es.length es.length es := by
  have HA0 : Hid (Below w.heap.size w (w.alloc (.cells #[.slice a ss.length ca, .slice b es.length cb] 53))) := hide ((Below.refl _ _).alloc (Nat.le_refl _) _)
  have HA1 : Hid (Below w.heap.size w ((w.alloc (.cells #[.slice a ss.length ca, .slice b es.length cb] 53)).alloc (.cells #[.slice none 0 0, .slice none 0 0] 26))) := hide ((unhide HA0).alloc (unhide HA0).size _)
  have HA : Hid (Below w.heap.size w (((w.alloc (.cells #[.slice a ss.length ca, .slice b es.length cb] 53)).alloc (.cells #[.slice none 0 0, .slice none 0 0] 26)).alloc (.cells #[.slice none 0 0, .slice none 0 0] 26))) := hide ((unhide HA1).alloc (unhide HA1).size _)
  have HX : Hid (Bx2 (((w.alloc (.cells #[.slice a ss.length ca, .slice b es.length cb] 53)).alloc (.cells #[.slice none 0 0, .slice none 0 0] 26)).alloc (.cells #[.slice none 0 0, .slice none 0 0] 26)) w.heap.size (.slice a ss.length ca) (.slice b es.length cb)) := hide (((bx2_new w _ _ _).below ((Below.refl _ _).alloc (Nat.le_refl _) _)).below ((Below.refl _ _).alloc (Nat.le_refl _) _))
  have HZ : Hid (TV (((w.alloc (.cells #[.slice a ss.length ca, .slice b es.length cb] 53)).alloc (.cells #[.slice none 0 0, .slice none 0 0] 26)).alloc (.cells #[.slice none 0 0, .slice none 0 0] 26)) (w.heap.size + 1) (.slice none 0 0) (.slice none 0 0)) := hide (by have := (tv_new (w.alloc (.cells #[.slice a ss.length ca, .slice b es.length cb] 53)) (.slice none 0 0) (.slice none 0 0)).below ((Below.refl _ _).alloc (Nat.le_refl _) (.cells #[.slice none 0 0, .slice none 0 0] 26)); rw [show (w.alloc (.cells #[.slice a ss.length ca, .slice b es.length cb] 53)).heap.size = w.heap.size + 1 by simp] at this; exact this)
  have HO : Hid (TV (((w.alloc (.cells #[.slice a ss.length ca, .slice b es.length cb] 53)).alloc (.cells #[.slice none 0 0, .slice none 0 0] 26)).alloc (.cells #[.slice none 0 0, .slice none 0 0] 26)) (w.heap.size + 2) (.slice none 0 0) (.slice none 0 0)) := hide (by have := tv_new ((w.alloc (.cells #[.slice a ss.length ca, .slice b es.length cb] 53)).alloc (.cells #[.slice none 0 0, .slice none 0 0] 26)) (.slice none 0 0) (.slice none 0 0); rw [show ((w.alloc (.cells #[.slice a ss.length ca, .slice b es.length cb] 53)).alloc (.cells #[.slice none 0 0, .slice none 0 0] 26)).heap.size = w.heap.size + 2 by simp] at this; exact this)
  have HR := hide (hr.below (unhide HA))
  have HE0 := hide hr'
  have hw3 : ((((w.alloc (.cells #[.slice a ss.length ca, .slice b es.length cb] 53)).alloc (.cells #[.slice none 0 0, .slice none 0 0] 26)).alloc (.cells #[.slice none 0 0, .slice none 0 0] 26))).heap.size = w.heap.size + 3 := by simp
  clear hr hr' HA0 HA1
  go_enter Try.func60, Try.ntmps60
  go_wp2_with fail
  generalize hW : (((w.alloc (.cells #[.slice a ss.length ca, .slice b es.length cb] 53)).alloc (.cells #[.slice none 0 0, .slice none 0 0] 26)).alloc (.cells #[.slice none 0 0, .slice none 0 0] 26)) = w0 at *
  clear hW
  refine (So.toS a ss ca _ hm (unhide HR)).mono ?_
  rintro e w1 ⟨g, rfl, b1, hg, hz, u1⟩
  have HB1 := hide ((unhide HA).trans (b1.mono (unhide HA).size))
  have HX1 := hide ((unhide HX).below b1)
  have HZ1 := hide ((unhide HZ).below b1)
  have HO1 := hide ((unhide HO).below b1)
  have HU1 := hide u1
  have hs1 := b1.size
  clear b1 u1 HX HZ HO HR HA
  have hp2 : w.heap.size ≤ w.heap.size + 2 := by omega
  have hp1 : w.heap.size ≤ w.heap.size + 1 := by omega
  obtain ⟨w2, hw2⟩ : ∃ w2, w1.setCell ⟨w.heap.size + 2, 0, none⟩ (.slice (some ⟨g, 0, none⟩) ss.length ss.length) = w2 := ⟨_, rfl⟩
  have HB2 : Hid (Below w.heap.size w w2) := hide (by rw [← hw2]; exact (unhide HB1).setCell (p := ⟨w.heap.size + 2, 0, none⟩) hp2 _)
  have HX2 : Hid (Bx2 w2 w.heap.size (.slice a ss.length ca) (.slice b es.length cb)) := hide (by rw [← hw2]; exact (unhide HX1).but (Below.heap_setCell _ _ _ _ (by show w.heap.size ≠ w.heap.size + 2; omega)))
  have HZ2 : Hid (TV w2 (w.heap.size + 1) (.slice none 0 0) (.slice none 0 0)) := hide (by rw [← hw2]; exact (unhide HZ1).other (p := ⟨w.heap.size + 2, 0, none⟩) (by show w.heap.size + 1 ≠ w.heap.size + 2; omega) _)
  have HO2 : Hid (TV w2 (w.heap.size + 2) (.slice (some ⟨g, 0, none⟩) ss.length ss.length) (.slice none 0 0)) := hide (by rw [← hw2]; exact (unhide HO1).set0 _)
  have HU2 : Hid (So.Upto w2 g ss.length ss.length ss) := hide (by rw [← hw2]; exact uptoS_set (p := ⟨w.heap.size + 2, 0, none⟩) (unhide HU1) (by show w.heap.size + 2 ≠ g; omega))
  have hs2 : w2.heap.size = w1.heap.size := by rw [← hw2]; simp [World.setCell]
  obtain ⟨o0, o1⟩ := (unhide HO1).bx
  have f0 := (unhide HO1).free 0
  have HE2 := hide ((unhide HE0).below (unhide HB2))
  have HW2 := hide hw2
  obtain ⟨z0, z1⟩ := unhide HX1
  have hne : ¬ w.heap.size = w.heap.size + 2 := by omega
  clear hw2 HX1 HZ1 HU1
  go_wp2_with fail
  rw [unhide HW2]
  refine (Tu.toS b es cb _ hl (unhide HE2)).mono ?_
  rintro e w3 ⟨h, rfl, b3, hh, hz3, u3⟩
  have HB3 := hide ((unhide HB2).trans (b3.mono (unhide HB2).size))
  have HZ3 := hide ((unhide HZ2).below b3)
  have HO3 := hide ((unhide HO2).below b3)
  have HU3 := hide ((unhide HU2).below b3 (by omega))
  have HV3 := hide u3
  have hs3 := b3.size
  clear b3 u3 z0 z1 o0 o1 f0 HX2 HZ2 HO2 HU2 HW2 HO1 HE2
  obtain ⟨o0, o1⟩ := (unhide HO3).bx
  obtain ⟨r0, r1⟩ := (unhide HZ3).bx
  have f1 := (unhide HO3).free 1
  have q0 := (unhide HZ3).free 0
  have q1 := (unhide HZ3).free 1
  have hne2 : ¬ w.heap.size + 2 = w.heap.size + 1 := by omega
  have hne3 : ¬ w.heap.size + 1 = w.heap.size + 2 := by omega
  go_wp2_with fail
  refine bodyPost_ret (v := .agg #[.slice (some ⟨g, 0, none⟩) ss.length ss.length, .slice (some ⟨h, 0, none⟩) es.length es.length]) (by simp [results, Try.results60, go_sem, r0, r1, o0, o1]) rfl ⟨g, h, rfl, ?_, ⟨by omega, by omega, by simp [World.setCell]; omega⟩, ?_, ?_⟩
  · have hB := unhide HB3
    (repeat (first | (with_reducible exact hB) | (with_reducible refine Below.drew ?_) | (with_reducible refine Below.setCell ?_ ?_ _; rotate_left; (first | exact Nat.le_refl _ | (simp; done) | (dsimp only; omega))) | (with_reducible refine Below.alloc ?_ ?_ _; rotate_left; (first | exact Nat.le_refl _ | omega | (simp [World.setCell]; omega)))))
  · have := unhide HU3
    repeat (first | exact this | refine uptoS_set ?_ (by simp; omega))
  · have := unhide HV3
    repeat (first | exact this | refine uptoT_set ?_ (by simp; omega))
set_option maxHeartbeats 2000000 in
theorem eq (a : Option Addr) (ss : List So.R) (ca : Nat) (b : Option Addr) (es : List Tu.R) (cb : Nat) (c : Option Addr) (cc : Nat) (d : Option Addr) (cd : Nat) (w : World) (hm : ss.length ≤ 1048576) (hl : es.length ≤ 1048576) (h1 : So.RM w a ss) (h2 : Tu.RM w b es) (h3 : So.RM w c ss) (h4 : Tu.RM w d es) :
    Calls Try.prog 70 #[.agg #[.slice a ss.length ca, .slice b es.length cb], .agg #[.slice c ss.length cc, .slice d es.length cd]] w fun e w' => e = .returned (.bool true) ∧ Below w.heap.size w w' := by
  have HA0 : Hid (Below w.heap.size w (w.alloc (.cells #[.slice a ss.length ca, .slice b es.length cb] 26))) := hide ((Below.refl _ _).alloc (Nat.le_refl _) _)
  have HA : Hid (Below w.heap.size w ((w.alloc (.cells #[.slice a ss.length ca, .slice b es.length cb] 26)).alloc (.cells #[.slice c ss.length cc, .slice d es.length cd] 26))) := hide ((unhide HA0).alloc (unhide HA0).size _)
  have HX : Hid (Bx2 ((w.alloc (.cells #[.slice a ss.length ca, .slice b es.length cb] 26)).alloc (.cells #[.slice c ss.length cc, .slice d es.length cd] 26)) w.heap.size (.slice a ss.length ca) (.slice b es.length cb)) := hide ((bx2_new w _ _ _).below ((Below.refl _ _).alloc (Nat.le_refl _) _))
  have HY : Hid (Bx2 ((w.alloc (.cells #[.slice a ss.length ca, .slice b es.length cb] 26)).alloc (.cells #[.slice c ss.length cc, .slice d es.length cd] 26)) (w.heap.size + 1) (.slice c ss.length cc) (.slice d es.length cd)) := hide (by have := bx2_new (w.alloc (.cells #[.slice a ss.length ca, .slice b es.length cb] 26)) (.slice c ss.length cc) (.slice d es.length cd) 26; rw [show (w.alloc (.cells #[.slice a ss.length ca, .slice b es.length cb] 26)).heap.size = w.heap.size + 1 by simp] at this; exact this)
  have H1 := hide (h1.below (unhide HA))
  have H2 := hide (h2.below (unhide HA))
  have H3 := hide (h3.below (unhide HA))
  have H4 := hide (h4.below (unhide HA))
  clear h1 h2 h3 h4 HA0
  go_enter Try.func70, Try.ntmps70
  go_wp2_with fail
  refine (So.eqS a c ss ca cc _ hm (unhide H1) (unhide H3)).mono ?_
  rintro e w1 ⟨rfl, b1⟩
  have B1 := hide ((unhide HA).trans (b1.mono (unhide HA).size))
  obtain ⟨z0, z1⟩ := (unhide HX).below b1
  obtain ⟨y0, y1⟩ := (unhide HY).below b1
  have H2' := hide ((unhide H2).below b1)
  have H4' := hide ((unhide H4).below b1)
  clear b1
  go_wp2_with fail
  refine (Tu.eqS b d es cb cd _ hl (unhide H2') (unhide H4')).mono ?_
  rintro e w2 ⟨rfl, b2⟩
  have B2 := hide ((unhide B1).trans (b2.mono (unhide B1).size))
  clear b2 z0 z1 y0 y1
  go_wp2_with fail
  go_ret
  exact ⟨rfl, unhide B2⟩
theorem cellsR : Try.prog.cellsOf 53 = 2 := by kernel_rfl
theorem cells_l1 : Try.prog.cellsOf 51 = 1 := by kernel_rfl
theorem cells_l2 : Try.prog.cellsOf 50 = 1 := by kernel_rfl
theorem listR {α : Type} {l : List α} (h : l.length = 2) : ∃ c0 c1, l = [c0, c1] := by
  match l, h with
  | [c0, c1], _ => exact ⟨c0, c1, rfl⟩
open Tu in
theorem open_cellT {H : Type} {enc : TypeId × Value → H} {W : World} {v : Value} {fuel : Nat} {y : DataW H × List MemPlace}
    (hf : DataW.trod enc Try.prog W 0 (fun _ => true) true fuel 50 [v] = some y) : ∃ a len cap, ∃ ms : List Tu.R, v = .slice a len cap ∧ ms.length = len ∧ len ≤ maxLen ∧ Tu.RM W a ms := by
  rcases Deep.open_slice Try.underlying50 hf with ⟨hcs, _⟩ | ⟨x, len, cap, m, n, D, Pl, hcs, _, hl, hm, hmm, _, hx⟩
  · simp only [List.cons.injEq, and_true] at hcs
    subst hcs
    exact ⟨none, 0, 0, [], rfl, rfl, Nat.zero_le _, .inl rfl⟩
  · simp only [List.cons.injEq, and_true] at hcs
    subst hcs
    simp at hmm
    subst hmm
    rw [Tu.cellsR] at hx
    by_cases h0 : len = 0
    · subst h0; exact ⟨_, _, _, [], rfl, rfl, Nat.zero_le _, .inl rfl⟩
    obtain ⟨b, off, spot⟩ := x
    have hsp : spot = none := by
      obtain ⟨cs', h1, _⟩ := hx 0 (by omega)
      obtain ⟨_, hlen, hc⟩ := World.cells?_some h1
      have h2 := hc 0 (by omega)
      rw [List.getElem?_eq_getElem (by omega)] at h2
      simpa [Addr.add] using World.cell?_spot h2
    subst hsp
    have hex : ∀ i, i < len → ∃ m : R, At W b (off + i * 3) m := by
      intro i hi
      obtain ⟨cs', h1, h2⟩ := hx i (by omega)
      obtain ⟨_, hlen, hc⟩ := World.cells?_some h1
      obtain ⟨m, rfl⟩ := open_one hlen h2
      have q0 := hc 0 (by omega)
      have q1 := hc 1 (by omega)
      have q2 := hc 2 (by omega)
      rw [plain_add, plain_add] at q0 q1 q2
      exact ⟨m, q0, q1, q2⟩
    have hin : Inhabited R := ⟨R.zero⟩
    obtain ⟨V, hV⟩ := Deep.choose_lt hex
    refine ⟨_, _, _, (List.range len).map V, rfl, by simp, Nat.le_trans hl hm, .inr ⟨b, off, rfl, fun i hi => ?_⟩⟩
    have hi' : i < len := by simpa using hi
    have e : ((List.range len).map V).getD i R.zero = V i := by
      rw [List.getD_eq_getElem?_getD, List.getElem?_map, List.getElem?_range hi']; rfl
    rw [e]
    exact hV i hi'
/-- One that came in by value. -/
theorem open_top {H : Type} {enc : TypeId × Value → H} {W : World} {r : Reach} {b0 : Nat} {v : Value} {d : DataW H} {p : List MemPlace}
    (hv : Value.okWide Try.prog W r b0 53 v) (h : DataW.Trod enc Try.prog W 0 (fun _ => true) true 53 v d p) :
    ∃ a len cap, ∃ ss : List So.R, ∃ b len' cap', ∃ es : List Tu.R, v = .agg #[.slice a len cap, .slice b len' cap'] ∧ ss.length = len ∧ es.length = len' ∧ len ≤ maxLen ∧ len' ≤ maxLen ∧ So.RM W a ss ∧ Tu.RM W b es := by
  obtain ⟨cs, rfl, hsz⟩ := okWide_struct Try.underlying53 hv
  obtain ⟨l⟩ := cs
  obtain ⟨c0, c1, rfl⟩ := listR (hsz.trans cellsR)
  obtain ⟨fuel, hf⟩ := h
  obtain ⟨xs, n, _, _, _, hlen, hf⟩ := DataW.trod_struct Try.underlying53 hf
  obtain ⟨x0, x1, rfl⟩ := listR hlen
  have k0 := hf 0 _ rfl
  have k1 := hf 1 _ rfl
  simp [Value.cells, cells_l1, cells_l2] at k0 k1
  obtain ⟨a, len, cap, ms, rfl, h1, h2, h3⟩ := So.open_cell k0
  obtain ⟨b, len', cap', es, rfl, h4, h5, h6⟩ := open_cellT k1
  exact ⟨a, len, cap, ms, b, len', cap', es, rfl, h1, h4, h2, h5, h3, h6⟩
end Tq
end Go.Proofs.Ytilphgfjgeoiaaa
