/-
  A heap of ways: the first of all is taken out.
-/
import Derived.Test.YtjhhhmdhdnmejaaHepD
namespace Go.Proofs.Ytjhhhmdhdnmejaa
open Go.ChangeShapes Go.WideShapes Go.ChangeAt Go.RowKit
set_option linter.unusedVariables false
set_option linter.unusedSimpArgs false
set_option maxRecDepth 100000
attribute [local go_sem ↓] Go.wp_at_zero Go.wp_at_succ
namespace Wd
open W1 Ro Rw
theorem rv_frm {w w' : World} {b p : Nat} {v : Value} {m : R} (h : RV w b m) (hf : Frm p v w w') (hp : b ≠ p) (hv : some b ≠ v.ownBlock) : RV w' b m := (hf.block b h.lt hp hv).trans h
theorem hp_other {w : World} {p b o : Nat} {v u : Value} {hs : List R} (h : HP w p v hs) (hb : b ≠ p) (hv : some b ≠ v.ownBlock) : HP (w.setCell ⟨b, o, none⟩ u) p v hs := by
  refine ⟨(Below.heap_setCell _ _ _ _ (show p ≠ b from fun e => hb e.symm)).trans h.1, ?_⟩
  refine h.2.kept (row := some b) ⟨rfl, rfl, rfl, by simp [World.setCell], fun k hk hne => Below.heap_setCell _ _ _ _ (by simpa using hne)⟩ ?_
  exact .inr (fun e => hv e.symm)
theorem frm_new {w w1 : World} {p b o : Nat} {v u : Value} (h : Frm p v w w1) (hb : w.heap.size ≤ b) : Frm p v w (w1.setCell ⟨b, o, none⟩ u) :=
  ⟨h.os, h.tape, h.output, by simpa [World.setCell] using h.size, fun k hk hp hv => (Below.heap_setCell _ _ _ _ (show k ≠ b by omega)).trans (h.block k hk hp hv)⟩
set_option maxHeartbeats 16000000 in
theorem pop (p : Nat) (v : Value) (hs : List R) (w : World) (h : HP w p v hs) (hh : Heap hs) (h0 : 0 < hs.length) (hl : hs.length ≤ 4097) :
    Calls Try.prog 95 #[.pointer (some ⟨p, 0, none⟩)] w fun e w' => e = .returned (at' hs 0).value ∧ ∃ v' hs', HP w' p v' hs' ∧ Heap hs' ∧ hs'.length + 1 = hs.length ∧ (∀ y ∈ hs, y = at' hs 0 ∨ y ∈ hs') ∧ (∀ y ∈ hs', y ∈ hs) ∧ Frm p v w w' ∧ Nxt w v v' := by
  obtain ⟨g, cap, rfl, hpg, hgl, hc1, hc2⟩ := h.form h0
  have HDN := hide (cut_dn hh)
  have HLN : Hid ((cutL hs).length = hs.length - 1) := hide cut_len
  have HMA : Hid (∀ y ∈ hs, y = at' hs 0 ∨ y ∈ cutL hs) := hide (fun y hy => mem_cut hy)
  have HMB : Hid (∀ y ∈ cutL hs, y ∈ hs) := hide (fun y hy => cut_mem hy)
  have HPP := hide h
  clear hh h
  obtain ⟨n, hn⟩ : ∃ n, hs.length = n := ⟨_, rfl⟩
  have HNN := hide hn
  rw [hn] at HPP HLN h0 hl hc1 ⊢
  clear hn
  obtain ⟨m, hm⟩ : ∃ m, n = m + 1 := ⟨n - 1, by omega⟩
  have HMN := hide hm
  have em : (n : Int) - 1 = (m : Int) := by omega
  have m0 : (0 : Int) ≤ (m : Int) := by omega
  have m1 : (m : Int) ≤ (n : Int) := by omega
  have m2 : (m : Int) ≤ (cap : Int) := by omega
  have wm : IntKind.i64.wrap (m : Int) = (m : Int) := by rw [IntKind.wrap_i64]; omega
  have n0 : (0 : Int) < (n : Int) := by omega
  obtain ⟨X, hX⟩ : ∃ X, at' hs 0 = X := ⟨_, rfl⟩
  have HX := hide hX
  have hA : At w g (0 * 4) X := by have := sHP_of (unhide HNN) (unhide HPP) (i := 0) (j := 0) (by omega) (by omega); rw [← hX]; exact this.2.2.1
  rw [Nat.zero_mul] at hA
  rw [hX] at HMA ⊢
  clear hX hm
  obtain ⟨xa, xn, xc, xh⟩ := X
  show Calls Try.prog 95 #[.pointer (some ⟨p, 0, none⟩)] w _
  have HB1 : Hid (Below w.heap.size w (w.alloc (.cells #[.int .i64 0, .int .i64 0, .int .i64 0, .int .i64 0] 62))) := hide ((Below.refl _ _).alloc (Nat.le_refl _) _)
  have HP1 := hide ((unhide HPP).below (unhide HB1))
  have HA1 := hide (hA.below (unhide HB1))
  have HZ1 : Hid (RV (w.alloc (.cells #[.int .i64 0, .int .i64 0, .int .i64 0, .int .i64 0] 62)) w.heap.size R.zero) := hide (rv_new w R.zero)
  go_enter Try.func95, Try.ntmps95
  go_wp2_with fail
  generalize hW : w.alloc (.cells #[.int .i64 0, .int .i64 0, .int .i64 0, .int .i64 0] 62) = W1 at *
  have hs1 : W1.heap.size = w.heap.size + 1 := by rw [← hW]; simp
  clear hW
  have c0 := (unhide HP1).c0
  have hp1 : p < W1.heap.size := by omega
  have hp2 : ¬ p = W1.heap.size := by omega
  have hg1 : g < W1.heap.size := by omega
  have hg2 : ¬ g = W1.heap.size := by omega
  obtain ⟨x0, x1, x2, x3⟩ := unhide HA1
  simp only [Nat.zero_add] at x1 x2 x3
  dsimp only at x0 x1 x2 x3
  have HBA : Hid (Below W1.heap.size W1 (W1.alloc (.cells #[.int .i64 0, .int .i64 0, .int .i64 0, .int .i64 0] 62))) := hide ((Below.refl _ _).alloc (Nat.le_refl _) _)
  have cA := ((unhide HP1).below (unhide HBA)).c0
  obtain ⟨y0, y1, y2, y3⟩ := (unhide HA1).below (unhide HBA)
  simp only [Nat.zero_add] at y1 y2 y3
  dsimp only at y0 y1 y2 y3
  have HBB : Hid (Below W1.heap.size W1 (W1.alloc (.cells #[.int .i64 xa, .int .i64 xn, .int .i64 xc, .int .i64 xh] 62))) := hide ((Below.refl _ _).alloc (Nat.le_refl _) _)
  have cB := ((unhide HP1).below (unhide HBB)).c0
  go_region
  have b12 : Below W1.heap.size W1 (W1.alloc (.cells #[.int .i64 xa, .int .i64 xn, .int .i64 xc, .int .i64 xh] 62)).drew := (unhide HBB).drew
  have HP2 := hide ((unhide HP1).below b12)
  have HZ2 := hide ((unhide HZ1).below b12)
  have HT2 : Hid (RV (W1.alloc (.cells #[.int .i64 xa, .int .i64 xn, .int .i64 xc, .int .i64 xh] 62)).drew (w.heap.size + 1) ⟨xa, xn, xc, xh⟩) := hide (by have := (rv_new W1 ⟨xa, xn, xc, xh⟩).drew; rw [hs1] at this; exact this)
  have HF2 : Hid (Frm p (.slice (some ⟨g, 0, none⟩) n cap) w (W1.alloc (.cells #[.int .i64 xa, .int .i64 xn, .int .i64 xc, .int .i64 xh] 62)).drew) := hide (Frm.of_below ((unhide HB1).trans (b12.mono (by omega))))
  have hs2 : (W1.alloc (.cells #[.int .i64 xa, .int .i64 xn, .int .i64 xc, .int .i64 xh] 62)).drew.heap.size = w.heap.size + 2 := by show (W1.alloc (.cells #[.int .i64 xa, .int .i64 xn, .int .i64 xc, .int .i64 xh] 62)).heap.size = _; rw [World.size_alloc]; omega
  clear b12 HBA HBB cA cB c0 x0 x1 x2 x3 y0 y1 y2 y3 HP1 HZ1 HA1 HB1
  generalize hW : (W1.alloc (.cells #[.int .i64 xa, .int .i64 xn, .int .i64 xc, .int .i64 xh] 62)).drew = W2 at *
  clear hW
  have hsw : ∀ W, HP W p (.slice (some ⟨g, 0, none⟩) n cap) hs → Calls Try.prog 114 #[.pointer (some ⟨p, 0, none⟩), .int .i64 0, .int .i64 (m : Int)] W fun e w' => e = .returned (.tuple #[]) ∧ HP w' p (.slice (some ⟨g, 0, none⟩) n cap) (swp hs 0 m) ∧ Frm p (.slice (some ⟨g, 0, none⟩) n cap) W w' := fun W hW => swap p _ hs 0 m W hW (by rw [unhide HNN]; omega) (by rw [unhide HNN]; have := unhide HMN; omega)
  have HSW := hide hsw
  clear hsw
  go_wp2_with fail
  refine (unhide HSW _ (unhide HP2)).mono ?_
  rintro e w3 ⟨rfl, h3, f3⟩
  have HZ3 := hide (rv_frm (unhide HZ2) f3 (by omega) (by simp [Value.ownBlock]; omega))
  have HT3 := hide (rv_frm (unhide HT2) f3 (by omega) (by simp [Value.ownBlock]; omega))
  have HF3 := hide ((unhide HF2).trans f3 (Nxt.refl _ _))
  have c3 := h3.c0
  have g3 := h3.free 0
  have HP4 : Hid (HP (w3.setCell ⟨p, 0, none⟩ (.slice (some ⟨g, 0, none⟩) m cap)) p (.slice (some ⟨g, 0, none⟩) m cap) (cutL hs)) := hide (by
    have hmn := unhide HMN
    have hnn := unhide HNN
    have hlm : (cutL hs).length = m := by rw [cut_len, hnn]; omega
    refine hp_set (hs := swp hs 0 m) h3.1 ?_
    rw [hlm]
    have hsl : (swp hs 0 m).length = n := by rw [swp_len]; exact hnn
    have ho := h3.2
    rw [hsl] at ho
    have := own_cut hsl.symm ho (k := m) (by omega)
    have e : cutL hs = (swp hs 0 m).take m := by unfold cutL; rw [hnn, show n - 1 = m by omega]
    rw [e]; exact this)
  have HZ4 : Hid (RV (w3.setCell ⟨p, 0, none⟩ (.slice (some ⟨g, 0, none⟩) m cap)) w.heap.size R.zero) := hide ((Below.heap_setCell _ _ _ _ (show w.heap.size ≠ p by omega)).trans (unhide HZ3))
  have HT4 : Hid (RV (w3.setCell ⟨p, 0, none⟩ (.slice (some ⟨g, 0, none⟩) m cap)) (w.heap.size + 1) ⟨xa, xn, xc, xh⟩) := hide ((Below.heap_setCell _ _ _ _ (show w.heap.size + 1 ≠ p by omega)).trans (unhide HT3))
  have HF4 : Hid (Frm p (.slice (some ⟨g, 0, none⟩) n cap) w (w3.setCell ⟨p, 0, none⟩ (.slice (some ⟨g, 0, none⟩) m cap))) := hide ((unhide HF3).trans (v' := .slice (some ⟨g, 0, none⟩) n cap) ⟨rfl, rfl, rfl, by simp [World.setCell], fun k hk hkp hkv => Below.heap_setCell _ _ _ _ hkp⟩ (Nxt.refl _ _))
  have hs4 : w.heap.size + 2 ≤ (w3.setCell ⟨p, 0, none⟩ (.slice (some ⟨g, 0, none⟩) m cap)).heap.size := by have := f3.size; simp [World.setCell]; omega
  clear h3 f3 HZ2 HT2 HF2 HP2 HZ3 HT3 HF3 HSW
  go_wp2_with fail
  clear c3 g3
  generalize hW4 : w3.setCell ⟨p, 0, none⟩ (.slice (some ⟨g, 0, none⟩) m cap) = W4 at *
  clear hW4
  have HLM : Hid ((cutL hs).length = m) := hide (by have := unhide HLN; have := unhide HMN; omega)
  have hm4 : m ≤ 4097 := by omega
  have HFO : Hid (∀ (L : List R) (i : Nat) W, L.length = m → i ≤ 4097 → HP W p (.slice (some ⟨g, 0, none⟩) m cap) L → Calls Try.prog 115 #[.pointer (some ⟨p, 0, none⟩), .int .i64 (i : Int)] W fun e w' => e = .returned (.int .i64 (fstOf L i : Int)) ∧ Below W.heap.size W w') := hide (fun L i W hLm hi hW => firstOf p _ L i W hW hi (by rw [hLm]; exact hm4))
  have HF0 : Hid (∀ (L : List R) W, L.length = m → HP W p (.slice (some ⟨g, 0, none⟩) m cap) L → Calls Try.prog 115 #[.pointer (some ⟨p, 0, none⟩), .int .i64 0] W fun e w' => e = .returned (.int .i64 (fstOf L 0 : Int)) ∧ Below W.heap.size W w') := hide (fun L W hLm hW => firstOf p _ L 0 W hW (by omega) (by rw [hLm]; exact hm4))
  refine (unhide HF0 _ _ (unhide HLM) (unhide HP4)).mono ?_
  rintro e w5 ⟨rfl, b5⟩
  have HP5 := hide ((unhide HP4).below b5)
  have HZ5 := hide ((unhide HZ4).below b5)
  have HT5 := hide ((unhide HT4).below b5)
  have HF5 := hide ((unhide HF4).trans (Frm.of_below b5 (v := .slice (some ⟨g, 0, none⟩) n cap)) (Nxt.refl _ _))
  have hs5 : w.heap.size + 2 ≤ w5.heap.size := by have := b5.size; omega
  have HVN : Hid (Nxt w (.slice (some ⟨g, 0, none⟩) n cap) (.slice (some ⟨g, 0, none⟩) m cap)) := hide (.inl rfl)
  clear b5 HP4 HZ4 HT4 HF4 HF0
  go_wp2_with fail
  go_loopw [5, 6] (fun iv fv wr => ∃ (i : Nat) (L : List R), iv = .int .i64 (i : Int) ∧ fv = .int .i64 (fstOf L i : Int) ∧ (i < m ∨ m = 0 ∧ i = 0) ∧ Hid (L.length = m) ∧ Hid (HP wr p (.slice (some ⟨g, 0, none⟩) m cap) L) ∧ Hid (DnI L i) ∧ Hid (∀ y, y ∈ L ↔ y ∈ cutL hs) ∧ Hid (RV wr w.heap.size R.zero) ∧ Hid (RV wr (w.heap.size + 1) ⟨xa, xn, xc, xh⟩) ∧ Hid (Frm p (.slice (some ⟨g, 0, none⟩) n cap) w wr)) (fun iv _ _ => m - (intOf iv).toNat)
  case atStart => exact ⟨0, cutL hs, rfl, rfl, by omega, HLM, HP5, HDN, hide (fun y => Iff.rfl), HZ5, HT5, HF5⟩
  case round =>
    obtain ⟨i, L, rfl, rfl, him, hLm, hHP, hDN, hME, hZ, hT, hFR⟩ := hrel
    have hlz := (unhide hZ).lt
    have hlt := (unhide hT).lt
    by_cases hk : fstOf L i = i
    · have HG : Hid (Heap L) := hide (by
        rcases him with h | ⟨h, _⟩
        · exact dn_done (unhide hDN) (by rw [unhide hLm]; exact h) hk
        · intro j h0 hj; rw [unhide hLm] at hj; omega)
      have hk' : ((fstOf L i : Int) != (i : Int)) = false := by rw [hk]; simp
      have HMA2 : Hid (∀ y ∈ hs, y = ⟨xa, xn, xc, xh⟩ ∨ y ∈ L) := hide (fun y hy => (unhide HMA y hy).imp id (fun h => (unhide hME y).2 h))
      have HMB2 : Hid (∀ y ∈ L, y ∈ hs) := hide (fun y hy => unhide HMB y ((unhide hME y).1 hy))
      have HLL : Hid (L.length + 1 = n) := hide (by have := unhide hLm; have := unhide HMN; omega)
      clear hk HMA HMB hME HFO him
      generalize fstOf L i = k at *
      obtain ⟨z0, z1, z2, z3⟩ := (unhide hZ).cells
      have y0 := (unhide hZ).free 0
      have y1 := (unhide hZ).free 1
      have y2 := (unhide hZ).free 2
      have y3 := (unhide hZ).free 3
      unfold R.zero at z0 z1 z2 z3
      dsimp only at z0 z1 z2 z3
      obtain ⟨x0, x1, x2, x3⟩ := (unhide hT).cells
      dsimp only at x0 x1 x2 x3
      have HFV : Hid (RV ((((wr.setCell ⟨w.heap.size, 0, none⟩ (.int .i64 xa)).setCell ⟨w.heap.size, 1, none⟩ (.int .i64 xn)).setCell ⟨w.heap.size, 2, none⟩ (.int .i64 xc)).setCell ⟨w.heap.size, 3, none⟩ (.int .i64 xh)) w.heap.size ⟨xa, xn, xc, xh⟩) := hide (rv_put (unhide hZ) xa xn xc xh)
      obtain ⟨v0, v1, v2, v3⟩ := (unhide HFV).cells
      dsimp only at v0 v1 v2 v3
      go_wp2_with fail
      have hne1 : some w.heap.size ≠ (Value.slice (some ⟨g, 0, none⟩) m cap).ownBlock := by simp [Value.ownBlock]; omega
      have hne2 : w.heap.size ≠ p := by omega
      refine bodyPost_ret (v := .agg #[.int .i64 xa, .int .i64 xn, .int .i64 xc, .int .i64 xh]) (by simp [results, Try.results95, go_sem, v0, v1, v2, v3]) rfl ⟨rfl, _, L, ?_, unhide HG, unhide HLL, unhide HMA2, unhide HMB2, ?_, unhide HVN⟩
      · exact hp_other (hp_other (hp_other (hp_other (unhide hHP) hne2 hne1) hne2 hne1) hne2 hne1) hne2 hne1
      · exact frm_new (frm_new (frm_new (frm_new (unhide hFR) (Nat.le_refl _)) (Nat.le_refl _)) (Nat.le_refl _)) (Nat.le_refl _)
    · have him' : i < m := by
        rcases him with h | ⟨h, h'⟩
        · exact h
        · exfalso; apply hk; subst h'; unfold fstOf fst1; rw [unhide hLm, h]; simp
      obtain ⟨k, hkk⟩ : ∃ k, fstOf L i = k := ⟨_, rfl⟩
      have HST := hide (dn_step (unhide hDN) (by rw [unhide hLm]; exact him') hkk (by rw [← hkk]; exact hk))
      have hik := (unhide HST).1
      have hkm : k < m := by have := (unhide HST).2.1; rw [unhide hLm] at this; exact this
      have hk' : ((k : Int) != (i : Int)) = true := by simp; omega
      rw [hkk]
      have HKK := hide hkk
      clear hk hkk him
      have HL6 : Hid ((swp L i k).length = m) := hide (by rw [swp_len]; exact unhide hLm)
      have HM6 : Hid (∀ y, y ∈ swp L i k ↔ y ∈ cutL hs) := hide (fun y => by rw [swp_mem (by rw [unhide hLm]; exact him') (by rw [unhide hLm]; exact hkm)]; exact unhide hME y)
      have hne1 : some w.heap.size ≠ (Value.slice (some ⟨g, 0, none⟩) m cap).ownBlock := by simp [Value.ownBlock]; omega
      have hne3 : some (w.heap.size + 1) ≠ (Value.slice (some ⟨g, 0, none⟩) m cap).ownBlock := by simp [Value.ownBlock]; omega
      go_wp2_with fail
      refine (swap p _ L i k _ (unhide hHP) (by rw [unhide hLm]; exact him') (by rw [unhide hLm]; exact hkm)).mono ?_
      rintro e w6 ⟨rfl, h6, f6⟩
      have HP6 := hide h6
      have HF6 := hide ((unhide hFR).trans f6 (unhide HVN))
      have HZ6 := hide (rv_frm (unhide hZ) f6 (by omega) hne1)
      have HT6 := hide (rv_frm (unhide hT) f6 (by omega) hne3)
      clear h6 f6 hHP hFR hZ hT hlz hlt
      go_wp2_with fail
      refine (unhide HFO (swp L i k) k _ (unhide HL6) (by omega) (unhide HP6)).mono ?_
      rintro e w7 ⟨rfl, b7⟩
      have HP7 := hide ((unhide HP6).below b7)
      have HZ7 := hide ((unhide HZ6).below b7)
      have HT7 := hide ((unhide HT6).below b7)
      have HF7 := hide ((unhide HF6).trans (Frm.of_below b7 (v := .slice (some ⟨g, 0, none⟩) n cap)) (Nxt.refl _ _))
      clear b7
      go_wp2_with fail
      go_roundw
      case rel => exact ⟨k, swp L i k, rfl, rfl, .inl hkm, HL6, HP7, hide (unhide HST).2.2, HM6, HZ7, HT7, HF7⟩
      case measure => simp [intOf]; omega
end Wd
end Go.Proofs.Ytjhhhmdhdnmejaa
