/-
  The model's source of choices: what lies where it lies; contracts of l00Source, byte, next, and of the laws' at: each answers a number of its range; they change nothing that was there but the source itself.
-/
import Derived.Test.YtilphgfjgeoiaaaBytes
import Derived.Deep.RegionHeld3
import Derived.Deep.DrawnRows
import Derived.BigRegion
namespace Go.Proofs.Ytilphgfjgeoiaaa
open Go.ChangeShapes Go.WideShapes Go.ChangeAt Go.RowKit
set_option linter.unusedVariables false
set_option linter.unusedSimpArgs false
attribute [local go_sem ↓] Go.wp_at_zero Go.wp_at_succ
namespace Sr
open W1 By
/-- Block p is a source over the bytes bs, which has been asked at most n times. -/
structure Src (w : World) (p : Nat) (a : Option Addr) (bs : List UInt8) (cap n : Nat) : Prop where
  at_ : ∃ i s : Int, 0 ≤ i ∧ i ≤ n ∧ 0 ≤ s ∧ s < 2147483648 ∧ w.cell? ⟨p, 1, none⟩ = some (.int .i64 i) ∧ w.cell? ⟨p, 2, none⟩ = some (.int .i64 s)
  code : w.cell? ⟨p, 0, none⟩ = some (.slice a bs.length cap)
  fz : ∀ o, w.frozen? ⟨p, o, none⟩ = false
  rd : Reads w a bs
  ne : bs ≠ [] → ∀ g off, a = some ⟨g, off, none⟩ → g ≠ p
  top : (w.cell? ⟨p, 3, none⟩).isSome = false
theorem reads_of_cells {w w' : World} {a : Option Addr} {bs : List UInt8} (h : Reads w a bs) (hc : bs ≠ [] → ∀ g off o, a = some ⟨g, off, none⟩ → w'.cell? ⟨g, o, none⟩ = w.cell? ⟨g, o, none⟩) : Reads w' a bs := by
  rcases h with h | ⟨g, off, e, h⟩
  · exact .inl h
  · exact .inr ⟨g, off, e, fun i hi => by rw [hc (by intro e0; subst e0; simp at hi) g off _ e]; exact h i hi⟩
theorem Src.set {w : World} {p : Nat} {a : Option Addr} {bs : List UInt8} {cap n : Nat} (h : Src w p a bs cap n) {i s : Int} {w' : World} {m : Nat}
    (hi0 : 0 ≤ i) (hi1 : i ≤ m) (hs0 : 0 ≤ s) (hs1 : s < 2147483648) (h1 : w'.cell? ⟨p, 1, none⟩ = some (.int .i64 i)) (h2 : w'.cell? ⟨p, 2, none⟩ = some (.int .i64 s)) (h0 : w'.cell? ⟨p, 0, none⟩ = w.cell? ⟨p, 0, none⟩)
    (hw : Wrote w w' p) : Src w' p a bs cap m :=
  ⟨⟨i, s, hi0, hi1, hs0, hs1, h1, h2⟩, by rw [h0]; exact h.code, fun o => by rw [hw.frozen]; exact h.fz o, reads_of_cells h.rd (fun e0 g off o e => hw.cell (h.ne e0 g off e) o), h.ne, (hw.len 3).trans h.top⟩
theorem _root_.Go.Proofs.Ytilphgfjgeoiaaa.By.Wrote.drew {w w' : World} {g : Nat} (h : Wrote w w' g) : Wrote w w'.drew g := ⟨h.os, h.tape, h.output, h.size, h.block, h.frozen, h.len⟩
theorem wrapI {x : Int} (h0 : -9223372036854775808 ≤ x) (h1 : x ≤ 9223372036854775807) : IntKind.i64.wrap x = x := by
  have e := IntWalk.i64_left x
  rw [e]; unfold wrap64; omega
def fldN (bs : List UInt8) (i : Nat) : Int := ((bs.getD i 0).toNat : Int)
theorem fldN_lo (bs : List UInt8) (i : Nat) : 0 ≤ fldN bs i := by unfold fldN; omega
theorem fldN_hi (bs : List UInt8) (i : Nat) : fldN bs i ≤ 255 := by unfold fldN; have := (bs.getD i 0).toNat_lt; omega

set_option maxHeartbeats 2000000 in
theorem byte (p : Nat) (a : Option Addr) (bs : List UInt8) (cap n : Nat) (w : World) (hn : n ≤ 1099511627776) (hm : bs.length ≤ 1099511627776) (hs : Src w p a bs cap n) :
    Calls Try.prog 112 #[.pointer (some ⟨p, 0, none⟩)] w fun e w' => ∃ r : Int, e = .returned (.int .i64 r) ∧ 0 ≤ r ∧ r ≤ 255 ∧ Wrote w w' p ∧ Src w' p a bs cap (n + 1) := by
  obtain ⟨i, s, i0, i1, s0, s1, c1, c2⟩ := hs.at_
  have c0 := hs.code
  have f1 := hs.fz 1
  have f2 := hs.fz 2
  have HS := hide hs
  have hrd := hs.rd
  have hne := hs.ne
  clear hs
  by_cases hlt : i + 1 ≤ (bs.length : Int)
  · obtain ⟨k, rfl⟩ := Int.eq_ofNat_of_zero_le i0
    rcases hrd with e0 | ⟨g, off, rfl, hc⟩
    · exfalso; rw [e0] at hlt; simp at hlt; omega
    have hk : k < bs.length := by omega
    have cg : w.cell? ⟨g, off + k, none⟩ = some (.int .u8 (fldN bs k)) := hc k hk
    have hgp : ¬ g = p := hne (by intro e0; rw [e0] at hk; simp at hk) g off rfl
    have v0 := fldN_lo bs k
    have v1 := fldN_hi bs k
    generalize fldN bs k = v at *
    clear hc hne
    generalize hL : bs.length = len at *
    have HL := hide hL
    clear hL
    have k0 : (0 : Int) ≤ (k : Int) := by omega
    have k1 : (k : Int) < (len : Int) := by omega
    go_enter Try.func112, Try.ntmps112
    go_wp2_with fail
    have d0 : (w.setCell ⟨p, 1, none⟩ (.int .i64 ((k : Int) + 1))).cell? ⟨p, 0, none⟩ = some (.slice (some ⟨g, off, none⟩) len cap) := by rw [World.cell?_setCell_other _ _ _ _ (by simp)]; exact c0
    have d1 : (w.setCell ⟨p, 1, none⟩ (.int .i64 ((k : Int) + 1))).cell? ⟨p, 1, none⟩ = some (.int .i64 ((k : Int) + 1)) := World.cell?_setCell_same _ _ _ c1
    have d2 : (w.setCell ⟨p, 1, none⟩ (.int .i64 ((k : Int) + 1))).cell? ⟨p, 2, none⟩ = some (.int .i64 s) := by rw [World.cell?_setCell_other _ _ _ _ (by simp)]; exact c2
    have dg : (w.setCell ⟨p, 1, none⟩ (.int .i64 ((k : Int) + 1))).cell? ⟨g, off + k, none⟩ = some (.int .u8 v) := by rw [World.cell?_setCell_other _ _ _ _ (by simp [hgp])]; exact cg
    have hf2 : (w.setCell ⟨p, 1, none⟩ (.int .i64 ((k : Int) + 1))).frozen? ⟨p, 2, none⟩ = false := by rw [World.frozen?_setCell]; exact f2
    have hW : Hid (Wrote w (w.setCell ⟨p, 1, none⟩ (.int .i64 ((k : Int) + 1))) p) := hide ((Wrote.refl w p).set 1 _)
    clear c0 c1 c2 cg f1 f2
    generalize w.setCell ⟨p, 1, none⟩ (.int .i64 ((k : Int) + 1)) = u at *
    have hw1 : IntKind.i64.wrap (s * 31) = s * 31 := wrapI (by omega) (by omega)
    have hw2 : IntKind.i64.wrap (k : Int) = (k : Int) := wrapI (by omega) (by omega)
    have hw3 : IntKind.i64.wrap v = v := wrapI (by omega) (by omega)
    have hw4 : IntKind.i64.wrap (s * 31 + v) = s * 31 + v := wrapI (by omega) (by omega)
    have hw5 : IntKind.i64.wrap (s * 31 + v + 7) = s * 31 + v + 7 := wrapI (by omega) (by omega)
    have htm : (s * 31 + v + 7).tmod 2147483648 = (s * 31 + v + 7) % 2147483648 := Int.tmod_eq_emod_of_nonneg (by omega)
    go_region
    go_wp2_with fail
    have e0 : (u.setCell ⟨p, 2, none⟩ (.int .i64 ((s * 31 + v + 7) % 2147483648))).cell? ⟨p, 0, none⟩ = some (.slice (some ⟨g, off, none⟩) len cap) := by rw [World.cell?_setCell_other _ _ _ _ (by simp)]; exact d0
    have e1 : (u.setCell ⟨p, 2, none⟩ (.int .i64 ((s * 31 + v + 7) % 2147483648))).cell? ⟨p, 1, none⟩ = some (.int .i64 ((k : Int) + 1)) := by rw [World.cell?_setCell_other _ _ _ _ (by simp)]; exact d1
    have e2 : (u.setCell ⟨p, 2, none⟩ (.int .i64 ((s * 31 + v + 7) % 2147483648))).cell? ⟨p, 2, none⟩ = some (.int .i64 ((s * 31 + v + 7) % 2147483648)) := World.cell?_setCell_same _ _ _ d2
    have eg : (u.setCell ⟨p, 2, none⟩ (.int .i64 ((s * 31 + v + 7) % 2147483648))).cell? ⟨g, off + k, none⟩ = some (.int .u8 v) := by rw [World.cell?_setCell_other _ _ _ _ (by simp [hgp])]; exact dg
    have hW2 : Hid (Wrote w (u.setCell ⟨p, 2, none⟩ (.int .i64 ((s * 31 + v + 7) % 2147483648))) p) := hide ((unhide hW).set 2 _)
    go_region
    go_wp2_with fail
    clear d0 d1 d2 dg hf2 hW
    generalize u.setCell ⟨p, 2, none⟩ (.int .i64 ((s * 31 + v + 7) % 2147483648)) = u2 at *
    go_region
    go_wp2_with fail
    go_ret
    have hs' := unhide HS
    exact ⟨v, rfl, v0, v1, (unhide hW2).drew.drew.drew, hs'.set (i := (k : Int) + 1) (s := (s * 31 + v + 7) % 2147483648) (by omega) (by omega) (by omega) (by omega) e1 e2 (by rw [hs'.code, unhide HL]; exact e0) (unhide hW2).drew.drew.drew⟩
  · have hlt' : ¬ i + 1 ≤ (bs.length : Int) := hlt
    have c0' := hide c0
    generalize hL : bs.length = len at *
    have HL := hide hL
    clear hL
    have d0 : (w.setCell ⟨p, 1, none⟩ (.int .i64 (i + 1))).cell? ⟨p, 0, none⟩ = some (.slice a len cap) := by rw [World.cell?_setCell_other _ _ _ _ (by simp)]; exact c0
    have d1 : (w.setCell ⟨p, 1, none⟩ (.int .i64 (i + 1))).cell? ⟨p, 1, none⟩ = some (.int .i64 (i + 1)) := World.cell?_setCell_same _ _ _ c1
    have d2 : (w.setCell ⟨p, 1, none⟩ (.int .i64 (i + 1))).cell? ⟨p, 2, none⟩ = some (.int .i64 s) := by rw [World.cell?_setCell_other _ _ _ _ (by simp)]; exact c2
    have hf2 : (w.setCell ⟨p, 1, none⟩ (.int .i64 (i + 1))).frozen? ⟨p, 2, none⟩ = false := by rw [World.frozen?_setCell]; exact f2
    have hW : Hid (Wrote w (w.setCell ⟨p, 1, none⟩ (.int .i64 (i + 1))) p) := hide ((Wrote.refl w p).set 1 _)
    clear hrd hne
    go_enter Try.func112, Try.ntmps112
    go_wp2_with fail
    clear c0 c1 c2 f1 f2
    generalize w.setCell ⟨p, 1, none⟩ (.int .i64 (i + 1)) = u at *
    go_region
    by_cases h3 : 3000 < i + 1
    · go_wp2_with fail
      go_ret
      have hs' := unhide HS
      exact ⟨0, rfl, by omega, by omega, (unhide hW).drew, hs'.set (i := i + 1) (s := s) (by omega) (by omega) (by omega) (by omega) d1 d2 (by rw [hs'.code, unhide HL]; exact d0) (unhide hW).drew⟩
    · have hw1 : IntKind.i64.wrap (s * 1103515245) = s * 1103515245 := wrapI (by omega) (by omega)
      have hw2 : IntKind.i64.wrap (s * 1103515245 + 12345) = s * 1103515245 + 12345 := wrapI (by omega) (by omega)
      have htm : (s * 1103515245 + 12345).tmod 2147483648 = (s * 1103515245 + 12345) % 2147483648 := Int.tmod_eq_emod_of_nonneg (by omega)
      go_wp2_with fail
      go_ret
      have hs' := unhide HS
      have e0 : (u.setCell ⟨p, 2, none⟩ (.int .i64 ((s * 1103515245 + 12345) % 2147483648))).cell? ⟨p, 0, none⟩ = some (.slice a len cap) := by rw [World.cell?_setCell_other _ _ _ _ (by simp)]; exact d0
      have e1 : (u.setCell ⟨p, 2, none⟩ (.int .i64 ((s * 1103515245 + 12345) % 2147483648))).cell? ⟨p, 1, none⟩ = some (.int .i64 (i + 1)) := by rw [World.cell?_setCell_other _ _ _ _ (by simp)]; exact d1
      have e2 : (u.setCell ⟨p, 2, none⟩ (.int .i64 ((s * 1103515245 + 12345) % 2147483648))).cell? ⟨p, 2, none⟩ = some (.int .i64 ((s * 1103515245 + 12345) % 2147483648)) := World.cell?_setCell_same _ _ _ d2
      have hW2 := ((unhide hW).set 2 (.int .i64 ((s * 1103515245 + 12345) % 2147483648))).drew
      refine ⟨(s * 1103515245 + 12345) % 2147483648 / 65536 % 256, ret_int (by omega), by omega, by omega, hW2, hs'.set (i := i + 1) (s := (s * 1103515245 + 12345) % 2147483648) (by omega) (by omega) (by omega) (by omega) e1 e2 (by rw [hs'.code, unhide HL]; exact e0) hW2⟩

theorem Src.mono {w : World} {p : Nat} {a : Option Addr} {bs : List UInt8} {cap n m : Nat} (h : Src w p a bs cap n) (hnm : n ≤ m) : Src w p a bs cap m := by
  obtain ⟨i, s, h0, h1, h2⟩ := h.at_
  exact ⟨⟨i, s, h0, by omega, h2⟩, h.code, h.fz, h.rd, h.ne, h.top⟩
theorem modn (r : Int) {k : Nat} (h : 0 < k) : ∃ m : Nat, r % k = m ∧ m < k := by
  have h0 := Int.emod_nonneg r (show (k : Int) ≠ 0 by omega)
  have h1 := Int.emod_lt_of_pos r (show (0 : Int) < k by omega)
  exact ⟨(r % k).toNat, by omega, by omega⟩
theorem Wrote_trans {w w1 w2 : World} {g : Nat} (h : Wrote w w1 g) (h' : Wrote w1 w2 g) : Wrote w w2 g :=
  ⟨h'.os.trans h.os, h'.tape.trans h.tape, h'.output.trans h.output, h'.size.trans h.size, fun b hb => (h'.block b hb).trans (h.block b hb), fun x => (h'.frozen x).trans (h.frozen x), fun o => (h'.len o).trans (h.len o)⟩
set_option maxHeartbeats 1000000 in
theorem next (p : Nat) (a : Option Addr) (bs : List UInt8) (cap n k : Nat) (w : World) (hk0 : 2 ≤ k) (hk1 : k ≤ 16777216) (hn : n ≤ 1099511627000) (hm : bs.length ≤ 1099511627776) (hs : Src w p a bs cap n) :
    Calls Try.prog 72 #[.pointer (some ⟨p, 0, none⟩), .int .i64 k] w fun e w' => ∃ r : Nat, e = .returned (.int .i64 r) ∧ r < k ∧ Wrote w w' p ∧ Src w' p a bs cap (n + 3) := by
  have HS := hide hs
  clear hs
  by_cases h256 : k ≤ 256
  · go_enter Try.func72, Try.ntmps72
    go_wp2_with fail
    refine (byte p a bs cap n _ (by omega) hm (by exact unhide HS)).mono ?_
    rintro e w1 ⟨r, rfl, r0, r1, W1, S1⟩
    have HW := hide W1
    have HS1 := hide S1
    clear W1 S1
    go_wp2_with fail
    go_ret
    obtain ⟨m, e1, e2⟩ := modn r (show 0 < k by omega)
    exact ⟨m, ret_int e1, e2, unhide HW, (unhide HS1).mono (by omega)⟩
  · go_enter Try.func72, Try.ntmps72
    go_wp2_with fail
    refine (byte p a bs cap n _ (by omega) hm (by exact unhide HS)).mono ?_
    rintro e w1 ⟨r, rfl, r0, r1, W1, S1⟩
    have HW := hide W1
    have HS1 := hide S1
    clear W1 S1
    go_wp2_with fail
    refine (byte p a bs cap (n + 1) _ (by omega) hm (by exact unhide HS1)).mono ?_
    rintro e w2 ⟨r', rfl, r0', r1', W2, S2⟩
    have HW2 := hide (Wrote_trans (unhide HW) W2)
    have HS2 := hide S2
    clear W2 S2
    go_wp2_with fail
    refine (byte p a bs cap (n + 2) _ (by omega) hm (by exact unhide HS2)).mono ?_
    rintro e w3 ⟨r'', rfl, r0'', r1'', W3, S3⟩
    have HW3 := hide (Wrote_trans (unhide HW2) W3)
    have HS3 := hide S3
    clear W3 S3
    go_wp2_with fail
    go_ret
    obtain ⟨m, e1, e2⟩ := modn (r * 65536 + r' * 256 + r'') (show 0 < k by omega)
    exact ⟨m, ret_int e1, e2, unhide HW3, unhide HS3⟩
theorem addr (p : Nat) (a : Option Addr) (bs : List UInt8) (cap n : Nat) (w : World) (hn : n ≤ 1099511627000) (hm : bs.length ≤ 1099511627776) (hs : Src w p a bs cap n) :
    Calls Try.prog 73 #[.pointer (some ⟨p, 0, none⟩)] w fun e w' => ∃ r : Nat, e = .returned (.int .i64 r) ∧ 1 ≤ r ∧ r ≤ 8 ∧ Wrote w w' p ∧ Src w' p a bs cap (n + 3) := by
  have HS := hide hs
  clear hs
  go_enter Try.func73, Try.ntmps73
  go_wp2_with fail
  refine (next p a bs cap n 8 _ (by omega) (by omega) hn hm (by exact unhide HS)).mono ?_
  rintro e w1 ⟨r, rfl, r1, W1, S1⟩
  have HW := hide W1
  have HS1 := hide S1
  clear W1 S1
  go_wp2_with fail
  go_ret
  exact ⟨1 + r, ret_int (by simp), by omega, by omega, unhide HW, unhide HS1⟩
theorem reads_lt {w : World} {a : Option Addr} {bs : List UInt8} (h : Reads w a bs) (e0 : bs ≠ []) {g off : Nat} (ea : a = some ⟨g, off, none⟩) : g < w.heap.size := by
  rcases h with h | ⟨g', off', e, h⟩
  · exact absurd h e0
  · rw [ea] at e
    cases e
    have hl : 0 < bs.length := List.length_pos_iff.2 e0
    exact World.block_lt_of_cell? w _ (h 0 hl)
theorem reads_new {w : World} {a : Option Addr} {bs : List UInt8} (h : Reads w a bs) (o : Obj) : Reads (w.alloc o) a bs := by
  rcases h with h | ⟨g, off, e, h⟩
  · exact .inl h
  · exact .inr ⟨g, off, e, fun i hi => by rw [World.cell?_alloc_lt _ _ _ (World.block_lt_of_cell? w _ (h i hi))]; exact h i hi⟩
theorem frozen_new (w : World) (vs : Array Value) (t : TypeId) (o : Nat) : (w.alloc (.cells vs t)).frozen? ⟨w.heap.size, o, none⟩ = false := by
  exact World.frozen?_alloc_at vs t _ o rfl
set_option maxHeartbeats 1000000 in
theorem source (a : Option Addr) (bs : List UInt8) (cap : Nat) (w : World) (hm : bs.length ≤ 1048576) (hr : Reads w a bs) :
    Calls Try.prog 21 #[.slice a bs.length cap] w fun e w' => ∃ p, e = .returned (.pointer (some ⟨p, 0, none⟩)) ∧ w.heap.size ≤ p ∧ Below w.heap.size w w' ∧ Src w' p a bs cap 0 := by
  have HR := hide hr
  clear hr
  go_enter Try.func21, Try.ntmps21
  go_wp2_with fail
  go_ret
  have hr := unhide HR
  have hcell : ∀ k, (w.alloc (.cells #[.slice a bs.length cap, .int .i64 0, .int .i64 ((bs.length : Int) % 1000)] 114)).cell? ⟨w.heap.size, k, none⟩ = (#[.slice a bs.length cap, .int .i64 0, .int .i64 ((bs.length : Int) % 1000)] : Array Value)[k]? := fun k => by rw [World.cell?_alloc_new]
  refine ⟨w.heap.size, rfl, Nat.le_refl _, (Below.refl _ _).alloc (Nat.le_refl _) _, ⟨0, (bs.length : Int) % 1000, by omega, by omega, by omega, by omega, hcell 1, hcell 2⟩, hcell 0, fun o => ?_, reads_new hr _, fun e0 g off ea => ?_, by rw [hcell 3]; rfl⟩
  · exact frozen_new _ _ _ _
  · have := reads_lt hr e0 ea
    omega
end Sr
end Go.Proofs.Ytilphgfjgeoiaaa
