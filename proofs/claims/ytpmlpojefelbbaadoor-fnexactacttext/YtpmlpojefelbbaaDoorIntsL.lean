/-
  Contracts over lists of ints: the laws' copy, and what a list that came in reads as.
-/
import Derived.Test.YtpmlpojefelbbaaDoorInts
namespace Go.Proofs.YtpmlpojefelbbaaDoor
open Go.ChangeShapes Go.WideShapes Go.ChangeAt Go.RowKit
set_option linter.unusedVariables false
set_option linter.unusedSimpArgs false
attribute [local go_sem ↓] Go.wp_at_zero Go.wp_at_succ
namespace In
open W1
set_option maxRecDepth 100000 in
set_option maxHeartbeats 2000000 in
theorem toS (a : Option Addr) (zs : List Int) (cap : Nat) (w : World) (hm : zs.length ≤ 1048576) (hr : RM w a zs) :
    Calls Tryd.prog 17 #[.slice a zs.length cap] w fun e w' => ∃ g, e = .returned (.slice (some ⟨g, 0, none⟩) zs.length zs.length) ∧ Below w.heap.size w w' ∧ w.heap.size ≤ g ∧ g < w'.heap.size ∧ Upto w' g zs.length zs.length zs := by
  obtain ⟨i0, hi, hz0, hz1, hz2⟩ := infoI
  have hmk := run_make (P := Tryd.prog) w 22 3 i0 _ Tryd.underlying22 hi hz0 .i64 .i64 (zs.length : Int) (zs.length : Int) (by omega) (by omega) (by rw [hz2]; omega) (by omega)
  have HR := hide hr
  clear hr
  generalize hN : zs.length = n at *
  have HN := hide hN
  clear hN
  rw [Int.toNat_natCast, hz1] at hmk
  have hcs : (madeCells (Value.int .i64 0).cells (n * 1)).size = n * 1 := size_madeCells _ _
  generalize madeCells (Value.int .i64 0).cells (n * 1) = cs at *
  have hup0 : Upto (w.alloc (.cells cs 3)) w.heap.size n 0 zs := by
    refine ⟨fun i hi => by omega, fun i hi => ⟨?_, by simp⟩⟩
    rw [World.cell?_alloc_new, Array.getElem?_eq_getElem (by omega)]; rfl
  have HU := hide hup0
  clear hup0 hcs hi hz0 hz1 hz2
  go_enter Tryd.func17, Tryd.ntmps17
  go_wp2
  go_loopw [4] (fun i wr => ∃ j : Nat, j ≤ n ∧ i = .int .i64 j ∧ Hid (w.heap.size < wr.heap.size) ∧ Hid (Below w.heap.size w wr) ∧ Hid (Upto wr w.heap.size n j zs)) (fun i _ => n - (intOf i).toNat)
  case atStart => exact ⟨0, by omega, rfl, hide (by simp), hide ((Below.refl _ _).alloc (Nat.le_refl _) _), HU⟩
  case round =>
    obtain ⟨j, hj, rfl, hsz, hb, hu⟩ := hrel
    by_cases hlt : (j : Int) < (n : Int)
    · have k0 : (0 : Int) ≤ (j : Int) := by omega
      have hlen : j < zs.length := by rw [unhide HN]; omega
      rcases (unhide HR).below (unhide hb) with e0 | ⟨g, off, rfl, hc⟩
      · exfalso; rw [e0] at hlen; simp at hlen
      have c0 := hc j hlen
      clear hc
      have HST := hide ((unhide hu).step (by omega))
      obtain ⟨⟨v0, x0⟩, y0⟩ : (∃ v0, wr.cell? ⟨w.heap.size, j, none⟩ = some v0) ∧ wr.frozen? ⟨w.heap.size, j, none⟩ = false := ⟨Option.isSome_iff_exists.1 ((unhide hu).2 j (by omega)).1, ((unhide hu).2 j (by omega)).2⟩
      generalize zs.getD j 0 = y at *
      have HB1 := hide ((unhide hb).setCell (p := ⟨w.heap.size, j, none⟩) (Nat.le_refl _) (.int .i64 y))
      have HS1 : Hid (w.heap.size < (wr.setCell ⟨w.heap.size, j, none⟩ (.int .i64 y)).heap.size) := hide (by simp [World.setCell]; exact unhide hsz)
      go_wp2_with fail
      go_roundw
      case rel => exact ⟨j + 1, by omega, by go_num, HS1, HB1, HST⟩
      case measure => simp [intOf]; omega
    · obtain rfl : j = n := by omega
      go_wp2
      go_ret
      exact ⟨w.heap.size, rfl, unhide hb, Nat.le_refl _, unhide hsz, unhide hu⟩
theorem open_list {H : Type} {enc : TypeId × Value → H} {W : World} {a : Option Addr} {len cap : Nat} {d : DataW H} {p : List MemPlace}
    (h : DataW.Trod enc Tryd.prog W 0 (fun _ => true) true 22 (.slice a len cap) d p) : ∃ zs : List Int, zs.length = len ∧ len ≤ maxLen ∧ RM W a zs := by
  obtain ⟨fuel, hf⟩ := h
  rcases open_ints Tryd.underlying22 Tryd.underlying3 (by kernel_rfl) hf with ⟨hcs, _⟩ | ⟨x, l, c, zs, hcs, _, hl, hm, hlen, _, hc, _⟩
  · simp [Value.cells] at hcs
    obtain ⟨rfl, rfl, rfl⟩ := hcs
    exact ⟨[], rfl, Nat.zero_le _, .inl rfl⟩
  · simp [Value.cells] at hcs
    obtain ⟨rfl, rfl, rfl⟩ := hcs
    rw [if_pos rfl] at hlen
    by_cases h0 : len = 0
    · subst h0; exact ⟨[], rfl, Nat.zero_le _, .inl rfl⟩
    obtain ⟨b, off, spot⟩ := x
    have hsp : spot = none := by
      have h2 := hc 0 (by omega)
      simpa [Addr.add] using World.cell?_spot h2
    subst hsp
    refine ⟨zs.take len, by rw [List.length_take]; omega, by omega, .inr ⟨b, off, rfl, fun i hi => ?_⟩⟩
    have hil : i < len ∧ i < zs.length := by simp at hi; omega
    have h2 := hc i hil.2
    rw [plain_add] at h2
    rw [List.getD_eq_getElem?_getD, List.getElem?_take_of_lt hil.1, ← List.getD_eq_getElem?_getD]; exact h2
end In
end Go.Proofs.YtpmlpojefelbbaaDoor
