/-
  Contracts over lists of ints: the laws' copy, and what a list that came in reads as.
-/
import Derived.Test.YtmelbilepfnmjapInts
namespace Go.Proofs.Ytmelbilepfnmjap
open Go.ChangeShapes Go.WideShapes Go.ChangeAt Go.RowKit
set_option linter.unusedVariables false
set_option linter.unusedSimpArgs false
attribute [local go_sem ↓] Go.wp_at_zero Go.wp_at_succ
namespace In
open W1
theorem open_list {H : Type} {enc : TypeId × Value → H} {W : World} {a : Option Addr} {len cap : Nat} {d : DataW H} {p : List MemPlace}
    (h : DataW.Trod enc Try.prog W 0 (fun _ => true) true 131 (.slice a len cap) d p) : ∃ zs : List Int, zs.length = len ∧ len ≤ maxLen ∧ RM W a zs := by
  obtain ⟨fuel, hf⟩ := h
  rcases open_ints Try.underlying131 Try.underlying3 (by kernel_rfl) hf with ⟨hcs, _⟩ | ⟨x, l, c, zs, hcs, _, hl, hm, hlen, _, hc, _⟩
  · simp [Value.cells] at hcs
    obtain ⟨rfl, rfl, rfl⟩ := hcs
    exact ⟨[], rfl, Nat.zero_le _, .inl rfl⟩
  · simp [Value.cells] at hcs
    obtain ⟨rfl, rfl, rfl⟩ := hcs
    rw [if_pos rfl] at hlen
    by_cases h0 : len = 0
    · subst h0; exact ⟨[], rfl, Nat.zero_le _, .inl rfl⟩
    obtain ⟨b, off, spot⟩ := x
    have hsp : spot = none := by
      have h2 := hc 0 (by omega)
      simpa [Addr.add] using World.cell?_spot h2
    subst hsp
    refine ⟨zs.take len, by rw [List.length_take]; omega, by omega, .inr ⟨b, off, rfl, fun i hi => ?_⟩⟩
    have hil : i < len ∧ i < zs.length := by simp at hi; omega
    have h2 := hc i hil.2
    rw [plain_add] at h2
    rw [List.getD_eq_getElem?_getD, List.getElem?_take_of_lt hil.1, ← List.getD_eq_getElem?_getD]; exact h2
end In
end Go.Proofs.Ytmelbilepfnmjap
