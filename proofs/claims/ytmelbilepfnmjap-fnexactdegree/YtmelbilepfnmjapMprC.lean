/-
  The model's contract: a list of numbers in order.
-/
import Derived.Test.YtmelbilepfnmjapMprB
import Derived.Test.YtmelbilepfnmjapRg
namespace Go.Proofs.Ytmelbilepfnmjap
open Go.ChangeShapes Go.WideShapes Go.ChangeAt Go.RowKit
set_option linter.unusedVariables false
set_option linter.unusedSimpArgs false
attribute [local go_sem ↓] Go.wp_at_zero Go.wp_at_succ
namespace Mr
open W1 Tu St Tw
/-- append to a row of one's own, inside a region that draws its order. -/
theorem wp_apI {o : Oper} {a : Act} {K : Act → World → Prop} {Q : Exit → Act → World → Prop} {w : World} {base d : Nat} {v : Value} {xs : List Int} (hown : w.ownsRow base 3 1 v xs.length (In.flat xs)) (g off m c : Nat) (zs : List Int) (hm : zs.length = m) (hr : In.RM w (some ⟨g, off, none⟩) zs) (hlen : xs.length + zs.length ≤ 4194304) (hbase : base ≤ w.heap.size)
    (s x : Operand) (ho : o.op = .call { callee := .builtin .append, args := #[s, x], argTypes := #[131, 131] }) (hd : o.dst = some d) (hs : a.eval s = v) (hx : a.eval x = .slice (some ⟨g, off, none⟩) m c)
    (h : ∀ v' w', w'.ownsRow base 3 1 v' (xs ++ zs).length (In.flat (xs ++ zs)) → w.grownBy w' v.ownBlock → K (a.put (some d) v') w') : o.wp Try.prog a w K Q := by
  subst hm
  obtain ⟨i0, hi, hz0, hz1, hz2⟩ := In.infoI
  refine wp_append_own w s x _ ho base 3 i0 _ 1 8 Try.underlying131 hi hz0 hz1 hz2 rfl (by decide) v xs.length (In.flat xs) hs hown ⟨g, off, none⟩ zs.length c (In.flat zs) hx (In.flat_len zs) hr.cells (fun u hu => In.flat_one_cell hu) (by unfold maxLen; omega) (by omega) hbase (fun v' w' h1 h2 _ => ?_)
  rw [hd]
  refine h v' w' ?_ h2
  rw [List.length_append, In.flat_append]; exact h1
theorem rmI_grown {w w' : World} {b : Nat} {row : Option Nat} {zs : List Int} (h : In.RM w (some ⟨b, 0, none⟩) zs) (hg : w.grownBy w' row) (hne : some b ≠ row) : In.RM w' (some ⟨b, 0, none⟩) zs := by
  rcases h with h | ⟨g, off, e, hc⟩
  · exact .inl h
  · cases e
    exact .inr ⟨_, _, rfl, fun i hi => hg.cell (hc i hi) hne⟩
theorem rmI_take {w : World} {g off : Nat} {zs : List Int} (h : In.RM w (some ⟨g, off, none⟩) zs) (n : Nat) : In.RM w (some ⟨g, off, none⟩) (zs.take n) := by
  refine .inr ⟨g, off, rfl, fun i hi => ?_⟩
  have hl : i < n ∧ i < zs.length := by simp at hi; omega
  have := h.at hl.2
  rw [List.getD_eq_getElem?_getD, List.getElem?_take_of_lt hl.1, ← List.getD_eq_getElem?_getD]; exact this
theorem rmI_drop {w : World} {g off : Nat} {zs : List Int} (h : In.RM w (some ⟨g, off, none⟩) zs) (n : Nat) : In.RM w (some ⟨g, off + n, none⟩) (zs.drop n) := by
  refine .inr ⟨g, off + n, rfl, fun i hi => ?_⟩
  have hl : n + i < zs.length := by simp at hi; omega
  have := h.at hl
  rw [List.getD_eq_getElem?_getD, List.getElem?_drop, ← List.getD_eq_getElem?_getD, Nat.add_assoc]; exact this
theorem own_base {w : World} {b b' : Nat} {v : Value} {n : Nat} {xs : List Value} (h : w.ownsRow b 3 1 v n xs) (hle : b' ≤ b) : w.ownsRow b' 3 1 v n xs := by
  obtain ⟨h1, h2 | ⟨g, c, cur, e, hb, h3⟩⟩ := h
  · exact ⟨h1, .inl h2⟩
  · exact ⟨h1, .inr ⟨g, c, cur, e, Nat.le_trans hle hb, h3⟩⟩
theorem own_form {w : World} {b : Nat} {v : Value} {n : Nat} {xs : List Value} (h : w.ownsRow b 3 1 v n xs) (hn : 0 < n) : ∃ g c, v = .slice (some ⟨g, 0, none⟩) n c ∧ n ≤ c ∧ c ≤ maxLen := by
  obtain ⟨h1, ⟨_, h2⟩ | ⟨g, c, cur, e, hb, h3, h4, h5, _⟩⟩ := h
  · omega
  · exact ⟨g, c, e, h4, h5⟩
end Mr
end Go.Proofs.Ytmelbilepfnmjap
