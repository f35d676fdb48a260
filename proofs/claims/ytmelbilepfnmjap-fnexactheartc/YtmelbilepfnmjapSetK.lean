/-
  Contracts: keyPlace (the program's), and SetFind, both.
-/
import Derived.Test.YtmelbilepfnmjapSetP
import Derived.Laws.NewBlocks
namespace Go.Proofs.Ytmelbilepfnmjap
open Go.ChangeShapes Go.WideShapes Go.ChangeAt Go.RowKit
set_option linter.unusedVariables false
set_option linter.unusedSimpArgs false
attribute [local go_sem ↓] Go.wp_at_zero Go.wp_at_succ
namespace St
open W1 Tu
theorem there_no {ms : List R} {k : Int} {p : Nat} (e : place ms k = p) (h : ms.length ≤ p) : thereB ms k = false := by unfold thereB; rw [e, decide_eq_false (by omega)]; rfl
theorem there_ne {ms : List R} {k : Int} {p : Nat} (e : place ms k = p) (h : ¬ (ms.getD p R.zero).key = k) : thereB ms k = false := by unfold thereB; rw [e, decide_eq_false h, Bool.and_false]
theorem there_yes {ms : List R} {k : Int} {p : Nat} (e : place ms k = p) (hl : p < ms.length) (h : (ms.getD p R.zero).key = k) : thereB ms k = true := by unfold thereB; rw [e, decide_eq_true hl, decide_eq_true h]; rfl
set_option maxRecDepth 100000 in
set_option maxHeartbeats 2000000 in
theorem l03Find (g off : Nat) (ms : List R) (cap : Nat) (k : Int) (w : World) (hm : ms.length ≤ 4096) (hr : RM w (some ⟨g, off, none⟩) ms) :
    Calls Try.prog 121 #[.slice (some ⟨g, off, none⟩) ms.length cap, .int .i64 k] w fun e w' => e = .returned (.tuple #[(if thereB ms k = true then ms.getD (place ms k) R.zero else R.zero).value, .bool (thereB ms k)]) ∧ Below w.heap.size w w' := by
  have HR := hide hr
  have hl := placeP_le (atKey k) ms
  clear hr
  have HBA : Hid (Below w.heap.size w (w.alloc (.cells #[.int .i64 0, .int .i64 0, .int .i64 0] 74))) := hide ((Below.refl _ _).alloc (Nat.le_refl _) _)
  have HRA := hide ((unhide HR).below (unhide HBA))
  obtain ⟨p, hp⟩ : ∃ p, place ms k = p := ⟨_, rfl⟩
  have HP := hide hp
  rw [show placeP (atKey k) ms = p from hp] at hl
  clear hp
  by_cases hlt : (p : Int) < (ms.length : Int)
  · have hA := (unhide HRA).at (i := p) (by omega)
    have k0 : (0 : Int) ≤ (p : Int) := by omega
    have hlen : p < ms.length := by omega
    have hne : ((p : Int) == (ms.length : Int)) = false := by simp; omega
    have hne' : ¬ p = ms.length := by omega
    by_cases hk : (ms.getD p R.zero).key = k
    · have HT := hide (there_yes (unhide HP) hlen hk)
      rw [unhide HT, unhide HP, if_pos rfl]
      generalize ms.getD p R.zero = m at *
      obtain ⟨key, til, val⟩ := m
      obtain ⟨c0, c1, c2⟩ := hA
      dsimp only at c0 c1 c2 hk
      subst hk
      go_enter Try.func121, Try.ntmps121
      go_wp2_with fail
      refine (l03Place _ ms cap _ _ hm (unhide HRA)).mono ?_
      rintro e w1 ⟨rfl, rfl⟩
      rw [unhide HP]
      go_wp2_with fail
      refine bodyPost_ret (v := .tuple #[.agg #[.int .i64 key, .int .i64 til, .int .i64 val], .bool true]) (by simp [results, Try.results121, go_sem]) rfl ⟨rfl, ?_⟩
      have hB := unhide HBA
      repeat (first | exact hB | exact Below.refl _ _ | refine Below.setCell ?_ (by simp) _ | refine Below.alloc ?_ (by simp) _)
    · have HT := hide (there_ne (unhide HP) hk)
      rw [unhide HT, if_neg (by simp)]
      generalize ms.getD p R.zero = m at *
      obtain ⟨key, til, val⟩ := m
      obtain ⟨c0, c1, c2⟩ := hA
      dsimp only at c0 c1 c2 hk
      have hkb : (key == k) = false := by simpa using hk
      go_enter Try.func121, Try.ntmps121
      go_wp2_with fail
      refine (l03Place _ ms cap _ _ hm (unhide HRA)).mono ?_
      rintro e w1 ⟨rfl, rfl⟩
      rw [unhide HP]
      go_wp2_with fail
      refine bodyPost_ret (v := .tuple #[.agg #[.int .i64 0, .int .i64 0, .int .i64 0], .bool false]) (by simp [results, Try.results121, go_sem]) rfl ⟨rfl, ?_⟩
      have hB := unhide HBA
      repeat (first | exact hB | exact Below.refl _ _ | refine Below.setCell ?_ (by simp) _ | refine Below.alloc ?_ (by simp) _)
  · obtain rfl : p = ms.length := by omega
    have HT := hide (there_no (unhide HP) (by omega))
    rw [unhide HT, if_neg (by simp)]
    go_enter Try.func121, Try.ntmps121
    go_wp2_with fail
    refine (l03Place _ ms cap _ _ hm (unhide HRA)).mono ?_
    rintro e w1 ⟨rfl, rfl⟩
    rw [unhide HP]
    go_wp2_with fail
    refine bodyPost_ret (v := .tuple #[.agg #[.int .i64 0, .int .i64 0, .int .i64 0], .bool false]) (by simp [results, Try.results121, go_sem]) rfl ⟨rfl, ?_⟩
    have hB := unhide HBA
    repeat (first | exact hB | exact Below.refl _ _ | refine Below.setCell ?_ (by simp) _ | refine Below.alloc ?_ (by simp) _)
end St
end Go.Proofs.Ytmelbilepfnmjap
