/-
  Math of marks: a key put together and taken apart, what is seen, what is marked, what may be passed on.
-/
import Derived.Test.YtlcppgnnlgigmaaSetK
namespace Go.Proofs.Ytlcppgnnlgigmaa
set_option linter.unusedVariables false
set_option linter.unusedSimpArgs false
namespace Du
open W1 Tu St
/-- An origin and a number that a mark may have. -/
def askB (og sq : Int) : Bool := inB og 1 8 && inB sq 0 65535
def keyD (og sq : Int) : Int := 65536 * og + sq
def codeD (ms : List R) (og sq : Int) : Int := if codeS ms = 0 then (if askB og sq = true then 0 else 4) else codeS ms
/-- Whether key k is there and lasts. -/
def lastB (ms : List R) (k now : Int) : Bool := thereB ms k && decide (now < (ms.getD (place ms k) R.zero).til)
def seenD (ms : List R) (og sq now : Int) : Bool := decide (codeD ms og sq = 0) && lastB ms (keyD og sq) now
def sentD (ms : List R) (og sq now : Int) : Bool := seenD ms og sq now && decide ((ms.getD (place ms (keyD og sq)) R.zero).val = 1)
def bitD (s : Bool) : Int := if s = true then 1 else 0
def codeN (ms : List R) (og sq now : Int) : Int := if codeD ms og sq = 0 then (if inB now 0 1000000 = true then 0 else 4) else codeD ms og sq
def newD (og sq now : Int) (s : Bool) : R := ⟨keyD og sq, now + 30, bitD s⟩
def markA (ms : List R) (og sq now : Int) (s : Bool) : List R := if codeN ms og sq now = 0 then putL ms (newD og sq now s) else []
def markE (ms : List R) (og sq now : Int) (s : Bool) : Int := if codeN ms og sq now = 0 then putC ms (newD og sq now s) else codeN ms og sq now
theorem ask_bounds {og sq : Int} (h : askB og sq = true) : 1 ≤ og ∧ og ≤ 8 ∧ 0 ≤ sq ∧ sq ≤ 65535 := by unfold askB inB at h; simp at h; omega
theorem codeD_zero {ms : List R} {og sq : Int} (h : codeD ms og sq = 0) : codeS ms = 0 ∧ askB og sq = true := by
  unfold codeD at h
  split at h
  · rename_i hc
    refine ⟨hc, ?_⟩
    split at h
    · assumption
    · cases h
  · contradiction
theorem codeD_of {ms : List R} {og sq : Int} (h : codeS ms = 0) (ha : askB og sq = true) : codeD ms og sq = 0 := by unfold codeD; rw [if_pos h, if_pos ha]
theorem codeN_zero {ms : List R} {og sq now : Int} (h : codeN ms og sq now = 0) : codeD ms og sq = 0 ∧ inB now 0 1000000 = true := by
  unfold codeN at h
  split at h
  · rename_i hc
    refine ⟨hc, ?_⟩
    split at h
    · assumption
    · cases h
  · contradiction
/-- A key's parts tell it. -/
theorem apart {k og sq : Int} (h0 : 0 ≤ k) (h : askB og sq = true) : (k.tdiv 65536 = og ∧ k.tmod 65536 = sq) ↔ k = keyD og sq := by
  rw [Int.tdiv_eq_ediv_of_nonneg h0, Int.tmod_eq_emod_of_nonneg h0]
  have := ask_bounds h
  unfold keyD
  omega
theorem tdiv_lo {k : Int} (h0 : 0 ≤ k) : 0 ≤ k.tdiv 65536 ∧ k.tdiv 65536 ≤ k ∧ 0 ≤ k.tmod 65536 ∧ k.tmod 65536 ≤ 65535 ∧ keyD (k.tdiv 65536) (k.tmod 65536) = k := by
  rw [Int.tdiv_eq_ediv_of_nonneg h0, Int.tmod_eq_emod_of_nonneg h0]
  unfold keyD
  omega
/-- Where a key is. -/
theorem at_place {ms : List R} (hs : setB ms = true) {j : Nat} {k : Int} (hj : j < ms.length) (hk : (ms.getD j R.zero).key = k) : place ms k = j ∧ thereB ms k = true := by
  have hp : place ms k = j := by
    refine placeP_of _ _ _ (Nat.le_of_lt hj) (fun i hi => ?_) (fun _ => ?_)
    · have := rises hs j i hi hj
      unfold atKey
      rw [decide_eq_false (by omega)]
    · unfold atKey
      rw [decide_eq_true (by omega)]
  exact ⟨hp, there_yes hp hj hk⟩
theorem there_at {ms : List R} {k : Int} (h : thereB ms k = true) : place ms k < ms.length ∧ (ms.getD (place ms k) R.zero).key = k := by
  unfold thereB at h
  simp only [Bool.and_eq_true, decide_eq_true_eq] at h
  exact h
theorem last_yes {ms : List R} (hs : setB ms = true) {j : Nat} {k now : Int} (hj : j < ms.length) (hk : (ms.getD j R.zero).key = k) (ht : now < (ms.getD j R.zero).til) : lastB ms k now = true ∧ place ms k = j := by
  obtain ⟨h1, h2⟩ := at_place hs hj hk
  refine ⟨?_, h1⟩
  unfold lastB
  rw [h2, h1, decide_eq_true ht]
  rfl
/-- None of the first j is the key and lasts. -/
def noneB (ms : List R) (k now : Int) (j : Nat) : Prop := ∀ i, i < j → ¬ ((ms.getD i R.zero).key = k ∧ now < (ms.getD i R.zero).til)
theorem none_all {ms : List R} {k now : Int} (h : noneB ms k now ms.length) : lastB ms k now = false := by
  cases e : lastB ms k now
  · rfl
  · exfalso
    unfold lastB at e
    simp only [Bool.and_eq_true, decide_eq_true_eq] at e
    obtain ⟨h1, h2⟩ := there_at e.1
    exact h _ h1 ⟨h2, e.2⟩
theorem none_succ {ms : List R} {k now : Int} {j : Nat} (h : noneB ms k now j) (hj : ¬ ((ms.getD j R.zero).key = k ∧ now < (ms.getD j R.zero).til)) : noneB ms k now (j + 1) := by
  intro i hi
  rcases Nat.lt_succ_iff_lt_or_eq.1 hi with h1 | rfl
  · exact h i h1
  · exact hj
/-- What may be passed on. -/
def fwdB (hl hp : Int) : Bool := decide (1 < hl) && decide (hp < 255)
def codeF (ok : Bool) (ty : Int) (ms : List R) : Int := if codeS ms = 0 then (if ok = true then (if ty = 2 then 0 else 18) else 1) else codeS ms
def mayF (ok : Bool) (ty hl hp : Int) (ms : List R) (frm now : Int) : Bool := decide (codeF ok ty ms = 0) && (lastB ms frm now && fwdB hl hp)
def codeG (ok : Bool) (hl hp : Int) : Int := if ok = true then (if fwdB hl hp = true then 0 else 19) else 1
end Du
end Go.Proofs.Ytlcppgnnlgigmaa
