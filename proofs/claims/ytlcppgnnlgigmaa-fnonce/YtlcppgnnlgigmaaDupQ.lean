/-
  Math of FnOnce: what is asked of a set of marks hangs on one look-up; behind a put it is the new mark, others stay.
-/
import Derived.Test.YtlcppgnnlgigmaaDupD
namespace Go.Proofs.Ytlcppgnnlgigmaa
set_option linter.unusedVariables false
set_option linter.unusedSimpArgs false
namespace Du
open W1 Tu St
theorem look_at {L : List R} (h : setB L = true) (x : R) : findT L (hv x) (ha x) = if thereB L x.key = true then some (L.getD (place L x.key) R.zero) else none := by
  have ht := there_find h x
  cases e : thereB L x.key
  · rw [e] at ht
    rw [if_neg (by simp)]
    cases e2 : findT L (hv x) (ha x) with
    | none => rfl
    | some m => rw [e2] at ht; cases ht
  · rw [if_pos rfl]
    obtain ⟨h1, h2⟩ := there_at e
    have hh := key_hop.2 h2
    exact (find_iff (rise_of h)).2 ⟨getD_mem h1, hh.1, hh.2⟩
def seenF (f : Option R) (now : Int) : Bool := match f with | some m => decide (now < m.til) | none => false
def sentF (f : Option R) (now : Int) : Bool := match f with | some m => decide (now < m.til) && decide (m.val = 1) | none => false
theorem seen_f {L : List R} (h : setB L = true) {og sq : Int} (ha : askB og sq = true) (now : Int) : seenD L og sq now = seenF (findT L og sq) now ∧ sentD L og sq now = sentF (findT L og sq) now := by
  have hn := hv_new (now := 0) (s := false) ha
  have hl := look_at h (newD og sq 0 false)
  rw [hn.1, hn.2, show (newD og sq 0 false).key = keyD og sq from rfl] at hl
  have hc := codeD_of (code_zero h) ha
  unfold sentD seenD lastB
  rw [hc, hl]
  cases thereB L (keyD og sq)
  · exact ⟨rfl, rfl⟩
  · exact ⟨rfl, rfl⟩
theorem find_a {L : List R} (h : setB L = true) {og sq : Int} (ha : askB og sq = true) {m : R} (hf : findT L og sq = some m) : findA L (keyD og sq) = m ∧ dropE L (keyD og sq) = 0 := by
  have hn := hv_new (now := 0) (s := false) ha
  have hl := look_at h (newD og sq 0 false)
  rw [hn.1, hn.2, show (newD og sq 0 false).key = keyD og sq from rfl, hf] at hl
  cases ht : thereB L (keyD og sq)
  · rw [ht, if_neg (by simp)] at hl; cases hl
  · rw [ht, if_pos rfl] at hl
    unfold findA dropE dropC
    rw [if_pos ⟨code_zero h, ht⟩, if_pos (code_zero h), if_pos ht]
    cases hl
    exact ⟨rfl, rfl⟩
/-- All that FnOnce asks. -/
theorem once {ms : List R} (h : setB ms = true) (hl : ms.length < 64) {og sq now : Int} (sn : Bool) (ha : askB og sq = true) (h0 : 0 ≤ now) (h1 : now ≤ 1000000) :
    ∃ P : List R, markA ms og sq now sn = P ∧ markE ms og sq now sn = 0 ∧ 0 < P.length ∧ P.length ≤ ms.length + 1 ∧
      (∀ n, n = now + 29 → seenD P og sq n = true ∧ sentD P og sq n = sn) ∧ (∀ n, n = now + 30 → seenD P og sq n = false ∧ sentD P og sq n = false) ∧ codeD P og sq = 0 ∧
      findA P (keyD og sq) = ⟨keyD og sq, now + 30, bitD sn⟩ ∧ dropE P (keyD og sq) = 0 ∧
      (∀ ot s2 n, askB ot s2 = true → s2 ≠ sq → codeD ms ot s2 = 0 ∧ codeD P ot s2 = 0 ∧ seenD P ot s2 n = seenD ms ot s2 n ∧ sentD P ot s2 n = sentD ms ot s2 n) := by
  have hc := codeD_of (code_zero h) ha
  have hcn : codeN ms og sq now = 0 := by unfold codeN; rw [hc, if_pos rfl, if_pos (by unfold inB; rw [decide_eq_true h0, decide_eq_true h1]; rfl)]
  have hP : setB (putL ms (newD og sq now sn)) = true := put_set h (new_ok ha h0 h1) hl
  have hn := hv_new (now := now) (s := sn) ha
  have hf := find_put h (newD og sq now sn) (.inr hl)
  rw [hn.1, hn.2] at hf
  have hfx : findT (putL ms (newD og sq now sn)) og sq = some (newD og sq now sn) := by rw [hf]; unfold updT; rw [if_pos ⟨rfl, rfl⟩]
  have hS := fun n => seen_f hP ha n
  refine ⟨_, by unfold markA; rw [if_pos hcn], ?_, put_ne ms _, put_le ms _, fun n e => ?_, fun n e => ?_, codeD_of (code_zero hP) ha, (find_a hP ha hfx).1, (find_a hP ha hfx).2, fun ot s2 n ho hne => ?_⟩
  · unfold markE putC
    rw [if_pos hcn]
    split
    · rfl
    · rw [if_neg (by omega)]
  · rw [(hS n).1, (hS n).2, hfx]
    unfold seenF sentF newD
    dsimp only
    rw [decide_eq_true (by omega)]
    cases sn <;> exact ⟨rfl, rfl⟩
  · rw [(hS n).1, (hS n).2, hfx]
    unfold seenF sentF newD
    dsimp only
    rw [decide_eq_false (by omega)]
    exact ⟨rfl, rfl⟩
  · have hs2 := seen_f hP ho n
    have hs1 := seen_f h ho n
    have he : findT (putL ms (newD og sq now sn)) ot s2 = findT ms ot s2 := by rw [hf]; unfold updT; rw [if_neg (fun e => hne e.2)]
    rw [he] at hs2
    exact ⟨codeD_of (code_zero h) ho, codeD_of (code_zero hP) ho, hs2.1.trans hs1.1.symm, hs2.2.trans hs1.2.symm⟩
end Du
end Go.Proofs.Ytlcppgnnlgigmaa
