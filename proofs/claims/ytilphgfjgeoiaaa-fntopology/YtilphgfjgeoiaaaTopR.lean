/-
  Math: a topology that has heard an advertisement is a right one.
-/
import Derived.Test.YtilphgfjgeoiaaaTopN
namespace Go.Proofs.Ytilphgfjgeoiaaa
set_option linter.unusedVariables false
set_option linter.unusedSimpArgs false
namespace Tp
open W1 Tu St Tw
theorem learn_edg {L : List R} {frm til : Int} {ns : List Ed.R} (hf : 1 ≤ frm ∧ frm ≤ 8) (ht : 0 ≤ til ∧ til ≤ 1073741824) (ho : Av.allN ns ns.length = true) :
    ∀ j, j ≤ ns.length → ∀ m ∈ learnE L frm til ns j, m ∈ L ∨ (1 ≤ m.val ∧ hv m = frm)
  | 0, _ => fun m hm => .inl hm
  | j + 1, hj => fun m hm => by
    have ih := learn_edg (L := L) hf ht ho j (by omega)
    cases h : ((ns.getD j Ed.R.zero).ad != frm)
    · rw [learnE_no (by omega) h] at hm; exact ih m hm
    · rw [learnE_yes (by omega) h] at hm
      rcases mem_put hm with rfl | hm
      · obtain ⟨q1, q2, q3, q4⟩ := tupE_ok hf ht (Ri.all_ok ho (by omega)) h
        have hmt := Av.ok_mt (Ri.all_ok ho (show j < ns.length by omega))
        exact .inr ⟨by unfold tupE; dsimp only; omega, q3⟩
      · exact ih m hm
theorem hear_top {ss : List So.R} {es : List R} (h : topB ss es = true) {frm an til : Int} {ns : List Ed.R} (hf : 1 ≤ frm ∧ frm ≤ 8) (ha : 0 ≤ an ∧ an ≤ 65535) (ht : 0 ≤ til ∧ til ≤ 1073741824) (ho : Av.allN ns ns.length = true) :
    topB (withS ss ⟨frm, an, til⟩) (nowE es frm til ns) = true := by
  refine top_of (with_src (top_src h) ?_) ?_ (fun m hm => ?_)
  · unfold okS inB
    dsimp only
    rw [decide_eq_true (by omega), decide_eq_true (by omega), decide_eq_true (by omega), decide_eq_true (by omega), decide_eq_true (by omega), decide_eq_true (by omega)]; rfl
  · exact learnE_two (two_filter (top_two h) _) hf ht ho _ (Nat.le_refl _)
  · unfold nowE at hm
    unfold okE
    rcases learn_edg hf ht ho _ (Nat.le_refl _) m hm with hm | ⟨h1, h2⟩
    · have hm2 := (List.mem_filter.1 hm).1
      have := top_edg h m hm2
      unfold okE at this
      rw [Bool.and_eq_true] at this
      rw [this.1, with_has this.2]; rfl
    · rw [decide_eq_true h1, h2]
      exact with_own ss ⟨frm, an, til⟩
end Tp
end Go.Proofs.Ytilphgfjgeoiaaa
