/-
  Mathematics of FnNeedless.
-/
import Derived.Test.YtpknahhdapmcoacFloC
import Derived.Test.YtpknahhdapmcoacCovM
namespace Go.Proofs.Ytpknahhdapmcoac
set_option linter.unusedVariables false
set_option linter.unusedSimpArgs false
namespace Cv
open W1 Mr Gp
theorem left_none (via : Int → List Int) (S : List Int) : leftV via S [] = S := by
  unfold leftV
  exact List.filter_eq_self.2 (fun z _ => rfl)
theorem up_inj {zs : List Int} (hu : UpI zs) {i j : Nat} (hi : i < zs.length) (hj : j < zs.length) (h : zs.getD i 0 = zs.getD j 0) : i = j := by
  rw [List.getD_eq_getElem?_getD, List.getD_eq_getElem?_getD, List.getElem?_eq_getElem hi, List.getElem?_eq_getElem hj] at h
  simp only [Option.getD_some] at h
  rcases Nat.lt_trichotomy i j with h1 | h1 | h1
  · have := (List.pairwise_iff_getElem.1 hu) i j hi hj h1; omega
  · exact h1
  · have := (List.pairwise_iff_getElem.1 hu) j i hj hi h1; omega
theorem need_has {via : Int → List Int} {S zs : List Int} (hu : UpI zs) {i : Nat} (hi : i < zs.length) : (needN via S zs zs.length).contains (zs.getD i 0) = needB via S zs i := by
  rw [Bool.eq_iff_iff, List.contains_iff_mem]
  unfold needN
  rw [List.mem_map]
  constructor
  · rintro ⟨j, hj, e⟩
    rw [List.mem_filter, List.mem_range] at hj
    have := up_inj hu hj.1 hi e
    subst this; exact hj.2
  · intro h
    exact ⟨i, List.mem_filter.2 ⟨List.mem_range.2 hi, h⟩, rfl⟩
theorem need_facts {ms : List Tu.R} {ls : List Lk.R} {me now : Int} {zs : List Int} (hc : Tw.codeTL ms ls = 0) (h8 : zs.length ≤ 8) :
    needA ms ls me now zs = needN (viaF ms ls now) (strF ms ls me now) zs zs.length ∧ covA ms ls me now [] = ((Tw.strictA ms ls me now).length == 0) ∧ (∀ i, i < zs.length → codeM ms ls (rest zs i) = 0 ∧ covA ms ls me now (rest zs i) = needB (viaF ms ls now) (strF ms ls me now) zs i ∧ (rest zs i).length ≤ 8) := by
  have hcm : ∀ rs : List Int, rs.length ≤ 8 → codeM ms ls rs = 0 := fun rs h => by unfold codeM; rw [if_neg (by omega), if_pos hc, if_neg (by omega)]
  refine ⟨?_, ?_, fun i hi => ?_⟩
  · unfold needA; rw [if_pos (hcm zs h8)]
  · unfold covA
    rw [decide_eq_true (hcm [] (by simp)), left_none]
    unfold Tw.strictA
    rw [if_pos hc]; rfl
  · have hl : (rest zs i).length ≤ 8 := by
      unfold rest; rw [List.length_append, List.length_take, List.length_drop]; omega
    refine ⟨hcm _ hl, ?_, hl⟩
    unfold covA needB
    rw [decide_eq_true (hcm _ hl)]; rfl
theorem has_step {nd : List Int} {z : Int} {k : Nat} (h : k < nd.length) : (nd.take (k + 1)).contains z = ((nd.take k).contains z || nd.getD k 0 == z) := by
  rw [take_has h]
  congr 1
  rw [Bool.eq_iff_iff]; simp only [beq_iff_eq]; exact eq_comm
end Cv
end Go.Proofs.Ytpknahhdapmcoac
