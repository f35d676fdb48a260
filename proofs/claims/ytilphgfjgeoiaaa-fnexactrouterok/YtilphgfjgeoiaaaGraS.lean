/-
  The model's GraphOf. (written by mkgras.py)
-/
import Derived.Test.YtilphgfjgeoiaaaGraM
import Derived.Test.YtilphgfjgeoiaaaTopC
import Derived.Test.YtilphgfjgeoiaaaLnkC
import Derived.Test.YtilphgfjgeoiaaaSetYc
namespace Go.Proofs.Ytilphgfjgeoiaaa
open Go.ChangeShapes Go.WideShapes Go.ChangeAt Go.RowKit
set_option linter.unusedVariables false
set_option linter.unusedSimpArgs false
set_option maxRecDepth 100000
attribute [local go_sem ↓] Go.wp_at_zero Go.wp_at_succ
namespace Gr
open W1 Tu St Tw
/-- A slice that lies somewhere. -/
def Fm (v : Value) (n : Nat) : Prop := ∃ g c, v = .slice (some ⟨g, 0, none⟩) n c
theorem fm_lst {w : World} {v : Value} {ms : List R} {lo hi : Nat} (h : LstV w v ms lo hi) (h0 : 0 < ms.length) : Fm v ms.length := by
  obtain ⟨a, c, rfl, h⟩ := h
  rcases h with e | ⟨g, rfl, _⟩
  · rw [e] at h0; simp at h0
  · exact ⟨g, c, rfl⟩
theorem fm_lt {w : World} {v : Value} {ms : List R} {lo hi : Nat} (h : LstV w v ms lo hi) : RM w (match v with | .slice a _ _ => a | _ => none) ms := by
  obtain ⟨a, c, rfl, h⟩ := h
  exact h.rm
theorem l07KeyG (v a : Int) (w : World) (h0 : 0 ≤ v) (h1 : v ≤ 1000000) (h2 : 0 ≤ a) (h3 : a ≤ 1000000) : Calls Try.prog 87 #[.int .i64 v, .int .i64 a] w fun e w' => e = .returned (.int .i64 (100 * v + a)) ∧ w' = w := by
  go_enter Try.func87, Try.ntmps87
  go_wp2
  go_ret
  exact ⟨rfl, rfl⟩
theorem sLk {w : World} {B : Nat} {ad hd sy ci co wl : Int} (h : Lk.At w B 0 ⟨ad, hd, sy, ci, co, wl⟩) : Lk.At w B 0 ⟨ad, hd, sy, ci, co, wl⟩ ∧ w.cell? ⟨B, 0, none⟩ = some (.int .i64 ad) ∧ w.cell? ⟨B, 4, none⟩ = some (.int .i64 co) := by
  refine ⟨h, h.1, ?_⟩
  have := h.2.2.2.2.1
  simpa using this
theorem lk_new (w : World) (ad hd sy ci co wl : Int) : Lk.At (w.alloc (.cells #[.int .i64 ad, .int .i64 hd, .int .i64 sy, .int .i64 ci, .int .i64 co, .int .i64 wl] 101)) w.heap.size 0 ⟨ad, hd, sy, ci, co, wl⟩ := by
  refine ⟨?_, ?_, ?_, ?_, ?_, ?_⟩ <;> simp [World.cell?_alloc_new]
theorem lk_drew {w : World} {B o : Nat} {m : Lk.R} (h : Lk.At w B o m) : Lk.At w.drew B o m := h
/-- The reasons why a link is none of the graph's. -/
theorem lk_off {me now ad hd sy ci co wl st : Int} (hst : Ln.statusV ⟨ad, hd, sy, ci, co, wl⟩ now = st) (h : lkOn me now ⟨ad, hd, sy, ci, co, wl⟩ = false) :
    (st == 2) = false ∨ (st == 2) = true ∧ ((ad != me) = false ∨ (ad != me) = true ∧ ¬ 0 < co) := by
  unfold lkOn at h
  dsimp only at h
  rw [hst] at h
  cases e1 : (st == 2)
  · exact .inl rfl
  · right; refine ⟨rfl, ?_⟩
    cases e2 : (ad != me)
    · exact .inl rfl
    · right; refine ⟨rfl, ?_⟩
      rw [e1, e2] at h
      simpa using h
theorem lk_on {me now ad hd sy ci co wl st : Int} (hst : Ln.statusV ⟨ad, hd, sy, ci, co, wl⟩ now = st) (h : lkOn me now ⟨ad, hd, sy, ci, co, wl⟩ = true) :
    (st == 2) = true ∧ (ad != me) = true ∧ 0 < co := by
  unfold lkOn at h
  dsimp only at h
  rw [hst, Bool.and_eq_true, Bool.and_eq_true, decide_eq_true_eq] at h
  exact ⟨h.2.2, h.1, h.2.1⟩
theorem ed_off {me now key til val : Int} (h : edOn me now ⟨key, til, val⟩ = false) (h0 : 0 ≤ key) : ¬ now < til ∨ now < til ∧ ((key / 100 != me) = false ∨ (key / 100 != me) = true ∧ (key % 100 != me) = false) := by
  unfold edOn hv ha at h
  dsimp only at h
  rw [Int.tdiv_eq_ediv_of_nonneg h0, Int.tmod_eq_emod_of_nonneg h0] at h
  by_cases e1 : now < til
  · right; refine ⟨e1, ?_⟩
    rw [decide_eq_true e1, Bool.true_and] at h
    cases e2 : (key / 100 != me)
    · exact .inl rfl
    · right; refine ⟨rfl, ?_⟩
      rw [e2, Bool.true_and] at h; exact h
  · exact .inl e1
theorem ed_on {me now key til val : Int} (h : edOn me now ⟨key, til, val⟩ = true) (h0 : 0 ≤ key) : now < til ∧ (key / 100 != me) = true ∧ (key % 100 != me) = true := by
  unfold edOn hv ha at h
  dsimp only at h
  rw [Int.tdiv_eq_ediv_of_nonneg h0, Int.tmod_eq_emod_of_nonneg h0, Bool.and_eq_true, Bool.and_eq_true, decide_eq_true_eq] at h
  exact h
theorem lstV_nil (W : World) (a : Option Addr) (c lo hi : Nat) : LstV W (.slice a 0 c) [] lo hi := ⟨a, c, rfl, .inl rfl⟩
end Gr
end Go.Proofs.Ytilphgfjgeoiaaa
