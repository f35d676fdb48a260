/-
  The program's contract over links: LinkFind.
-/
import Derived.Test.YtmelbilepfnmjamLnkK
namespace Go.Proofs.Ytmelbilepfnmjam
open Go.ChangeShapes Go.WideShapes Go.ChangeAt Go.RowKit
set_option linter.unusedVariables false
set_option linter.unusedSimpArgs false
attribute [local go_sem ↓] Go.wp_at_zero Go.wp_at_succ
namespace Ln
open W1 Lk Mp
set_option maxRecDepth 100000 in
set_option maxHeartbeats 8000000 in
theorem implFind (a : Option Addr) (ms : List R) (cap : Nat) (k : Int) (hwk : (Lit.int .i64 k).wf = true) (w : World) (hm : ms.length ≤ 1048576) (hr : RM w a ms) :
    Calls Try.prog 18 #[.slice a ms.length cap, .int .i64 k] w fun e w' => e = .returned (.tuple #[(lkA ms k).value, .int .i64 (lkE ms k)]) ∧ Below w.heap.size w w' := by
  have HA : Hid (Below w.heap.size w (w.alloc (.cells #[.int .i64 0, .int .i64 0, .int .i64 0, .int .i64 0, .int .i64 0, .int .i64 0] 32))) := hide ((Below.refl _ _).alloc (Nat.le_refl _) _)
  have HV : Hid (LV (w.alloc (.cells #[.int .i64 0, .int .i64 0, .int .i64 0, .int .i64 0, .int .i64 0, .int .i64 0] 32)) w.heap.size R.zero) := hide (lv_new w R.zero)
  have HR := hide ((hr).below (unhide HA))
  have HWK := hide hwk
  clear hr hwk
  by_cases hc : codeL ms = 0
  rotate_left
  · have h1 : lkA ms k = R.zero := by unfold lkA; rw [if_neg hc]
    have h2 : lkE ms k = codeL ms := by unfold lkE; rw [if_neg hc]
    rw [h1, h2]
    clear h1 h2
    generalize hcd : codeL ms = cd at *
    have HC := hide hcd
    clear hcd
    have hcb : (cd != 0) = true := by rw [bne_iff_ne]; exact hc
    go_enter Try.func18, Try.ntmps18
    go_wp2_with fail
    refine (linksCode _ ms cap _ hm (unhide HR)).mono ?_
    rintro e w1 ⟨rfl, b1⟩
    rw [unhide HC]
    have HA1 := hide ((unhide HA).trans (b1.mono (unhide HA).size))
    have HV1 := hide ((unhide HV).below b1)
    clear b1
    obtain ⟨x0, x1, x2, x3, x4, x5⟩ := (unhide HV1).cells
    simp only [Nat.zero_add] at x1 x2 x3 x4 x5
    have y0 := (unhide HV1).free 0
    have y1 := (unhide HV1).free 1
    have y2 := (unhide HV1).free 2
    have y3 := (unhide HV1).free 3
    have y4 := (unhide HV1).free 4
    have y5 := (unhide HV1).free 5
    unfold R.zero at x0 x1 x2 x3 x4 x5
    dsimp only at x0 x1 x2 x3 x4 x5
    go_wp2_with fail
    refine bodyPost_ret (v := .tuple #[.agg #[.int .i64 0, .int .i64 0, .int .i64 0, .int .i64 0, .int .i64 0, .int .i64 0], .int .i64 cd]) (by simp [results, Try.results18, go_sem, x0, x1, x2, x3, x4, x5]) rfl ⟨rfl, ?_⟩
    have hB := unhide HA1
    (repeat (first | (with_reducible exact hB) | (with_reducible refine Below.drew ?_) | (with_reducible refine Below.setCell ?_ ?_ _; rotate_left; (first | exact Nat.le_refl _ | (simp; done) | (dsimp only; omega))) | (with_reducible refine Below.alloc ?_ ?_ _; rotate_left; (first | exact Nat.le_refl _ | omega | (simp [World.setCell]; omega)))))
  have hs : linksB ms = true := by cases hh : linksB ms; (unfold codeL at hc; rw [hh] at hc; split at hc <;> simp at hc); rfl
  have h1 : lkA ms k = lkF ms k := by unfold lkA; rw [if_pos hc]
  have h2 : lkE ms k = if (ms.find? (isAd k)).isSome = true then 0 else 5 := by unfold lkE; rw [if_pos hc]
  have hz : (ms.find? (isAd k)).isSome = false → lkF ms k = R.zero := by intro h; unfold lkF; cases hf : ms.find? (isAd k) with
    | none => rfl
    | some y => rw [hf] at h; simp at h
  rw [h1, h2]
  obtain ⟨A, hA⟩ : ∃ A, lkF ms k = A := ⟨_, rfl⟩
  obtain ⟨E, hE⟩ : ∃ E, (ms.find? (isAd k)).isSome = E := ⟨_, rfl⟩
  rw [hA, hE] at hz ⊢
  obtain ⟨ad, hd, sy, ci, co, wl⟩ := A
  unfold R.value
  dsimp only
  have HAA : Hid ((ms.find? (isAd k)).getD R.zero = ⟨ad, hd, sy, ci, co, wl⟩) := hide hA
  have HE := hide hE
  have HS := hide hs
  have HZ := hide hz
  have HCC := hide hc
  clear h1 h2 hc hs hz hA hE
  go_enter Try.func18, Try.ntmps18
  go_wp2_with fail
  refine (linksCode _ ms cap _ hm (unhide HR)).mono ?_
  rintro e w1 ⟨rfl, b1⟩
  rw [unhide HCC]
  have HA1 := hide ((unhide HA).trans (b1.mono (unhide HA).size))
  have HV1 := hide ((unhide HV).below b1)
  have HR1 := hide ((unhide HR).below b1)
  clear b1
  go_wp2_with fail
  refine (linksByKey _ ms cap _ (unhide HS) (unhide HR1)).mono ?_
  rintro e w2 ⟨bm, rfl, _, om2, b2⟩
  have HA2 := hide ((unhide HA1).trans (b2.mono (unhide HA1).size))
  have HV2 := hide ((unhide HV1).below b2)
  have HM := hide om2
  clear b2 om2
  have hlw : w.heap.size < w2.heap.size := (unhide HV2).lt
  have hnw : ¬ (w.heap.size = w2.heap.size) := by omega
  obtain ⟨x0, x1, x2, x3, x4, x5⟩ := (unhide HV2).cells
  simp only [Nat.zero_add] at x1 x2 x3 x4 x5
  have y0 := (unhide HV2).free 0
  have y1 := (unhide HV2).free 1
  have y2 := (unhide HV2).free 2
  have y3 := (unhide HV2).free 3
  have y4 := (unhide HV2).free 4
  have y5 := (unhide HV2).free 5
  unfold R.zero at x0 x1 x2 x3 x4 x5
  dsimp only at x0 x1 x2 x3 x4 x5
  cases E
  · obtain ⟨rfl, rfl, rfl, rfl, rfl, rfl⟩ : ad = 0 ∧ hd = 0 ∧ sy = 0 ∧ ci = 0 ∧ co = 0 ∧ wl = 0 := by have := unhide HZ rfl; unfold R.zero at this; simpa using this
    clear HZ
    go_wp2_with (at_lookup; refine wpList_lookA _ rfl _ _ rfl bm _ _ rfl (unhide HM) k (unhide HWK) rfl 0 0 0 0 0 0 false (unhide HAA) (unhide HE) ?_)
    refine bodyPost_ret (v := .tuple #[.agg #[.int .i64 0, .int .i64 0, .int .i64 0, .int .i64 0, .int .i64 0, .int .i64 0], .int .i64 5]) (by simp [results, Try.results18, go_sem, x0, x1, x2, x3, x4, x5, hlw]) rfl ⟨rfl, ?_⟩
    have hB := unhide HA2
    (repeat (first | (with_reducible exact hB) | (with_reducible refine Below.drew ?_) | (with_reducible refine Below.setCell ?_ ?_ _; rotate_left; (first | exact Nat.le_refl _ | (simp; done) | (dsimp only; omega))) | (with_reducible refine Below.alloc ?_ ?_ _; rotate_left; (first | exact Nat.le_refl _ | omega | (simp [World.setCell]; omega)))))
  · clear HZ
    go_wp2_with (at_lookup; refine wpList_lookA _ rfl _ _ rfl bm _ _ rfl (unhide HM) k (unhide HWK) rfl ad hd sy ci co wl true (unhide HAA) (unhide HE) ?_)
    refine bodyPost_ret (v := .tuple #[.agg #[.int .i64 ad, .int .i64 hd, .int .i64 sy, .int .i64 ci, .int .i64 co, .int .i64 wl], .int .i64 0]) (by simp [results, Try.results18, go_sem, x0, x1, x2, x3, x4, x5, hlw]) rfl ⟨rfl, ?_⟩
    have hB := unhide HA2
    (repeat (first | (with_reducible exact hB) | (with_reducible refine Below.drew ?_) | (with_reducible refine Below.setCell ?_ ?_ _; rotate_left; (first | exact Nat.le_refl _ | (simp; done) | (dsimp only; omega))) | (with_reducible refine Below.alloc ?_ ?_ _; rotate_left; (first | exact Nat.le_refl _ | omega | (simp [World.setCell]; omega)))))
end Ln
end Go.Proofs.Ytmelbilepfnmjam
