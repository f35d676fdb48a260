/-
  Of the texts RtrB, NetPu, NetNw, NetSc, NetNi, NetNs, NetE, NetHc, ExNewNetW: what this claim needs of them. (put together by mkprune.py)
-/
import Derived.Test.YtpmlpojefelbbaaQd3
import Derived.Deep.Cut
import Derived.Deep.DeepHandedRow
namespace Go.Proofs.Ytpmlpojefelbbaa
open Go.ChangeShapes Go.WideShapes Go.ChangeAt Go.RowKit
set_option linter.unusedVariables false
set_option linter.unusedSimpArgs false
set_option maxRecDepth 100000
attribute [local go_sem ↓] Go.wp_at_zero Go.wp_at_succ
namespace Rt
open W1
/-- A router whose lists are empty. -/
def EV (x y z : Int) (v : Value) : Prop := ∃ a1 a2 a3 a4 a5 a6 a7 : Option Addr, v = .agg (rC x y z 0 0 (.slice a1 0 0) (.slice a2 0 0) (.slice a3 0 0) (.slice a4 0 0) (.slice a5 0 0) (.slice a6 0 0) (.slice a7 0 0) 0).toArray
theorem RA.alloc {w : World} {b : Nat} {cs : List Value} (h : RA w b cs) (ob : Obj) : RA (w.alloc ob) b cs := h.below ((Below.refl _ _).alloc (Nat.le_refl _) ob)
theorem bel_alloc {w w' : World} (h : Below w.heap.size w w') (ob : Obj) : Below w.heap.size w (w'.alloc ob) := h.alloc h.size ob
set_option maxHeartbeats 8000000 in
theorem implNew (x y z : Int) (w : World) : Calls Try.prog 21 #[.int .i64 x, .int .i64 y, .int .i64 z] w fun e w' => ∃ v, e = .returned (.tuple #[v, .int .i64 (codeN x y z)]) ∧ EV (pickN x y z x) (pickN x y z y) (pickN x y z z) v ∧ Below w.heap.size w w' := by
  cases e1 : inB x 1 8
  · have P1 : pickN x y z x = 0 := by unfold pickN okN; simp [*]
    have P2 : pickN x y z y = 0 := by unfold pickN okN; simp [*]
    have P3 : pickN x y z z = 0 := by unfold pickN okN; simp [*]
    have P4 : codeN x y z = 4 := by unfold codeN okN; simp [*]
    rw [P1, P2, P3, P4]
    clear P1 P2 P3 P4
    go_enter Try.func21, Try.ntmps21
    go_wp2_with (first | (go_at_call 33; refine (isAddress _ _).mono ?_; rintro e w' ⟨rfl, rfl⟩) | (go_at_call 34; refine (isWillN _ _).mono ?_; rintro e w' ⟨rfl, rfl⟩) | (go_at_call 35; refine (isSeq _ _).mono ?_; rintro e w' ⟨rfl, rfl⟩))
    refine bodyPost_ret (resultsR2 rfl _ _ rfl (ra_new w _ rfl _) rfl) rfl ⟨_, rfl, ⟨_, _, _, _, _, _, _, rfl⟩, bel_alloc (Below.refl _ _) _⟩
  cases e2 : inB y 0 7
  · have P1 : pickN x y z x = 0 := by unfold pickN okN; simp [*]
    have P2 : pickN x y z y = 0 := by unfold pickN okN; simp [*]
    have P3 : pickN x y z z = 0 := by unfold pickN okN; simp [*]
    have P4 : codeN x y z = 4 := by unfold codeN okN; simp [*]
    rw [P1, P2, P3, P4]
    clear P1 P2 P3 P4
    go_enter Try.func21, Try.ntmps21
    go_wp2_with (first | (go_at_call 33; refine (isAddress _ _).mono ?_; rintro e w' ⟨rfl, rfl⟩) | (go_at_call 34; refine (isWillN _ _).mono ?_; rintro e w' ⟨rfl, rfl⟩) | (go_at_call 35; refine (isSeq _ _).mono ?_; rintro e w' ⟨rfl, rfl⟩))
    refine bodyPost_ret (resultsR2 rfl _ _ rfl (ra_new w _ rfl _) rfl) rfl ⟨_, rfl, ⟨_, _, _, _, _, _, _, rfl⟩, bel_alloc (Below.refl _ _) _⟩
  cases e3 : inB z 0 65535
  · have P1 : pickN x y z x = 0 := by unfold pickN okN; simp [*]
    have P2 : pickN x y z y = 0 := by unfold pickN okN; simp [*]
    have P3 : pickN x y z z = 0 := by unfold pickN okN; simp [*]
    have P4 : codeN x y z = 4 := by unfold codeN okN; simp [*]
    rw [P1, P2, P3, P4]
    clear P1 P2 P3 P4
    go_enter Try.func21, Try.ntmps21
    go_wp2_with (first | (go_at_call 33; refine (isAddress _ _).mono ?_; rintro e w' ⟨rfl, rfl⟩) | (go_at_call 34; refine (isWillN _ _).mono ?_; rintro e w' ⟨rfl, rfl⟩) | (go_at_call 35; refine (isSeq _ _).mono ?_; rintro e w' ⟨rfl, rfl⟩))
    refine bodyPost_ret (resultsR2 rfl _ _ rfl (ra_new w _ rfl _) rfl) rfl ⟨_, rfl, ⟨_, _, _, _, _, _, _, rfl⟩, bel_alloc (Below.refl _ _) _⟩
  · have P1 : pickN x y z x = x := by unfold pickN okN; rw [e1, e2, e3]; rfl
    have P2 : pickN x y z y = y := by unfold pickN okN; rw [e1, e2, e3]; rfl
    have P3 : pickN x y z z = z := by unfold pickN okN; rw [e1, e2, e3]; rfl
    have P4 : codeN x y z = 0 := by unfold codeN okN; rw [e1, e2, e3]; rfl
    rw [P1, P2, P3, P4]
    clear P1 P2 P3 P4
    go_enter Try.func21, Try.ntmps21
    go_wp2_with (first | (go_at_call 33; refine (isAddress _ _).mono ?_; rintro e w' ⟨rfl, rfl⟩) | (go_at_call 34; refine (isWillN _ _).mono ?_; rintro e w' ⟨rfl, rfl⟩) | (go_at_call 35; refine (isSeq _ _).mono ?_; rintro e w' ⟨rfl, rfl⟩))
    refine bodyPost_ret (resultsR2 rfl _ _ rfl (ra_new w _ rfl _) rfl) rfl ⟨_, rfl, ⟨_, _, _, _, _, _, _, rfl⟩, bel_alloc (Below.refl _ _) _⟩
end Rt
end Go.Proofs.Ytpmlpojefelbbaa
namespace Go.Proofs.Ytpmlpojefelbbaa
open Go.ChangeShapes Go.WideShapes Go.ChangeAt Go.RowKit
set_option linter.unusedVariables false
set_option linter.unusedSimpArgs false
set_option maxRecDepth 100000
attribute [local go_sem ↓] Go.wp_at_zero Go.wp_at_succ
namespace Nt
open W1 Rt Na
/-- A router at its beginning, again with a number and a time. -/
def newM (x y z v u : Int) : Rm := ⟨x, y, z, v, u, 0, [], [], [], [], [], [], []⟩
theorem newM_ow {W : World} {lo hi : Nat} {x y z v u : Int} {q : Pl} (h : lo ≤ hi) : Ow W lo hi (newM x y z v u) q := by
  refine ⟨lo, lo, lo, lo, lo, lo, ⟨Nat.le_refl _, Nat.le_refl _, Nat.le_refl _, Nat.le_refl _, Nat.le_refl _, Nat.le_refl _, h⟩, .inl rfl, .inl rfl, .inl rfl, .inl rfl, .inl rfl, .inl rfl, .inl rfl⟩
theorem MT.row {W : World} {lo hi : Nat} {a b d : Option Addr} {ms : List Rm} {qs : List Pl} {cs : List Int} {fs : List Fm.R} (h : MT W lo hi a b d ms qs cs fs) (h0 : 0 < ms.length) : ∃ g, a = some ⟨g, 0, none⟩ ∧ lo ≤ g ∧ g < hi ∧ g < W.heap.size ∧ W.there g 0 (ms.length * 13) ∧ ∀ i, i < ms.length → W.rangeAt g (i * 13) (cl (ms.getD i Rm.zero) (qs.getD i Pl.zero)) := by
  obtain ⟨f, p1, q1, p2, q2, p3, q3, e1, e2, e3, e4, e5, e6, g1, g2, g3⟩ := h
  rcases g1 with g1 | ⟨g, rfl, h1, h2, h3, h4, h5, h6, h7⟩
  · omega
  · exact ⟨g, rfl, by omega, by omega, h3, h7.2.1, h7.1⟩
theorem l12NewA (x y z : Int) (w : World) : Calls Try.prog 31 #[.int .i64 x, .int .i64 y, .int .i64 z] w fun e w' => ∃ q, e = .returned (.agg (cl (newM x y z 0 0) q).toArray) ∧ Below w.heap.size w w' ∧ Hid (Ad q) := by
  go_enter Try.func31, Try.ntmps31
  go_wp2_with fail
  refine bodyPost_ret (resultsR rfl _ _ rfl (RA.alloc (RA.alloc (RA.alloc (RA.alloc (RA.alloc (RA.alloc (RA.alloc (ra_new w _ rfl _) _) _) _) _) _) _) _)) rfl ⟨⟨some ⟨_, 0, none⟩, some ⟨_, 0, none⟩, some ⟨_, 0, none⟩, some ⟨_, 0, none⟩, some ⟨_, 0, none⟩, some ⟨_, 0, none⟩, some ⟨_, 0, none⟩, 0, 0, 0, 0, 0, 0, 0⟩, rfl, ?_, hide ⟨⟨_, rfl⟩, ⟨_, rfl⟩, ⟨_, rfl⟩, ⟨_, rfl⟩, ⟨_, rfl⟩, ⟨_, rfl⟩, ⟨_, rfl⟩⟩⟩
  exact bel_alloc (bel_alloc (bel_alloc (bel_alloc (bel_alloc (bel_alloc (bel_alloc (bel_alloc (Below.refl _ _) _) _) _) _) _) _) _) _
end Nt
end Go.Proofs.Ytpmlpojefelbbaa
namespace Go.Proofs.Ytpmlpojefelbbaa
open Go.ChangeShapes Go.WideShapes Go.ChangeAt Go.RowKit
set_option linter.unusedVariables false
set_option linter.unusedSimpArgs false
set_option maxRecDepth 100000
attribute [local go_sem ↓] Go.wp_at_zero Go.wp_at_succ
namespace Nt
open W1 Rt Na
/-- A new net's code. -/
def willB (ws : List Int) (j : Nat) : Bool := inB (ws.getD j 0) 0 7
def nnE (ws cs : List Int) : Int :=
  if 4096 < ws.length ∨ 4096 < cs.length then 2 else if inB ws.length 1 6 = true then (if costB cs ws.length = true then (if allI ws.length (willB ws) = true then 0 else 4) else 1) else 6
/-- The first n of a new net's routers. -/
def nnR (ws : List Int) (n : Nat) : List Rm := (List.range n).map fun (i : Nat) => newM ((i : Int) + 1) (ws.getD i 0) 0 0 0
theorem nnR_len (ws : List Int) (n : Nat) : (nnR ws n).length = n := by unfold nnR; simp
theorem nnR_get {ws : List Int} {n i : Nat} (h : i < n) : (nnR ws n).getD i Rm.zero = newM ((i : Int) + 1) (ws.getD i 0) 0 0 0 := by
  unfold nnR
  rw [List.getD_eq_getElem?_getD, List.getElem?_map, List.getElem?_range h]; rfl
def nnM (e : Int) (ws : List Int) : List Rm := if e = 0 then nnR ws ws.length else []
def nnC (e : Int) (cs : List Int) : List Int := if e = 0 then cs else []
theorem nn_small {ws cs : List Int} (h : nnE ws cs = 0) : 1 ≤ ws.length ∧ ws.length ≤ 6 ∧ costB cs ws.length = true ∧ allI ws.length (willB ws) = true := by
  unfold nnE at h
  split at h
  · omega
  · split at h
    · rename_i h1
      have : (1 : Int) ≤ (ws.length : Int) ∧ (ws.length : Int) ≤ 6 := by simpa [inB] using h1
      split at h
      · split at h
        · exact ⟨by omega, by omega, by assumption, by assumption⟩
        · omega
      · omega
    · omega
theorem implNewA (x y : Int) (w : World) (hx : inB x 1 8 = true) : Calls Try.prog 21 #[.int .i64 x, .int .i64 y, .int .i64 0] w fun e w' => ∃ q, e = .returned (.tuple #[.agg (cl (if inB y 0 7 = true then newM x y 0 0 0 else newM 0 0 0 0 0) q).toArray, .int .i64 (if inB y 0 7 = true then 0 else 4)]) ∧ Below w.heap.size w w' := by
  refine (implNew x y 0 w).mono ?_
  rintro e w' ⟨v, rfl, ⟨a1, a2, a3, a4, a5, a6, a7, rfl⟩, b⟩
  refine ⟨⟨a1, a2, a3, a4, a5, a6, a7, 0, 0, 0, 0, 0, 0, 0⟩, ?_, b⟩
  have h0 : inB 0 0 65535 = true := rfl
  unfold pickN codeN okN
  rw [hx, h0]
  cases inB y 0 7 <;> rfl
end Nt
end Go.Proofs.Ytpmlpojefelbbaa
namespace Go.Proofs.Ytpmlpojefelbbaa
open Go.ChangeShapes Go.WideShapes Go.ChangeAt Go.RowKit
set_option linter.unusedVariables false
set_option linter.unusedSimpArgs false
set_option maxRecDepth 100000
attribute [local go_sem ↓] Go.wp_at_zero Go.wp_at_succ
namespace Nt
open W1 Rt Na
theorem MT.mono {W : World} {lo hi lo' hi' : Nat} {a b d : Option Addr} {ms : List Rm} {qs : List Pl} {cs : List Int} {fs : List Fm.R} (h : MT W lo hi a b d ms qs cs fs) (h1 : lo' ≤ lo) (h2 : hi ≤ hi') : MT W lo' hi' a b d ms qs cs fs := by
  obtain ⟨f, p1, q1, p2, q2, p3, q3, e1, e2, e3, r⟩ := h
  exact ⟨f, p1, q1, p2, q2, p3, q3, by omega, by omega, by omega, r⟩
theorem MT.costs {W : World} {lo hi : Nat} {a b d : Option Addr} {ms : List Rm} {qs : List Pl} {cs : List Int} {fs : List Fm.R} (h : MT W lo hi a b d ms qs cs fs) (h0 : 0 < cs.length) : ∃ g, b = some ⟨g, 0, none⟩ ∧ lo ≤ g ∧ g < hi ∧ g < W.heap.size ∧ ∀ i, i < cs.length → W.cell? ⟨g, i, none⟩ = some (.int .i64 (cs.getD i 0)) ∧ W.frozen? ⟨g, i, none⟩ = false := by
  obtain ⟨f, p1, q1, p2, q2, p3, q3, e1, e2, e3, e4, e5, e6, g1, g2, g3⟩ := h
  rcases g2 with g2 | ⟨g, rfl, h1, h2, h3, h4⟩
  · rw [g2] at h0; simp at h0
  · exact ⟨g, rfl, by omega, by omega, h3, fun i hi => ⟨h4.1 i hi, (h4.2 i hi).2⟩⟩
end Nt
end Go.Proofs.Ytpmlpojefelbbaa
namespace Go.Proofs.Ytpmlpojefelbbaa
open Go.ChangeShapes Go.WideShapes Go.ChangeAt Go.RowKit
set_option linter.unusedVariables false
set_option linter.unusedSimpArgs false
set_option maxRecDepth 100000
attribute [local go_sem ↓] Go.wp_at_zero Go.wp_at_succ
namespace Nt
open W1 Rt Na
theorem mt_new {W : World} {lo hi g p2 q2 n : Nat} {b : Option Addr} {ms : List Rm} {qs : List Pl} {cs : List Int} (hn : ms.length = n) (h1 : lo ≤ p2) (h2 : q2 ≤ g) (h4 : lo ≤ g) (h3 : g < hi) (hg : g < W.heap.size) (hr : ∀ i, i < n → W.rangeAt g (i * 13) (cl (ms.getD i Rm.zero) (qs.getD i Pl.zero))) (ht : W.there g 0 (n * 13)) (ho : ∀ i, i < n → ∃ x y, ms.getD i Rm.zero = newM x y 0 0 0) (hc : In.Lst W b cs p2 q2) : MT W lo hi (some ⟨g, 0, none⟩) b none ms qs cs [] := by
  subst hn
  refine ⟨fun _ => g, g, g + 1, p2, q2, lo, lo, by omega, by omega, by omega, by omega, by omega, by omega, ?_, hc, .inl rfl⟩
  refine .inr ⟨g, rfl, Nat.le_refl _, by omega, hg, fun i hi => .inr (Nat.le_refl _), fun i hi => Nat.le_refl _, fun i hi => ⟨Nat.le_refl _, Nat.le_succ _, Nat.le_of_lt hg⟩, hr, ht, fun i hi => ?_⟩
  obtain ⟨x, y, e⟩ := ho i hi
  dsimp only
  rw [e]
  exact newM_ow (Nat.le_refl _)
set_option maxHeartbeats 16000000 in
theorem implNN (a b : Option Addr) (ca cb : Nat) (ws cs : List Int) (w : World) (hm : ws.length ≤ 1048576) (hc : cs.length ≤ 1048576) (hr : In.RM w a ws) (hi : In.RM w b cs) :
    Calls Try.prog 7 #[.slice a ws.length ca, .slice b cs.length cb] w fun e w' => ∃ v, e = .returned (.tuple #[v, .int .i64 (nnE ws cs)]) ∧ Below w.heap.size w w' ∧ GotM v w w' (nnM (nnE ws cs) ws) (nnC (nnE ws cs) cs) [] 0 := by
  have HB0 := hide (bel_new w (.cells #[.slice none 0 0, .slice none 0 0, .slice none 0 0, .int .i64 0] 26))
  have hq0 : (w.alloc (.cells #[.slice none 0 0, .slice none 0 0, .slice none 0 0, .int .i64 0] 26)).heap.size = w.heap.size + 1 := by simp
  have TZ0 := hide (there_new4 w (.slice none 0 0) (.slice none 0 0) (.slice none 0 0) (.int .i64 0) 26)
  by_cases hA : 4096 < ws.length
  · have hE : nnE ws cs = 2 := by unfold nnE; rw [if_pos (.inl hA)]
    rw [hE, show nnM 2 ws = [] from rfl, show nnC 2 cs = [] from rfl]
    clear hE
    have k1 : (4096 : Int) < (ws.length : Int) := by omega
    clear hr hi hA hm hc
    go_enter Try.func7, Try.ntmps7
    obtain ⟨V0, hV0⟩ : ∃ V, w.alloc (.cells #[.slice none 0 0, .slice none 0 0, .slice none 0 0, .int .i64 0] 26) = V := ⟨_, rfl⟩
    rw [hV0] at HB0 TZ0 hq0
    go_wp2_with (first | (refine storeNB _ _ rfl rfl rfl rfl rfl (unhide TZ0) rfl rfl ?_; intro V9 n9 t9 bb9 s9 k9))
    (try rw [Exit.noGoto_ret])
    have hlt_ : w.heap.size ≤ V9.heap.size := (bb9 _ _ (unhide HB0) (Nat.le_refl _)).size
    refine bodyPost_ret (v := .tuple #[.agg #[.slice none 0 0, .slice none 0 0, .slice none 0 0, .int .i64 0], .int .i64 2]) (Na.resultsNC rfl _ _ rfl n9 rfl) rfl ⟨_, rfl, bb9 _ _ (unhide HB0) (Nat.le_refl _), Na.gotM_nil hlt_⟩
  have k1 : ¬ (4096 : Int) < (ws.length : Int) := by omega
  by_cases hB : 4096 < cs.length
  · have hE : nnE ws cs = 2 := by unfold nnE; rw [if_pos (.inr hB)]
    rw [hE, show nnM 2 ws = [] from rfl, show nnC 2 cs = [] from rfl]
    clear hE
    have k2 : (4096 : Int) < (cs.length : Int) := by omega
    clear hr hi hA hm hc hB
    go_enter Try.func7, Try.ntmps7
    obtain ⟨V0, hV0⟩ : ∃ V, w.alloc (.cells #[.slice none 0 0, .slice none 0 0, .slice none 0 0, .int .i64 0] 26) = V := ⟨_, rfl⟩
    rw [hV0] at HB0 TZ0 hq0
    go_wp2_with (first | (refine storeNB _ _ rfl rfl rfl rfl rfl (unhide TZ0) rfl rfl ?_; intro V9 n9 t9 bb9 s9 k9))
    (try rw [Exit.noGoto_ret])
    have hlt_ : w.heap.size ≤ V9.heap.size := (bb9 _ _ (unhide HB0) (Nat.le_refl _)).size
    refine bodyPost_ret (v := .tuple #[.agg #[.slice none 0 0, .slice none 0 0, .slice none 0 0, .int .i64 0], .int .i64 2]) (Na.resultsNC rfl _ _ rfl n9 rfl) rfl ⟨_, rfl, bb9 _ _ (unhide HB0) (Nat.le_refl _), Na.gotM_nil hlt_⟩
  have k2 : ¬ (4096 : Int) < (cs.length : Int) := by omega
  have KW := hide (fun W => within ws.length 1 6 W)
  have HE0 : Hid (nnE ws cs = if inB ws.length 1 6 = true then (if costB cs ws.length = true then (if allI ws.length (willB ws) = true then 0 else 4) else 1) else 6) := hide (by unfold nnE; rw [if_neg (by omega)])
  cases hin : inB ws.length 1 6
  · have hE : nnE ws cs = 6 := by rw [unhide HE0, hin]; rfl
    rw [hE, show nnM 6 ws = [] from rfl, show nnC 6 cs = [] from rfl]
    rw [hin] at KW
    clear hE HE0 hr hi hA hB hm hc hin
    go_enter Try.func7, Try.ntmps7
    obtain ⟨V0, hV0⟩ : ∃ V, w.alloc (.cells #[.slice none 0 0, .slice none 0 0, .slice none 0 0, .int .i64 0] 26) = V := ⟨_, rfl⟩
    rw [hV0] at HB0 TZ0 hq0
    go_wp2_with (first | (go_at_call 18; refine (unhide KW _).mono ?_; rintro e w_ ⟨rfl, rfl⟩) | (refine storeNB _ _ rfl rfl rfl rfl rfl (unhide TZ0) rfl rfl ?_; intro V9 n9 t9 bb9 s9 k9))
    (try rw [Exit.noGoto_ret])
    have hlt_ : w.heap.size ≤ V9.heap.size := (bb9 _ _ (unhide HB0) (Nat.le_refl _)).size
    refine bodyPost_ret (v := .tuple #[.agg #[.slice none 0 0, .slice none 0 0, .slice none 0 0, .int .i64 0], .int .i64 6]) (Na.resultsNC rfl _ _ rfl n9 rfl) rfl ⟨_, rfl, bb9 _ _ (unhide HB0) (Nat.le_refl _), Na.gotM_nil hlt_⟩
  have h16 : (1 : Int) ≤ (ws.length : Int) ∧ (ws.length : Int) ≤ 6 := by simpa [inB] using hin
  have KC := hide (fun (W : World) (h : Below w.heap.size w W) => areCosts b cs cb ws.length W hc (by omega) (by omega) (hi.below h))
  rw [hin] at KW
  cases hcb : costB cs ws.length
  · have hE : nnE ws cs = 1 := by rw [unhide HE0, hin, hcb]; rfl
    rw [hE, show nnM 1 ws = [] from rfl, show nnC 1 cs = [] from rfl]
    rw [hcb] at KC
    clear hE HE0 hr hi hA hB hm hc hin hcb
    go_enter Try.func7, Try.ntmps7
    obtain ⟨V0, hV0⟩ : ∃ V, w.alloc (.cells #[.slice none 0 0, .slice none 0 0, .slice none 0 0, .int .i64 0] 26) = V := ⟨_, rfl⟩
    rw [hV0] at HB0 TZ0 hq0
    go_wp2_with (first | (go_at_call 18; refine (unhide KW _).mono ?_; rintro e w_ ⟨rfl, rfl⟩) )
    refine (unhide KC _ (unhide HB0)).mono ?_
    rintro e V1 ⟨rfl, b1⟩
    have HB1 := hide ((unhide HB0).trans (b1.mono (unhide HB0).size))
    have TZ1 := hide (there_under (unhide TZ0) b1 (by omega))
    clear b1
    go_wp2_with (first | (refine storeNB _ _ rfl rfl rfl rfl rfl (unhide TZ1) rfl rfl ?_; intro V9 n9 t9 bb9 s9 k9))
    (try rw [Exit.noGoto_ret])
    have hlt_ : w.heap.size ≤ V9.heap.size := (bb9 _ _ (unhide HB1) (Nat.le_refl _)).size
    refine bodyPost_ret (v := .tuple #[.agg #[.slice none 0 0, .slice none 0 0, .slice none 0 0, .int .i64 0], .int .i64 1]) (Na.resultsNC rfl _ _ rfl n9 rfl) rfl ⟨_, rfl, bb9 _ _ (unhide HB1) (Nat.le_refl _), Na.gotM_nil hlt_⟩
  have HE : Hid (nnE ws cs = if allI ws.length (willB ws) = true then 0 else 4) := hide (by rw [unhide HE0, hin, hcb]; rfl)
  rw [hcb] at KC
  rcases hr with e0 | ⟨g0, off, rfl, hcc⟩
  · exfalso; rw [e0] at h16; simp at h16
  have HR : Hid (∀ W, Below w.heap.size w W → ∀ j, j < ws.length → W.cell? ⟨g0, off + j, none⟩ = some (.int .i64 (ws.getD j 0))) := hide (fun W hW j hj => by
    have h0 := hcc j hj
    rw [hW.cell (World.block_lt_of_cell? _ _ h0)]; exact h0)
  have HI := hide hi
  have HNO := hide (fun (j : Nat) (h1 : j < ws.length) (h2 : willB ws j = false) => allI_no (p := willB ws) (j := j) h1 h2)
  have HYES := hide (fun (h : ∀ i, i < ws.length → willB ws i = true) => allI_yes h)
  obtain ⟨n, hN⟩ : ∃ n, ws.length = n := ⟨_, rfl⟩
  have HN := hide hN
  rw [hN] at KW KC HE h16 k1 HR HNO HYES ⊢
  obtain ⟨E, hEE⟩ : ∃ E, nnE ws cs = E := ⟨_, rfl⟩
  obtain ⟨Ms, hMs⟩ : ∃ M, nnM E ws = M := ⟨_, rfl⟩
  obtain ⟨Cs, hCs⟩ : ∃ M, nnC E cs = M := ⟨_, rfl⟩
  have HM4 := hide (show E = 4 → Ms = [] ∧ Cs = [] from fun h => by rw [← hMs, ← hCs, h]; exact ⟨rfl, rfl⟩)
  have HM0 := hide (show E = 0 → Ms = nnR ws n ∧ Cs = cs from fun h => by rw [← hMs, ← hCs, h, ← unhide HN]; exact ⟨rfl, rfl⟩)
  rw [hEE, hMs, hCs]
  have HEE := hide hEE
  clear HE0 hcc hi hA hB hm hin hcb hN hEE hMs hCs
  have hc4 : cs.length ≤ 4096 := by omega
  clear hc
  go_enter Try.func7, Try.ntmps7
  obtain ⟨V0, hV0⟩ : ∃ V, w.alloc (.cells #[.slice none 0 0, .slice none 0 0, .slice none 0 0, .int .i64 0] 26) = V := ⟨_, rfl⟩
  rw [hV0] at HB0 TZ0 hq0
  go_wp2_with (first | (go_at_call 18; refine (unhide KW _).mono ?_; rintro e w_ ⟨rfl, rfl⟩) )
  refine (unhide KC _ (unhide HB0)).mono ?_
  rintro e V1 ⟨rfl, b1⟩
  have HB1 := hide ((unhide HB0).trans (b1.mono (unhide HB0).size))
  have TZ1 := hide (there_under (unhide TZ0) b1 (by omega))
  have hq1 := b1.size
  clear b1 HB0 TZ0
  go_wp2_with fail
  refine (copyIO b cs cb _ hc4 ((unhide HI).below (unhide HB1))).mono ?_
  rintro e V2 ⟨v, rfl, d2, lv, _⟩
  obtain ⟨b', cb', rfl, l2⟩ := lv
  have HB2 := hide ((unhide HB1).trans (d2.mono (unhide HB1).size))
  have TZ2 := hide (there_under (unhide TZ1) d2 (by omega))
  have hq2 := d2.size
  have LC2 := hide l2
  clear d2 l2 HB1 TZ1 KC KW HI
  obtain ⟨N, hNq⟩ : ∃ N, V2.heap.size = N := ⟨_, rfl⟩
  have hwN : w.heap.size < N := by omega
  have HB3 := hide ((unhide HB2).trans ((bel_new V2 (.cells #[.slice none 0 0, .slice b' cs.length cb', .slice none 0 0, .int .i64 0] 26)).mono (unhide HB2).size))
  have HD3 := hide (bel_new V2 (.cells #[.slice none 0 0, .slice b' cs.length cb', .slice none 0 0, .int .i64 0] 26))
  have HX3 := hide (nb_new V2 (.slice none 0 0) (.slice b' cs.length cb') (.slice none 0 0) 0 26)
  have TX3 := hide (there_new4 V2 (.slice none 0 0) (.slice b' cs.length cb') (.slice none 0 0) (.int .i64 0) 26)
  have TZ3 := hide (there_under (unhide TZ2) (unhide HD3) (by omega))
  have OW3 := hide (ownN_nil (V2.alloc (.cells #[.slice none 0 0, .slice b' cs.length cb', .slice none 0 0, .int .i64 0] 26)) (N + 1))
  go_wp2_with fail
  rw [hNq] at HD3 HX3 TX3
  try rw [hNq]
  clear TZ2 HB2
  go_loopw [39] (fun i wr => ∃ j : Nat, j ≤ n ∧ i = .int .i64 j ∧ ∃ (v : Value) (xs : List (Rm × Pl)), xs.length = j ∧ Hid (∀ i, i < j → (xs.getD i zP).1 = newM ((i : Int) + 1) (ws.getD i 0) 0 0 0) ∧ Hid (∀ i, i < j → willB ws i = true) ∧ Hid (wr.ownsRow (N + 1) 46 13 v xs.length (fl xs)) ∧ Hid (Below w.heap.size w wr) ∧ Hid (Below N V2 wr) ∧ Hid (NB wr N v (.slice b' cs.length cb') (.slice none 0 0) 0) ∧ Hid (wr.there N 0 4) ∧ Hid (wr.there w.heap.size 0 4)) (fun i _ => n - (intOf i).toNat)
  case atStart => exact ⟨0, by omega, rfl, .slice none 0 0, [], rfl, hide (fun i hi => absurd hi (Nat.not_lt_zero i)), hide (fun i hi => absurd hi (Nat.not_lt_zero i)), OW3, HB3, HD3, HX3, TX3, TZ3⟩
  case round =>
    clear HB3 HD3 HX3 TX3 TZ3 OW3
    obtain ⟨j, hj, rfl, v, xs, hxl, hfs, hwl, how, hb, hd, hx, tx, tz⟩ := hrel
    by_cases hlt : (j : Int) < (n : Int)
    · have k0 : (0 : Int) ≤ (j : Int) := by omega
      have hjn : j < n := by omega
      have HC := unhide HR wr (unhide hb) j hjn
      have HK := hide (implNewA ((j : Int) + 1) (ws.getD j 0) wr (by simp [inB]; omega))
      have hNw : N < wr.heap.size := (unhide hx).lt
      have HSH : Hid (∀ W W3 : World, Below wr.heap.size wr W → W.grownBy W3 v.ownBlock → NB W3 N v (.slice b' cs.length cb') (.slice none 0 0) 0 ∧ W3.there N 0 4 ∧ W3.there w.heap.size 0 4 ∧ Below w.heap.size w W3 ∧ Below N V2 W3) := hide (fun W W3 bl hg => by
        have hk : ∀ k, k < N + 1 → W3.heap[k]? = wr.heap[k]? := fun k hk => (hg.block k (by have := bl.size; omega) (fun e => by have := ((unhide how).lt k e.symm).1; omega)).trans (bl.block k (by omega))
        exact ⟨(unhide hx).but (hk _ (by omega)), there_blk (unhide tx) (hk _ (by omega)), there_blk (unhide tz) (hk _ (by omega)), belN_own ((unhide hb).trans (bl.mono (unhide hb).size)) (ownN_bel (unhide how) bl) hg (by omega) (by have := bl.size; omega), belN_own ((unhide hd).trans (bl.mono (by omega))) (ownN_bel (unhide how) bl) hg (by omega) (by have := bl.size; omega)⟩)
      have HX1 := hide (fun (W : World) (bl : Below wr.heap.size wr W) => (unhide hx).below bl)
      have HT1 := hide (fun (W : World) (bl : Below wr.heap.size wr W) => there_under (unhide tz) bl (by omega))
      have HW1 := hide (fun (W : World) (bl : Below wr.heap.size wr W) => (unhide hb).trans (bl.mono (unhide hb).size))
      cases hwj : willB ws j
      · obtain rfl : E = 4 := by rw [← unhide HEE, unhide HE, unhide HNO j hjn hwj]; rfl
        obtain ⟨rfl, rfl⟩ := unhide HM4 rfl
        rw [show inB (ws.getD j 0) 0 7 = false from hwj] at HK
        clear HSH how hx tx tz hfs hwl hd hwj
        generalize ws.getD j 0 = y at HC HK
        go_wp2_with fail
        refine (unhide HK).mono ?_
        rintro e w1 ⟨q, rfl, b1⟩
        rw [if_neg (by simp), if_neg (by simp)]
        clear HK
        have hxv := hide (unhide HT1 _ b1)
        go_wp2_with (first | (refine wpList_storeR2 _ _ rfl rfl (cl (newM 0 0 0 0 0) q) (cl_ones _ q) rfl rfl (ra_new w1 (rC 0 0 0 0 0 (.slice none 0 0) (.slice none 0 0) (.slice none 0 0) (.slice none 0 0) (.slice none 0 0) (.slice none 0 0) (.slice none 0 0) 0) rfl 46).2.1 ?_; intro w3 ra bb hs3 hk3; have bl : Below wr.heap.size wr w3 := bb _ _ (b1.trans ((bel_new w1 _).mono b1.size)) b1.size; have TQ := hide (unhide HT1 _ bl); have HQ := hide (unhide HW1 _ bl); clear ra bb bl) | (refine storeNB _ _ rfl rfl rfl rfl rfl (unhide TQ) rfl rfl ?_; intro V9 n9 t9 bb9 s9 k9))
        (try rw [Exit.noGoto_ret])
        have hlt_ : w.heap.size ≤ V9.heap.size := (bb9 _ _ (unhide HQ) (Nat.le_refl _)).size
        refine bodyPost_ret (v := .tuple #[.agg #[.slice none 0 0, .slice none 0 0, .slice none 0 0, .int .i64 0], .int .i64 4]) (Na.resultsNC rfl _ _ rfl n9 rfl) rfl ⟨_, rfl, bb9 _ _ (unhide HQ) (Nat.le_refl _), Na.gotM_nil hlt_⟩
      · rw [show inB (ws.getD j 0) 0 7 = true from hwj] at HK
        have HFS := hide (fun (q : Pl) (i : Nat) (hi : i < j + 1) => show (((xs ++ [(newM ((j : Int) + 1) (ws.getD j 0) 0 0 0, q)]).getD i zP).1 = newM ((i : Int) + 1) (ws.getD i 0) 0 0 0) by
          by_cases e1 : i = j
          · rw [getD_snoc_eq _ _ _ (by omega), e1]
          · rw [getD_snoc_lt _ _ _ (by omega)]; exact unhide hfs i (by omega))
        have HWL := hide (fun (i : Nat) (hi : i < j + 1) => show willB ws i = true by
          by_cases e1 : i = j
          · rw [e1]; exact hwj
          · exact unhide hwl i (by omega))
        have HOW := hide (fun (W : World) (bl : Below wr.heap.size wr W) => ownN_bel (unhide how) bl)
        have HXL := hide hxl
        clear how hx tx tz hfs hwl hd hwj hxl
        generalize ws.getD j 0 = y at HC HK HFS
        go_wp2_with fail
        refine (unhide HK).mono ?_
        rintro e w1 ⟨q, rfl, b1⟩
        rw [if_pos trivial, if_pos trivial]
        obtain ⟨m, hm⟩ : ∃ m, newM ((j : Int) + 1) y 0 0 0 = m := ⟨_, rfl⟩
        rw [hm] at HFS ⊢
        clear HK hm
        have hsz1 := b1.size
        go_wp2_with (first | (refine wpList_storeR2 _ _ rfl rfl (cl m q) (cl_ones _ q) rfl rfl (ra_new w1 (rC 0 0 0 0 0 (.slice none 0 0) (.slice none 0 0) (.slice none 0 0) (.slice none 0 0) (.slice none 0 0) (.slice none 0 0) (.slice none 0 0) 0) rfl 46).2.1 ?_; intro w3 ra bb hs3 hk3; have bl : Below wr.heap.size wr w3 := bb _ _ (b1.trans ((bel_new w1 _).mono b1.size)) b1.size; have hsz3 := bl.size; obtain ⟨y0, y1, y2, y3⟩ := unhide HX1 _ bl; have OW1 := hide (unhide HOW _ bl); have BL := hide (bl.alloc bl.size (.cells (cl m q).toArray 46)); clear bb bl hs3) | (refine wpList_loadR _ rfl rfl rfl ra ?_; rw [show (cl m q).toArray = #[.int .i64 m.x1, .int .i64 m.x2, .int .i64 m.x3, .int .i64 m.x4, .int .i64 m.x5, .slice q.a1 m.ls.length q.c1, .slice q.a2 m.tw.length q.c2, .slice q.a3 m.se.length q.c3, .slice q.a4 m.du.length q.c4, .slice q.a5 m.ss.length q.c5, .slice q.a6 m.es.length q.c6, .slice q.a7 m.la.length q.c7, .int .i64 m.x6] from rfl]) | (at_builtin; refine wpList_apN ((unhide OW1).alloc _) w3.heap.size 0 1 1 [(m, q)] rfl (rwN_new w3 m q) (by simp only [List.length_cons, List.length_nil]; have := unhide HXL; omega) (by simp; omega) rfl _ _ rfl rfl rfl ?_; intro v' w' ho hg; obtain ⟨k1, hk1⟩ : ∃ k, (xs ++ [(m, q)]).length = k := ⟨_, rfl⟩; rw [hk1] at ho; obtain ⟨g', c', rfl⟩ := own_form ho (by rw [← hk1]; simp); have HK1 := hide hk1; clear hk1; have HO' := hide ho; have HG' := hide (unhide HSH _ w' (unhide BL) hg); have ff := free_at (unhide HG').2.1 (k := 0) (by omega); obtain ⟨z0, z1, z2, z3⟩ := (unhide HG').1; clear ho hg))
        have hlt_ := (unhide HO').lt
        have hkN : ∀ x, x ≠ N → (w'.setCell ⟨N, 0, none⟩ (.slice (some ⟨g', 0, none⟩) k1 c')).heap[x]? = w'.heap[x]? := fun x hx => Below.heap_setCell _ _ _ _ hx
        have R1 := hide (own_blk (unhide HO') (fun g e => hkN g (by have := hlt_ g e; omega)))
        have R2 := hide ((unhide HG').2.2.2.1.setCell (p := ⟨N, 0, none⟩) (by show w.heap.size ≤ N; omega) (.slice (some ⟨g', 0, none⟩) k1 c'))
        have R3 := hide ((unhide HG').2.2.2.2.setCell (p := ⟨N, 0, none⟩) (Nat.le_refl N) (.slice (some ⟨g', 0, none⟩) k1 c'))
        have R4 := hide ((unhide HG').1.set0 (.slice (some ⟨g', 0, none⟩) k1 c'))
        have R5 := hide (there_at (p := ⟨N, 0, none⟩) (v := .slice (some ⟨g', 0, none⟩) k1 c') (unhide HG').2.1)
        have R6 := hide (there_at (p := ⟨N, 0, none⟩) (v := .slice (some ⟨g', 0, none⟩) k1 c') (unhide HG').2.2.1)
        clear HG' HO' ff z0 z1 z2 z3 y0 y1 y2 y3 hkN hlt_ ra
        go_roundw
        case rel => exact ⟨j + 1, by omega, by go_num, _, xs ++ [(m, q)], by rw [List.length_append, unhide HXL]; rfl, hide (unhide HFS q), HWL, by rw [unhide HK1]; exact R1, R2, R3, R4, R5, R6⟩
        case measure => simp [intOf]; omega
    · obtain rfl : n = j := by omega
      obtain ⟨g, c, ev⟩ := own_form (unhide how) (by omega)
      rw [hxl] at ev
      have how2 := unhide how
      rw [ev, hxl] at how2
      obtain ⟨r1, r2, r3, r4⟩ := rws_own hxl.symm how2
      obtain rfl : E = 0 := by rw [← unhide HEE, unhide HE, unhide HYES (unhide hwl)]; rfl
      obtain ⟨rfl, rfl⟩ := unhide HM0 rfl
      rw [ev] at hx
      obtain ⟨y0, y1, y2, y3⟩ := unhide hx
      have R1 := hide r1
      have R2 := hide r2
      clear how how2 r1 r2 hwl ev
      go_wp2_with (refine storeNB _ _ rfl rfl rfl rfl rfl (unhide tz) rfl rfl ?_; intro V9 n9 t9 bb9 s9 k9)
      (try rw [Exit.noGoto_ret])
      have hzt := (unhide tz)
      have hqm : V1.heap.size ≤ V2.heap.size := hq2
      refine bodyPost_ret (v := .tuple #[.agg #[.slice (some ⟨g, 0, none⟩) n c, .slice b' Cs.length cb', .slice none 0 0, .int .i64 0], .int .i64 0]) (Na.resultsNC rfl _ _ rfl n9 rfl) rfl ⟨_, rfl, bb9 _ _ (unhide hb) (Nat.le_refl _), some ⟨g, 0, none⟩, b', none, c, cb', 0, xs.map (·.2), by rw [nnR_len]; rfl, ?_⟩
      refine mt_new (g := g) (p2 := V1.heap.size) (q2 := V2.heap.size) (nnR_len ws n) (by omega) (by omega) (by omega) (by omega) (by omega) (fun i hi => ?_) (there_blk (unhide R2) (k9 g (by omega))) (fun i hi => ?_) ?_
      · have e2 : (xs.map (·.2)).getD i Pl.zero = (xs.getD i zP).2 := by
          rw [List.getD_eq_getElem?_getD, List.getD_eq_getElem?_getD, List.getElem?_map]
          rw [List.getElem?_eq_getElem (by omega)]; rfl
        rw [e2, nnR_get hi, ← unhide hfs i hi]
        exact rng_blk (unhide R1 i hi) (k9 g (by omega))
      · rw [nnR_get hi]; exact ⟨_, _, rfl⟩
      · exact ((unhide LC2).below ((unhide hd).mono (by omega))).but (p := fun k => k ≠ w.heap.size) (by omega) (fun k hk e => k9 k e) (fun k h1 h2 => by omega)
end Nt
end Go.Proofs.Ytpmlpojefelbbaa
namespace Go.Proofs.Ytpmlpojefelbbaa
open Go.ChangeShapes Go.WideShapes Go.ChangeAt Go.RowKit
set_option linter.unusedVariables false
set_option linter.unusedSimpArgs false
set_option maxRecDepth 100000
attribute [local go_sem ↓] Go.wp_at_zero Go.wp_at_succ
namespace Nt
open W1 Rt Na
theorem wp_apNL {o : Oper} {a : Act} {K : Act → World → Prop} {Q : Exit → Act → World → Prop} {w : World} {base d : Nat} {v : Value} {xs : List (Rm × Pl)} (hown : w.ownsRow base 46 13 v xs.length (fl xs)) (B : Nat) (m : Rm) (q : Pl) (hr : Rws w B 0 [(m, q)]) (hlen : xs.length ≤ 4096) (hbase : base ≤ w.heap.size)
    (s x : Operand) (ho : o.op = .call { callee := .builtin .append, args := #[s, x], argTypes := #[23, 23] }) (hd : o.dst = some d) (hs : a.eval s = v) (hx : a.eval x = .slice (some ⟨B, 0, none⟩) 1 1)
    (h : ∀ g' cap w', w'.ownsRow base 46 13 (.slice (some ⟨g', 0, none⟩) (xs.length + 1) cap) (xs ++ [(m, q)]).length (fl (xs ++ [(m, q)])) → w.grownBy w' v.ownBlock → (v.ownBlock = some g' ∨ g' = w.heap.size) → K (a.put (some d) (.slice (some ⟨g', 0, none⟩) (xs.length + 1) cap)) w') : o.wp Try.prog a w K Q := by
  obtain ⟨i0, hi, hz0, hz1, hz2⟩ := infoZ
  refine wp_append_lies w s x _ ho base 46 i0 _ 13 216 Try.underlying23 hi hz0 hz1 hz2 rfl (by decide) v xs.length (fl xs) hs hown ⟨B, 0, none⟩ 1 1 (fl [(m, q)]) hx (fl_len _) hr.cells (fun u hu => fl_ones hu) (by omega) (by unfold maxLen; omega) (by omega) hbase _ rfl (fun g' cap w' h1 h2 h3 h4 => ?_)
  rw [hd]
  refine h g' cap w' ?_ h2 h3
  rw [List.length_append, fl_append]; exact h1
set_option maxHeartbeats 16000000 in
theorem l13NewA (a b : Option Addr) (ca cb n : Nat) (ws cs : List Int) (w : World) (hn : ws.length = n) (h0 : 0 < n) (h6 : n ≤ 6) (hc : cs.length ≤ 4096) (hr : In.RM w a ws) (hi : In.RM w b cs) :
    Calls Try.prog 17 #[.slice a n ca, .slice b cs.length cb] w fun e w' => ∃ g c' b' cb' F qs, e = .returned (.agg #[.slice (some ⟨g, 0, none⟩) n c', .slice b' cs.length cb', .slice (some ⟨F, 0, none⟩) 0 0, .int .i64 0]) ∧ Below w.heap.size w w' ∧ RT w' w.heap.size w'.heap.size (some ⟨g, 0, none⟩) b' (some ⟨F, 0, none⟩) (nnR ws n) qs cs [] ∧ Hid (∀ i, i < n → Ad (qs.getD i Pl.zero)) := by
  rcases hr with e0 | ⟨g0, off, rfl, hcc⟩
  · exfalso; rw [e0] at hn; simp at hn; omega
  have HR : Hid (∀ W, Below w.heap.size w W → ∀ j, j < n → W.cell? ⟨g0, off + j, none⟩ = some (.int .i64 (ws.getD j 0))) := hide (fun W hW j hj => by
    have h0 := hcc j (by omega)
    rw [hW.cell (World.block_lt_of_cell? _ _ h0)]; exact h0)
  have q0 : (w.alloc (.cells #[.slice none 0 0, .slice none 0 0, .slice none 0 0, .int .i64 0] 26)).heap.size = w.heap.size + 1 := by simp
  have q1 : ((w.alloc (.cells #[.slice none 0 0, .slice none 0 0, .slice none 0 0, .int .i64 0] 26)).alloc (.cells #[] 46)).heap.size = w.heap.size + 2 := by simp
  have bA : Below w.heap.size w ((w.alloc (.cells #[.slice none 0 0, .slice none 0 0, .slice none 0 0, .int .i64 0] 26)).alloc (.cells #[] 46)) := (bel_new w _).trans ((bel_new (w.alloc (.cells #[.slice none 0 0, .slice none 0 0, .slice none 0 0, .int .i64 0] 26)) _).mono (by omega))
  have bE : Below (w.heap.size + 2) ((w.alloc (.cells #[.slice none 0 0, .slice none 0 0, .slice none 0 0, .int .i64 0] 26)).alloc (.cells #[] 46)) (((w.alloc (.cells #[.slice none 0 0, .slice none 0 0, .slice none 0 0, .int .i64 0] 26)).alloc (.cells #[] 46)).alloc (.cells #[] 3)) := q1 ▸ bel_new _ _
  have OIn : Hid ((((w.alloc (.cells #[.slice none 0 0, .slice none 0 0, .slice none 0 0, .int .i64 0] 26)).alloc (.cells #[] 46)).alloc (.cells #[] 3)).ownsRow (w.heap.size + 2) 3 1 (.slice (some ⟨w.heap.size + 2, 0, none⟩) 0 0) ([] : List Int).length (In.flat [])) := hide (by have h := In.own_empty ((w.alloc (.cells #[.slice none 0 0, .slice none 0 0, .slice none 0 0, .int .i64 0] 26)).alloc (.cells #[] 46)) ((w.alloc (.cells #[.slice none 0 0, .slice none 0 0, .slice none 0 0, .int .i64 0] 26)).alloc (.cells #[] 46)).heap.size (Nat.le_refl _); rw [q1] at h; exact h)
  have HIn := hide (hi.below (bA.trans (bE.mono (by omega))))
  have TZ0 := hide (there_under (there_new4 w (.slice none 0 0) (.slice none 0 0) (.slice none 0 0) (.int .i64 0) 26) (bel_new (w.alloc (.cells #[.slice none 0 0, .slice none 0 0, .slice none 0 0, .int .i64 0] 26)) (.cells #[] 46)) (by omega))
  have OW0 := hide (ownN_empty (w.alloc (.cells #[.slice none 0 0, .slice none 0 0, .slice none 0 0, .int .i64 0] 26)) (w.heap.size + 1) (by omega))
  have HN := hide hn
  have HBA := hide bA
  have HBE := hide bE
  clear hcc hi bA bE hn
  go_enter Try.func17, Try.ntmps17
  go_wp2_with (at_builtin; refine apOI (unhide OIn) b cb cs (unhide HIn) (by simp only [List.length_nil]; omega) (by simp) rfl _ _ rfl rfl rfl ?_; intro v_ V3 ho hg; have d3 : Below (w.heap.size + 2) ((w.alloc (.cells #[.slice none 0 0, .slice none 0 0, .slice none 0 0, .int .i64 0] 26)).alloc (.cells #[] 46)) V3 := In.below_own (unhide HBE) (unhide OIn) hg (Nat.le_refl _) (by simp); obtain ⟨b', cb', rfl, l3⟩ := In.lst_own (zs := cs) rfl ho; have HD3 := hide d3; have HL3 := hide l3; clear ho hg d3 l3)
  have hs3 := (unhide HD3).size
  rw [q1] at hs3
  have TZ1 := hide (there_under (unhide TZ0) (unhide HD3) (by omega))
  have OW1 := hide (ownN_bel (unhide OW0) (by rw [q1]; exact unhide HD3))
  have HB1 := hide ((unhide HBA).trans ((unhide HD3).mono (by omega)))
  rw [q0] at OW1
  clear HD3 HBA HBE OIn HIn TZ0 OW0
  obtain ⟨F, hF⟩ : ∃ F, V3.heap.size = F := ⟨_, rfl⟩
  try rw [hF]
  have bX : Below V3.heap.size V3 ((V3.alloc (.cells #[] 61)).alloc (.cells #[.slice (some ⟨w.heap.size + 1, 0, none⟩) 0 0, .slice b' cs.length cb', .slice (some ⟨F, 0, none⟩) 0 0, .int .i64 0] 26)) := (bel_new V3 _).trans ((bel_new (V3.alloc (.cells #[] 61)) _).mono (by simp))
  have HX2 := hide (nb_new (V3.alloc (.cells #[] 61)) (.slice (some ⟨w.heap.size + 1, 0, none⟩) 0 0) (.slice b' cs.length cb') (.slice (some ⟨F, 0, none⟩) 0 0) 0 26)
  have TX2 := hide (there_new4 (V3.alloc (.cells #[] 61)) (.slice (some ⟨w.heap.size + 1, 0, none⟩) 0 0) (.slice b' cs.length cb') (.slice (some ⟨F, 0, none⟩) 0 0) (.int .i64 0) 26)
  rw [show (V3.alloc (.cells #[] 61)).heap.size = F + 1 by simp [hF]] at HX2 TX2
  have TZ2 := hide (there_under (unhide TZ1) bX (by omega))
  have OW2 := hide (ownN_bel (unhide OW1) bX)
  have HB2 := hide ((unhide HB1).trans (bX.mono (by omega)))
  have HL2 := hide ((unhide HL3).below bX)
  rw [hF] at HL2 hs3
  have VN : Hid (∀ g, Value.ownBlock (.slice (some ⟨w.heap.size + 1, 0, none⟩) 0 0) = some g → g ≠ F + 1 ∧ (g < w.heap.size + 2 ∨ F ≤ g)) := hide (fun g e => by cases e; exact ⟨by show w.heap.size + 1 ≠ F + 1; omega, .inl (Nat.lt_succ_self _)⟩)
  clear TZ1 OW1 HB1 HL3 bX q0 q1
  go_loopw [6] (fun i wr => ∃ j : Nat, j ≤ n ∧ i = .int .i64 j ∧ ∃ (v : Value) (xs : List (Rm × Pl)), xs.length = j ∧ Hid (∀ i, i < j → (xs.getD i zP).1 = newM ((i : Int) + 1) (ws.getD i 0) 0 0 0) ∧ Hid (∀ i, i < j → Ad (xs.getD i zP).2) ∧ Hid (wr.ownsRow (w.heap.size + 1) 46 13 v xs.length (fl xs)) ∧ Hid (∀ g, Value.ownBlock v = some g → g ≠ F + 1 ∧ (g < (w.heap.size + 2) ∨ F ≤ g)) ∧ Hid (Below w.heap.size w wr) ∧ Hid (NB wr (F + 1) v (.slice b' cs.length cb') (.slice (some ⟨F, 0, none⟩) 0 0) 0) ∧ Hid (wr.there (F + 1) 0 4) ∧ Hid (wr.there w.heap.size 0 4) ∧ Hid (In.Lst wr b' cs (w.heap.size + 2) F)) (fun i _ => n - (intOf i).toNat)
  case atStart => exact ⟨0, by omega, rfl, (.slice (some ⟨w.heap.size + 1, 0, none⟩) 0 0), [], rfl, hide (fun i hi => absurd hi (Nat.not_lt_zero i)), hide (fun i hi => absurd hi (Nat.not_lt_zero i)), OW2, VN, HB2, HX2, TX2, TZ2, HL2⟩
  case round =>
    clear HB2 HX2 TX2 TZ2 OW2 HL2 VN
    obtain ⟨j, hj, rfl, v, xs, hxl, hfs, hwl, how, hvn, hb, hx, tx, tz, hl⟩ := hrel
    by_cases hlt : (j : Int) < (n : Int)
    · have k0 : (0 : Int) ≤ (j : Int) := by omega
      have hjn : j < n := by omega
      have HC := unhide HR wr (unhide hb) j hjn
      have c0 := (unhide hx).1
      have hNw : F + 1 < wr.heap.size := (unhide hx).lt
      have HSH : Hid (∀ W W3 : World, Below wr.heap.size wr W → W.grownBy W3 v.ownBlock → NB W3 (F + 1) v (.slice b' cs.length cb') (.slice (some ⟨F, 0, none⟩) 0 0) 0 ∧ W3.there (F + 1) 0 4 ∧ W3.there w.heap.size 0 4 ∧ Below w.heap.size w W3 ∧ In.Lst W3 b' cs (w.heap.size + 2) F) := hide (fun W W3 bl hg => by
        have hkk : ∀ k, k < wr.heap.size → some k ≠ v.ownBlock → W3.heap[k]? = wr.heap[k]? := fun k hk he => (hg.block k (by have := bl.size; omega) he).trans (bl.block k (by omega))
        have h1 : W3.heap[F + 1]? = wr.heap[F + 1]? := hkk _ (by omega) (fun e => (unhide hvn _ e.symm).1 rfl)
        have h2 : W3.heap[w.heap.size]? = wr.heap[w.heap.size]? := hkk _ (by omega) (fun e => by have := ((unhide how).lt _ e.symm).1; omega)
        refine ⟨(unhide hx).but h1, there_blk (unhide tx) h1, there_blk (unhide tz) h2, belN_own ((unhide hb).trans (bl.mono (unhide hb).size)) (ownN_bel (unhide how) bl) hg (by omega) (by have := bl.size; omega), ?_⟩
        exact (unhide hl).but (p := fun k => some k ≠ v.ownBlock) (by have := bl.size; have := hg.size; omega) (fun k hk e => hkk k hk e) (fun k h1 h2 e => by have := (unhide hvn k e.symm).2; omega))
      have HFS := hide (fun (q : Pl) (i : Nat) (hi : i < j + 1) => show (((xs ++ [(newM ((j : Int) + 1) (ws.getD j 0) 0 0 0, q)]).getD i zP).1 = newM ((i : Int) + 1) (ws.getD i 0) 0 0 0) by
        by_cases e1 : i = j
        · rw [getD_snoc_eq _ _ _ (by omega), e1]
        · rw [getD_snoc_lt _ _ _ (by omega)]; exact unhide hfs i (by omega))
      have HWL := hide (fun (m : Rm) (q : Pl) (hq : Ad q) (i : Nat) (hi : i < j + 1) => show Ad ((xs ++ [(m, q)]).getD i zP).2 by
        by_cases e1 : i = j
        · rw [getD_snoc_eq _ _ _ (by omega)]; exact hq
        · rw [getD_snoc_lt _ _ _ (by omega)]; exact unhide hwl i (by omega))
      have HXL := hide hxl
      have HBW := hide ((unhide how).lt)
      clear tx tz hfs hwl hl hx hb hxl
      generalize hy : ws.getD j 0 = y at HC HFS
      have HY := hide hy
      clear hy
      have hwj : IntKind.i64.wrap ((j : Int) + 1) = (j : Int) + 1 := by rw [IntKind.wrap_i64]; omega
      go_wp2_with fail
      refine wp_region_noPanic ?_
      refine Rl.drew (S := fun w' => w'.cell? ⟨g0, off + j, none⟩ = some (.int .i64 y)) (T := fun w' => w'.cell? ⟨F + 1, 0, none⟩ = some v) 12 (by kernel_rfl) ⟨HC, c0⟩ (fun hHeld => ?_)

      (refine Rl.tkS (k := 12) (i := 0) (d := 19) (v := ?_) rfl rfl (by kernel_rfl) (by kernel_rfl) (by kernel_rfl) rfl (fun _ _ _ h => h) (by rfl) ?_ (by assumption) ?_; rotate_left; (focus (intro w0 hSw; (try dsimp only at hSw); go_simp; (try with_reducible rfl))); (try simp only [Act.put, List.setIfInBounds_toArray, List.set_cons_zero, List.set_cons_succ]))
      (refine Rl.tk (k := 12) (i := 1) (d := 20) (v := ?_) rfl rfl (by kernel_rfl) (by kernel_rfl) (by kernel_rfl) (by kernel_rfl) rfl (by kernel_rfl) (fun _ _ _ h => h) (by rfl) ?_ (by assumption) ?_; rotate_left; (focus (intro w0 hSw; (try dsimp only at hSw); go_simp; (try with_reducible rfl))); (try simp only [Act.put, List.setIfInBounds_toArray, List.set_cons_zero, List.set_cons_succ]))
      (refine Rl.tkS (k := 12) (i := 2) (d := 21) (v := ?_) rfl rfl (by kernel_rfl) (by kernel_rfl) (by kernel_rfl) rfl (fun _ _ _ h => h) (by rfl) ?_ (by assumption) ?_; rotate_left; (focus (intro w0 hSw; (try dsimp only at hSw); go_simp; (try with_reducible rfl))); (try simp only [Act.put, List.setIfInBounds_toArray, List.set_cons_zero, List.set_cons_succ]))
      (refine Rl.tkS (k := 12) (i := 3) (d := 22) (v := ?_) rfl rfl (by kernel_rfl) (by kernel_rfl) (by kernel_rfl) rfl (fun _ _ _ h => h) (by rfl) ?_ (by assumption) ?_; rotate_left; (focus (intro w0 hSw; (try dsimp only at hSw); go_simp; (try with_reducible rfl))); (try simp only [Act.put, List.setIfInBounds_toArray, List.set_cons_zero, List.set_cons_succ]))
      (refine Rl.tkS (k := 12) (i := 4) (d := 23) (v := ?_) rfl rfl (by kernel_rfl) (by kernel_rfl) (by kernel_rfl) rfl (fun _ _ _ h => h) (by rfl) ?_ (by assumption) ?_; rotate_left; (focus (intro w0 hSw; (try dsimp only at hSw); go_simp; (try with_reducible rfl))); (try simp only [Act.put, List.setIfInBounds_toArray, List.set_cons_zero, List.set_cons_succ]))
      (refine Rl.tkS (k := 12) (i := 5) (d := 24) (v := ?_) rfl rfl (by kernel_rfl) (by kernel_rfl) (by kernel_rfl) rfl (fun _ _ _ h => h) (by rfl) ?_ (by assumption) ?_; rotate_left; (focus (intro w0 hSw; (try dsimp only at hSw); go_simp; (try with_reducible rfl))); (try simp only [Act.put, List.setIfInBounds_toArray, List.set_cons_zero, List.set_cons_succ]))
      (refine Rl.tkS (k := 12) (i := 6) (d := 25) (v := ?_) rfl rfl (by kernel_rfl) (by kernel_rfl) (by kernel_rfl) rfl (fun _ _ _ h => h) (by rfl) ?_ (by assumption) ?_; rotate_left; (focus (intro w0 hSw; (try dsimp only at hSw); go_simp; (try with_reducible rfl))); (try simp only [Act.put, List.setIfInBounds_toArray, List.set_cons_zero, List.set_cons_succ]))
      (refine Rl.tkS (k := 12) (i := 7) (d := 26) (v := ?_) rfl rfl (by kernel_rfl) (by kernel_rfl) (by kernel_rfl) rfl (fun _ _ _ h => h) (by rfl) ?_ (by assumption) ?_; rotate_left; (focus (intro w0 hSw; (try dsimp only at hSw); go_simp; (try with_reducible rfl))); (try simp only [Act.put, List.setIfInBounds_toArray, List.set_cons_zero, List.set_cons_succ]))
      (refine Rl.ready (rs := [8]) (by kernel_rfl) (by simp) ?_; refine Rl.AllReadyL.cons (o := _) rfl rfl (fun K hK => ?_) Rl.AllReadyL.nil; go_simp)
      skip
      refine (l12NewA ((j : Int) + 1) y 0 wr.drew).mono ?_
      rintro e w1 ⟨q, rfl, b1, had⟩
      have hz1 := b1.size
      have hzd : wr.drew.heap.size = wr.heap.size := rfl
      have B1 : Hid (Below wr.heap.size wr w1) := hide ((Below.refl _ _).drew.trans b1)
      have HQ := hide (unhide HWL (newM ((j : Int) + 1) y 0 0 0) q (unhide had))
      have HFQ := hide (unhide HFS q)
      obtain ⟨m, hm⟩ : ∃ m, newM ((j : Int) + 1) y 0 0 0 = m := ⟨_, rfl⟩
      rw [hm] at HQ HFQ ⊢
      have C1 : w1.cell? ⟨g0, off + j, none⟩ = some (.int .i64 y) := by rw [(unhide B1).cell (World.block_lt_of_cell? _ _ HC)]; exact HC
      have T1 : w1.cell? ⟨F + 1, 0, none⟩ = some v := by rw [(unhide B1).cell (by exact hNw)]; exact c0
      clear hHeld had HWL HFS hm b1
      refine hK.out _ _ ⟨C1, T1⟩ (fun hHeld => ?_)
      clear hK K
      (try simp only [Act.put, List.setIfInBounds_toArray, List.set_cons_zero, List.set_cons_succ])
      rw [show (cl m q).toArray = #[.int .i64 m.x1, .int .i64 m.x2, .int .i64 m.x3, .int .i64 m.x4, .int .i64 m.x5, .slice q.a1 m.ls.length q.c1, .slice q.a2 m.tw.length q.c2, .slice q.a3 m.se.length q.c3, .slice q.a4 m.du.length q.c4, .slice q.a5 m.ss.length q.c5, .slice q.a6 m.es.length q.c6, .slice q.a7 m.la.length q.c7, .int .i64 m.x6] from rfl]
      have B2 := hide ((unhide B1).trans ((bel_new w1 (.cells (cl m q).toArray 46)).mono (by omega)))
      have RN := hide (rwN_new w1 m q)
      have OW1 := hide (ownN_bel (unhide how) (unhide B2))
      have hz2 : (w1.alloc (.cells (cl m q).toArray 46)).heap.size = w1.heap.size + 1 := by simp
      have C2 : (w1.alloc (.cells (cl m q).toArray 46)).cell? ⟨g0, off + j, none⟩ = some (.int .i64 y) := by rw [(bel_new w1 _).cell (World.block_lt_of_cell? _ _ C1)]; exact C1
      have T2 : (w1.alloc (.cells (cl m q).toArray 46)).cell? ⟨F + 1, 0, none⟩ = some v := by rw [(bel_new w1 _).cell (World.block_lt_of_cell? _ _ T1)]; exact T1
      (refine Rl.ready (rs := [9]) (by kernel_rfl) (by simp) ?_; refine Rl.AllReadyL.cons (o := _) rfl rfl (fun K hK => ?_) Rl.AllReadyL.nil; go_simp)
      clear hHeld B1 how C1 T1
      refine hK.out _ _ ⟨C2, T2⟩ (fun hHeld => ?_)
      clear hK K
      (try simp only [Act.put, List.setIfInBounds_toArray, List.set_cons_zero, List.set_cons_succ])
      (refine Rl.ready (rs := [10]) (by kernel_rfl) (by simp) ?_; refine Rl.AllReadyL.cons (o := _) rfl rfl (fun K hK => ?_) Rl.AllReadyL.nil; rw [if_pos (by rfl)])
      refine wp_apNL (unhide OW1) w1.heap.size m q (unhide RN) (by have := unhide HXL; omega) (by simp; omega) _ _ rfl rfl rfl rfl ?_
      intro g' cap w3 ho hg hv
      have HG := hide (unhide HSH _ w3 (unhide B2) hg)
      have HO := hide ho
      have HGL := hide hv
      have hsz3 := hg.size
      have C3 : w3.cell? ⟨g0, off + j, none⟩ = some (.int .i64 y) := by
        have h := unhide HR w3 (unhide HG).2.2.2.1 j hjn
        rw [unhide HY] at h
        exact h
      clear ho hg hv HSH
      refine hK.out _ _ ⟨C3, (unhide HG).1.1⟩ (fun hHeld => ?_)
      clear hK K
      (try simp only [Act.put, List.setIfInBounds_toArray, List.set_cons_zero, List.set_cons_succ])
      (refine Rl.tkS (k := 12) (i := 11) (d := 30) (v := ?_) rfl rfl (by kernel_rfl) (by kernel_rfl) (by kernel_rfl) rfl (fun _ _ _ h => h) (by rfl) ?_ (by assumption) ?_; rotate_left; (focus (intro w0 hSw; (try dsimp only at hSw); go_simp; (try with_reducible rfl))); (try simp only [Act.put, List.setIfInBounds_toArray, List.set_cons_zero, List.set_cons_succ]))
      have z0 := (unhide HG).1.1
      have ff := free_at (unhide HG).2.1 (k := 0) (by omega)
      (refine Rl.ready (rs := [12]) (by kernel_rfl) (by simp) ?_; refine Rl.AllReadyL.last (o := _) rfl (by kernel_rfl) (fun K hK => ?_); go_simp)
      clear hHeld z0 ff
      have hgF : g' ≠ F + 1 := by
        rcases unhide HGL with e | e
        · exact (unhide hvn g' e).1
        · rw [e, World.size_alloc]; omega
      have hgL : g' < w.heap.size + 2 ∨ F ≤ g' := by
        rcases unhide HGL with e | e
        · exact (unhide hvn g' e).2
        · rw [e, World.size_alloc]; omega
      have hkN : ∀ x, x ≠ F + 1 → (w3.setCell ⟨F + 1, 0, none⟩ (.slice (some ⟨g', 0, none⟩) (xs.length + 1) cap)).heap[x]? = w3.heap[x]? := fun x hx => Below.heap_setCell _ _ _ _ hx
      have R1 := hide (own_blk (unhide HO) (fun g e => hkN g (by cases e; exact hgF)))
      have R2 : Hid (∀ g, Value.ownBlock (.slice (some ⟨g', 0, none⟩) (xs.length + 1) cap) = some g → g ≠ F + 1 ∧ (g < w.heap.size + 2 ∨ F ≤ g)) := hide (fun g e => by cases e; exact ⟨hgF, hgL⟩)
      have R3 := hide ((unhide HG).2.2.2.1.setCell (p := ⟨F + 1, 0, none⟩) (by show w.heap.size ≤ F + 1; omega) (.slice (some ⟨g', 0, none⟩) (xs.length + 1) cap))
      have R4 := hide ((unhide HG).1.set0 (.slice (some ⟨g', 0, none⟩) (xs.length + 1) cap))
      have R5 := hide (there_at (p := ⟨F + 1, 0, none⟩) (v := .slice (some ⟨g', 0, none⟩) (xs.length + 1) cap) (unhide HG).2.1)
      have R6 := hide (there_at (p := ⟨F + 1, 0, none⟩) (v := .slice (some ⟨g', 0, none⟩) (xs.length + 1) cap) (unhide HG).2.2.1)
      have R7 := hide ((unhide HG).2.2.2.2.but (p := fun k => k ≠ F + 1) (Nat.le_of_eq (by simp [World.setCell])) (fun k hk e => hkN k e) (fun k h1 h2 => by omega))
      have C4 : (w3.setCell ⟨F + 1, 0, none⟩ (.slice (some ⟨g', 0, none⟩) (xs.length + 1) cap)).cell? ⟨g0, off + j, none⟩ = some (.int .i64 y) := by
        have h := unhide HR _ (unhide R3) j hjn
        rw [unhide HY] at h
        exact h
      clear HG HO HGL hkN hgF hgL hvn C2 T2 C3 hz2 hz1 hsz3
      refine hK.out _ _ C4 (fun hHeld => ?_)
      clear hK K hHeld C4
      (try simp only [Act.put, List.setIfInBounds_toArray, List.set_cons_zero, List.set_cons_succ])
      refine Rl.done (by kernel_rfl) (NoPanic.normal ?_) _
      go_wp2_with fail
      go_roundw
      case rel => exact ⟨j + 1, by omega, by go_num, _, xs ++ [(m, q)], by rw [List.length_append, unhide HXL]; rfl, HFQ, HQ, R1, R2, R3, R4, R5, R6, R7⟩
      case measure => simp [intOf]; omega
    · obtain rfl : n = j := by omega
      obtain ⟨g, c, ev⟩ := own_form (unhide how) (by omega)
      rw [hxl] at ev
      have how2 := unhide how
      rw [ev, hxl] at how2
      obtain ⟨r1, r2, r3, r4⟩ := rws_own hxl.symm how2
      rw [ev] at hx
      obtain ⟨y0, y1, y2, y3⟩ := unhide hx
      have hgN := (unhide hvn g (by rw [ev]; rfl)).1
      have hxlt := (unhide hx).lt
      have R1 := hide r1
      clear how how2 r1 r2 ev hvn
      go_wp2_with (refine storeNB _ _ rfl rfl rfl rfl rfl (unhide tz) rfl rfl ?_; intro V9 n9 t9 bb9 s9 k9)
      (try rw [Exit.noGoto_ret])
      refine bodyPost_ret (v := .agg #[.slice (some ⟨g, 0, none⟩) n c, .slice b' cs.length cb', .slice (some ⟨F, 0, none⟩) 0 0, .int .i64 0]) (resultsN rfl _ _ rfl n9) rfl ⟨g, c, b', cb', F, rfl, bb9 _ _ (unhide hb) (Nat.le_refl _), xs.map (·.2), ⟨.inr ⟨g, rfl, by omega, by omega, by omega, fun i hi => ?_⟩, ?_, .inl rfl⟩, hide (fun i hi => ?_)⟩
      · rw [nnR_len] at hi
        have e2 : (xs.map (·.2)).getD i Pl.zero = (xs.getD i zP).2 := by
          rw [List.getD_eq_getElem?_getD, List.getD_eq_getElem?_getD, List.getElem?_map]
          rw [List.getElem?_eq_getElem (by omega)]; rfl
        rw [e2, nnR_get hi]
        refine ⟨?_, newM_ow (by omega)⟩
        rw [← unhide hfs i hi]
        exact rng_blk (unhide R1 i hi) (k9 g (by omega))
      · exact ((unhide hl).but (p := fun k => k ≠ w.heap.size) (by omega) (fun k hk e => k9 k e) (fun k h1 h2 => by omega)).mono (by omega) (by omega)
      · have e2 : (xs.map (·.2)).getD i Pl.zero = (xs.getD i zP).2 := by
          rw [List.getD_eq_getElem?_getD, List.getD_eq_getElem?_getD, List.getElem?_map]
          rw [List.getElem?_eq_getElem (by omega)]; rfl
        have h := unhide hwl i hi
        rw [← e2, List.getD_eq_getElem?_getD] at h
        exact h
set_option maxHeartbeats 16000000 in
theorem specNN (a b : Option Addr) (ca cb : Nat) (ws cs : List Int) (w : World) (hm : ws.length ≤ 1048576) (hc : cs.length ≤ 1048576) (hr : In.RM w a ws) (hi : In.RM w b cs) :
    Calls Try.prog 5 #[.slice a ws.length ca, .slice b cs.length cb] w fun e w' => ∃ v, e = .returned (.tuple #[v, .int .i64 (nnE ws cs)]) ∧ Below w.heap.size w w' ∧ GotR v w w' (nnM (nnE ws cs) ws) (nnC (nnE ws cs) cs) [] 0 := by
  have HB0 := hide (bel_new w (.cells #[.slice none 0 0, .slice none 0 0, .slice none 0 0, .int .i64 0] 26))
  have hq0 : (w.alloc (.cells #[.slice none 0 0, .slice none 0 0, .slice none 0 0, .int .i64 0] 26)).heap.size = w.heap.size + 1 := by simp
  have TZ0 := hide (there_new4 w (.slice none 0 0) (.slice none 0 0) (.slice none 0 0) (.int .i64 0) 26)
  by_cases hA : 4096 < ws.length
  · have hE : nnE ws cs = 2 := by unfold nnE; rw [if_pos (.inl hA)]
    rw [hE, show nnM 2 ws = [] from rfl, show nnC 2 cs = [] from rfl]
    clear hE
    have k1 : (4096 : Int) < (ws.length : Int) := by omega
    clear hr hi hA hm hc
    go_enter Try.func5, Try.ntmps5
    obtain ⟨V0, hV0⟩ : ∃ V, w.alloc (.cells #[.slice none 0 0, .slice none 0 0, .slice none 0 0, .int .i64 0] 26) = V := ⟨_, rfl⟩
    rw [hV0] at HB0 TZ0 hq0
    go_wp2_with (first | (refine storeNB _ _ rfl rfl rfl rfl rfl (unhide TZ0) rfl rfl ?_; intro V9 n9 t9 bb9 s9 k9))
    (try rw [Exit.noGoto_ret])
    have hlt_ : w.heap.size ≤ V9.heap.size := (bb9 _ _ (unhide HB0) (Nat.le_refl _)).size
    refine bodyPost_ret (v := .tuple #[.agg #[.slice none 0 0, .slice none 0 0, .slice none 0 0, .int .i64 0], .int .i64 2]) (Na.resultsNC rfl _ _ rfl n9 rfl) rfl ⟨_, rfl, bb9 _ _ (unhide HB0) (Nat.le_refl _), Na.gotR_nil _ _⟩
  have k1 : ¬ (4096 : Int) < (ws.length : Int) := by omega
  by_cases hB : 4096 < cs.length
  · have hE : nnE ws cs = 2 := by unfold nnE; rw [if_pos (.inr hB)]
    rw [hE, show nnM 2 ws = [] from rfl, show nnC 2 cs = [] from rfl]
    clear hE
    have k2 : (4096 : Int) < (cs.length : Int) := by omega
    clear hr hi hA hm hc hB
    go_enter Try.func5, Try.ntmps5
    obtain ⟨V0, hV0⟩ : ∃ V, w.alloc (.cells #[.slice none 0 0, .slice none 0 0, .slice none 0 0, .int .i64 0] 26) = V := ⟨_, rfl⟩
    rw [hV0] at HB0 TZ0 hq0
    go_wp2_with (first | (refine storeNB _ _ rfl rfl rfl rfl rfl (unhide TZ0) rfl rfl ?_; intro V9 n9 t9 bb9 s9 k9))
    (try rw [Exit.noGoto_ret])
    have hlt_ : w.heap.size ≤ V9.heap.size := (bb9 _ _ (unhide HB0) (Nat.le_refl _)).size
    refine bodyPost_ret (v := .tuple #[.agg #[.slice none 0 0, .slice none 0 0, .slice none 0 0, .int .i64 0], .int .i64 2]) (Na.resultsNC rfl _ _ rfl n9 rfl) rfl ⟨_, rfl, bb9 _ _ (unhide HB0) (Nat.le_refl _), Na.gotR_nil _ _⟩
  have k2 : ¬ (4096 : Int) < (cs.length : Int) := by omega
  have KW := hide (fun W => l01In ws.length 1 6 W)
  have HE0 : Hid (nnE ws cs = if inB ws.length 1 6 = true then (if costB cs ws.length = true then (if allI ws.length (willB ws) = true then 0 else 4) else 1) else 6) := hide (by unfold nnE; rw [if_neg (by omega)])
  cases hin : inB ws.length 1 6
  · have hE : nnE ws cs = 6 := by rw [unhide HE0, hin]; rfl
    rw [hE, show nnM 6 ws = [] from rfl, show nnC 6 cs = [] from rfl]
    rw [hin] at KW
    clear hE HE0 hr hi hA hB hm hc hin
    go_enter Try.func5, Try.ntmps5
    obtain ⟨V0, hV0⟩ : ∃ V, w.alloc (.cells #[.slice none 0 0, .slice none 0 0, .slice none 0 0, .int .i64 0] 26) = V := ⟨_, rfl⟩
    rw [hV0] at HB0 TZ0 hq0
    go_wp2_with (first | (go_at_call 15; refine (unhide KW _).mono ?_; rintro e w_ ⟨rfl, rfl⟩) | (refine storeNB _ _ rfl rfl rfl rfl rfl (unhide TZ0) rfl rfl ?_; intro V9 n9 t9 bb9 s9 k9))
    (try rw [Exit.noGoto_ret])
    have hlt_ : w.heap.size ≤ V9.heap.size := (bb9 _ _ (unhide HB0) (Nat.le_refl _)).size
    refine bodyPost_ret (v := .tuple #[.agg #[.slice none 0 0, .slice none 0 0, .slice none 0 0, .int .i64 0], .int .i64 6]) (Na.resultsNC rfl _ _ rfl n9 rfl) rfl ⟨_, rfl, bb9 _ _ (unhide HB0) (Nat.le_refl _), Na.gotR_nil _ _⟩
  have h16 : (1 : Int) ≤ (ws.length : Int) ∧ (ws.length : Int) ≤ 6 := by simpa [inB] using hin
  have KC := hide (fun (W : World) (h : Below w.heap.size w W) => l13Costs b cs cb ws.length W hc (by omega) (by omega) (hi.below h))
  rw [hin] at KW
  cases hcb : costB cs ws.length
  · have hE : nnE ws cs = 1 := by rw [unhide HE0, hin, hcb]; rfl
    rw [hE, show nnM 1 ws = [] from rfl, show nnC 1 cs = [] from rfl]
    rw [hcb] at KC
    clear hE HE0 hr hi hA hB hm hc hin hcb
    go_enter Try.func5, Try.ntmps5
    obtain ⟨V0, hV0⟩ : ∃ V, w.alloc (.cells #[.slice none 0 0, .slice none 0 0, .slice none 0 0, .int .i64 0] 26) = V := ⟨_, rfl⟩
    rw [hV0] at HB0 TZ0 hq0
    go_wp2_with (first | (go_at_call 15; refine (unhide KW _).mono ?_; rintro e w_ ⟨rfl, rfl⟩) )
    refine (unhide KC _ (unhide HB0)).mono ?_
    rintro e V1 ⟨rfl, b1⟩
    have HB1 := hide ((unhide HB0).trans (b1.mono (unhide HB0).size))
    have TZ1 := hide (there_under (unhide TZ0) b1 (by omega))
    clear b1
    go_wp2_with (first | (refine storeNB _ _ rfl rfl rfl rfl rfl (unhide TZ1) rfl rfl ?_; intro V9 n9 t9 bb9 s9 k9))
    (try rw [Exit.noGoto_ret])
    have hlt_ : w.heap.size ≤ V9.heap.size := (bb9 _ _ (unhide HB1) (Nat.le_refl _)).size
    refine bodyPost_ret (v := .tuple #[.agg #[.slice none 0 0, .slice none 0 0, .slice none 0 0, .int .i64 0], .int .i64 1]) (Na.resultsNC rfl _ _ rfl n9 rfl) rfl ⟨_, rfl, bb9 _ _ (unhide HB1) (Nat.le_refl _), Na.gotR_nil _ _⟩
  have HE : Hid (nnE ws cs = if allI ws.length (willB ws) = true then 0 else 4) := hide (by rw [unhide HE0, hin, hcb]; rfl)
  rw [hcb] at KC
  have hc4 : cs.length ≤ 4096 := by omega
  have KN := hide (fun (W : World) (h : Below w.heap.size w W) => l13NewA a b ca cb ws.length ws cs W rfl (by omega) (by omega) hc4 (hr.below h) (hi.below h))
  rcases hr with e0 | ⟨g0, off, rfl, hcc⟩
  · exfalso; rw [e0] at h16; simp at h16
  have HR : Hid (∀ W, Below w.heap.size w W → ∀ j, j < ws.length → W.cell? ⟨g0, off + j, none⟩ = some (.int .i64 (ws.getD j 0))) := hide (fun W hW j hj => by
    have h0 := hcc j hj
    rw [hW.cell (World.block_lt_of_cell? _ _ h0)]; exact h0)
  have KV := hide (fun W y => l01In y 0 7 W)
  have HNO := hide (fun (j : Nat) (h1 : j < ws.length) (h2 : willB ws j = false) => allI_no (p := willB ws) (j := j) h1 h2)
  have HYES := hide (fun (h : ∀ i, i < ws.length → willB ws i = true) => allI_yes h)
  obtain ⟨n, hN⟩ : ∃ n, ws.length = n := ⟨_, rfl⟩
  have HN := hide hN
  rw [hN] at KW KC KN HE h16 k1 HR HNO HYES ⊢
  obtain ⟨E, hEE⟩ : ∃ E, nnE ws cs = E := ⟨_, rfl⟩
  obtain ⟨Ms, hMs⟩ : ∃ M, nnM E ws = M := ⟨_, rfl⟩
  obtain ⟨Cs, hCs⟩ : ∃ M, nnC E cs = M := ⟨_, rfl⟩
  have HM4 := hide (show E = 4 → Ms = [] ∧ Cs = [] from fun h => by rw [← hMs, ← hCs, h]; exact ⟨rfl, rfl⟩)
  have HM0 := hide (show E = 0 → Ms = nnR ws n ∧ Cs = cs from fun h => by rw [← hMs, ← hCs, h, ← unhide HN]; exact ⟨rfl, rfl⟩)
  rw [hEE, hMs, hCs]
  have HEE := hide hEE
  clear HE0 hcc hi hA hB hm hin hcb hN hEE hMs hCs
  clear hc
  go_enter Try.func5, Try.ntmps5
  obtain ⟨V0, hV0⟩ : ∃ V, w.alloc (.cells #[.slice none 0 0, .slice none 0 0, .slice none 0 0, .int .i64 0] 26) = V := ⟨_, rfl⟩
  rw [hV0] at HB0 TZ0 hq0
  go_wp2_with (first | (go_at_call 15; refine (unhide KW _).mono ?_; rintro e w_ ⟨rfl, rfl⟩) )
  refine (unhide KC _ (unhide HB0)).mono ?_
  rintro e V1 ⟨rfl, b1⟩
  have HB1 := hide ((unhide HB0).trans (b1.mono (unhide HB0).size))
  have TZ1 := hide (there_under (unhide TZ0) b1 (by omega))
  have hq1 := b1.size
  clear b1 HB0 TZ0 KC KW
  go_wp2_with fail
  go_loopw [6] (fun i wr => ∃ j : Nat, j ≤ n ∧ i = .int .i64 j ∧ wr = V1 ∧ Hid (∀ i, i < j → willB ws i = true)) (fun i _ => n - (intOf i).toNat)
  case atStart => exact ⟨0, by omega, rfl, rfl, hide (fun i hi => absurd hi (Nat.not_lt_zero i))⟩
  case round =>
    obtain ⟨j, hj, rfl, rfl, hwl⟩ := hrel
    by_cases hlt : (j : Int) < (n : Int)
    · have k0 : (0 : Int) ≤ (j : Int) := by omega
      have hjn : j < n := by omega
      have HC := unhide HR _ (unhide HB1) j hjn
      have KY := hide (fun W => unhide KV W (ws.getD j 0))
      cases hwj : willB ws j
      · obtain rfl : E = 4 := by rw [← unhide HEE, unhide HE, unhide HNO j hjn hwj]; rfl
        obtain ⟨rfl, rfl⟩ := unhide HM4 rfl
        rw [show inB (ws.getD j 0) 0 7 = false from hwj] at KY
        clear hwj hwl KV KN
        generalize ws.getD j 0 = y at HC KY
        go_wp2_with (first | (go_at_call 15; refine (unhide KY _).mono ?_; rintro e w_ ⟨rfl, rfl⟩) | (refine storeNB _ _ rfl rfl rfl rfl rfl (unhide TZ1) rfl rfl ?_; intro V9 n9 t9 bb9 s9 k9))
        (try rw [Exit.noGoto_ret])
        refine bodyPost_ret (v := .tuple #[.agg #[.slice none 0 0, .slice none 0 0, .slice none 0 0, .int .i64 0], .int .i64 4]) (Na.resultsNC rfl _ _ rfl n9 rfl) rfl ⟨_, rfl, bb9 _ _ (unhide HB1) (Nat.le_refl _), Na.gotR_nil _ _⟩
      · have HWL := hide (fun (i : Nat) (hi : i < j + 1) => show willB ws i = true by
          by_cases e1 : i = j
          · rw [e1]; exact hwj
          · exact unhide hwl i (by omega))
        rw [show inB (ws.getD j 0) 0 7 = true from hwj] at KY
        clear hwj hwl
        generalize ws.getD j 0 = y at HC KY
        go_wp2_with (first | (go_at_call 15; refine (unhide KY _).mono ?_; rintro e w_ ⟨rfl, rfl⟩))
        go_roundw
        case rel => exact ⟨j + 1, by omega, by go_num, trivial, HWL⟩
        case measure => simp [intOf]; omega
    · obtain rfl : n = j := by omega
      obtain rfl : E = 0 := by rw [← unhide HEE, unhide HE, unhide HYES (unhide hwl)]; rfl
      obtain ⟨rfl, rfl⟩ := unhide HM0 rfl
      go_wp2_with fail
      refine (unhide KN _ (unhide HB1)).mono ?_
      rintro e V2 ⟨g, c', b', cb', F, qs, rfl, b2, rt, _⟩
      have HB2 := hide ((unhide HB1).trans (b2.mono (unhide HB1).size))
      have TZ2 := hide (there_under (unhide TZ1) b2 (by omega))
      have hq2 := b2.size
      have RT2 := hide rt
      clear b2 rt HB1 TZ1 KN
      go_wp2_with (refine storeNB _ _ rfl rfl rfl rfl rfl (unhide TZ2) rfl rfl ?_; intro V9 n9 t9 bb9 s9 k9)
      (try rw [Exit.noGoto_ret])
      refine bodyPost_ret (v := .tuple #[.agg #[.slice (some ⟨g, 0, none⟩) n c', .slice b' Cs.length cb', .slice (some ⟨F, 0, none⟩) 0 0, .int .i64 0], .int .i64 0]) (Na.resultsNC rfl _ _ rfl n9 rfl) rfl ⟨_, rfl, bb9 _ _ (unhide HB2) (Nat.le_refl _), some ⟨g, 0, none⟩, b', some ⟨F, 0, none⟩, c', cb', 0, qs, by rw [nnR_len]; rfl, ?_⟩
      exact ((unhide RT2).but (L := w.heap.size) (H := w.heap.size + 1) (by omega) (fun k _ h => k9 k (by omega)) (.inr (by omega))).mono (by omega) (by omega)
theorem nn_sm (ws cs : List Int) : smN (nnM (nnE ws cs) ws) (nnC (nnE ws cs) cs) [] := by
  by_cases h : nnE ws cs = 0
  · obtain ⟨h1, h6, hc, _⟩ := nn_small h
    rw [h]
    unfold nnM nnC
    rw [if_pos rfl, if_pos rfl]
    refine ⟨by rw [nnR_len]; exact h6, fun i hi => ?_, ?_, by simp⟩
    · rw [nnR_len] at hi
      rw [nnR_get hi]
      unfold r64 newM
      simp
    · have hl : cs.length = ws.length * ws.length := by unfold costB at hc; simp only [Bool.and_eq_true, beq_iff_eq] at hc; exact hc.1
      rw [hl]; exact Nat.le_trans (Nat.mul_le_mul h6 h6) (by decide)
  · unfold nnM nnC
    rw [if_neg h, if_neg h]
    exact smN_nil
end Nt
end Go.Proofs.Ytpmlpojefelbbaa
namespace Go.Proofs.Ytpmlpojefelbbaa
open Go.ChangeShapes Go.WideShapes Go.ChangeAt Go.RowKit
set_option linter.unusedVariables false
set_option linter.unusedSimpArgs false
set_option maxRecDepth 100000
attribute [local go_sem ↓] Go.wp_at_zero Go.wp_at_succ
namespace Nt
open W1 Rt
set_option maxHeartbeats 8000000 in
theorem eqNS (a b : Option Addr) (ms : List Rm) (ps qs : List Pl) (ca cb : Nat) (w : World) (hm : ms.length ≤ 1048576) (hs : ∀ i, i < ms.length → Sm (ms.getD i Rm.zero)) (hr : NR w a ms ps) (hr' : NR w b ms qs) :
    Calls Try.prog 22 #[.slice a ms.length ca, .slice b ms.length cb] w fun e w' => e = .returned (.bool true) ∧ Below w.heap.size w w' := by
  have HR := hide hr
  have HR' := hide hr'
  have HS := hide hs
  clear hr hr' hs
  generalize hN : ms.length = n at *
  have HN := hide hN
  clear hN
  go_enter Try.func22, Try.ntmps22
  go_wp2
  go_loopw [5] (fun i wr => ∃ j : Nat, j ≤ n ∧ i = .int .i64 j ∧ Hid (Below w.heap.size w wr)) (fun i _ => n - (intOf i).toNat)
  case atStart => exact ⟨0, by omega, rfl, hide (Below.refl _ _)⟩
  case round =>
    obtain ⟨j, hj, rfl, hbl⟩ := hrel
    by_cases hlt : (j : Int) < (n : Int)
    · have k0 : (0 : Int) ≤ (j : Int) := by omega
      have hlen : j < ms.length := by rw [unhide HN]; omega
      obtain ⟨g, off, rfl, hA, hD⟩ := ((unhide HR).below (unhide hbl)).at hlen
      obtain ⟨g', off', rfl, hA', hD'⟩ := ((unhide HR').below (unhide hbl)).at hlen
      have HM := hide ((unhide HS) j (by omega))
      have HA := hide hA
      have HA' := hide hA'
      have HD := hide hD
      have HD' := hide hD'
      clear hlen hA hA' hD hD'
      generalize ms.getD j Rm.zero = m at *
      generalize ps.getD j Pl.zero = p at *
      generalize qs.getD j Pl.zero = q at *
      go_wp2_with fail
      refine wp_region_noPanic ?_
      refine wp_region_held_drew (S := fun w' => w'.rangeAt g (off + j * 13) (cl m p) ∧ w'.rangeAt g' (off' + j * 13) (cl m q)) (by kernel_rfl) (⟨unhide HA, unhide HA'⟩) (fun hHeld => ?_)
      refine Rg.t 0 17 ?_
      refine Rg.t 1 18 ?_
      refine Rg.t 2 19 ?_
      refine Rg.t (v := .agg (cl m p).toArray) 3 20 ?_ (hv := fun w0 hSw => execI _ rfl rfl hSw.1)
      refine Rg.t 4 21 ?_
      refine Rg.t 5 22 ?_
      refine Rg.t 6 23 ?_
      refine Rg.t (v := .agg (cl m q).toArray) 7 24 ?_ (hv := fun w0 hSw => execI _ rfl rfl hSw.2)
      (refine Rg.o 8 (fun K hK => ?_); go_simp)
      refine (eqN m p q wr.drew (unhide HM) (unhide HD).drew (unhide HD').drew).mono ?_
      rintro e w1 ⟨rfl, b1⟩
      refine hK.out _ _ ⟨rng_below (w := wr.drew) (unhide HA) b1, rng_below (w := wr.drew) (unhide HA') b1⟩ (fun hHeld => ?_)
      clear hK K
      (try simp only [Act.put, List.setIfInBounds_toArray, List.set_cons_zero, List.set_cons_succ])
      refine Rg.t 9 26 ?_
      refine wpAnyH_done (by kernel_rfl) (NoPanic.normal ?_) _
      have hb1 := hide ((unhide hbl).drew.trans (b1.mono (by show w.heap.size ≤ wr.heap.size; exact (unhide hbl).size)))
      clear hHeld b1 HA HA' HD HD'
      go_wp2_with fail
      go_roundw
      case rel => exact ⟨j + 1, by omega, by go_num, hb1⟩
      case measure => simp [intOf]; omega
    · go_wp2
      go_ret
      exact ⟨rfl, unhide hbl⟩
set_option maxHeartbeats 8000000 in
theorem eqNt (a b d a' b' d' : Option Addr) (ca cb cd ca' cb' cd' : Nat) (t : Int) (ms : List Rm) (ps qs : List Pl) (cs : List Int) (fs : List Fm.R) (w : World) (hm : ms.length ≤ 1048576) (hc : cs.length ≤ 1048576) (hf : fs.length ≤ 1048576) (hs : ∀ i, i < ms.length → Sm (ms.getD i Rm.zero)) (hr : NR w a ms ps) (hr' : NR w a' ms qs) (hi : In.RM w b cs) (hi' : In.RM w b' cs) (hz : Fm.RM w d fs) (hz' : Fm.RM w d' fs) :
    Calls Try.prog 8 #[.agg #[.slice a ms.length ca, .slice b cs.length cb, .slice d fs.length cd, .int .i64 t], .agg #[.slice a' ms.length ca', .slice b' cs.length cb', .slice d' fs.length cd', .int .i64 t]] w fun e w' => e = .returned (.bool true) ∧ Below w.heap.size w w' := by
  have b0 : Below w.heap.size w ((w.alloc (.cells #[.slice a ms.length ca, .slice b cs.length cb, .slice d fs.length cd, .int .i64 t] 26)).alloc (.cells #[.slice a' ms.length ca', .slice b' cs.length cb', .slice d' fs.length cd', .int .i64 t] 26)) := ((Below.refl _ _).alloc (Nat.le_refl _) _).alloc (by simp) _
  have HX0 : Hid (NB _ w.heap.size _ _ _ _) := hide ((nb_new w (.slice a ms.length ca) (.slice b cs.length cb) (.slice d fs.length cd) t 26).below (bel_new _ (.cells #[.slice a' ms.length ca', .slice b' cs.length cb', .slice d' fs.length cd', .int .i64 t] 26)))
  have HY0 : Hid (NB _ (w.heap.size + 1) _ _ _ _) := hide (by have := nb_new (w.alloc (.cells #[.slice a ms.length ca, .slice b cs.length cb, .slice d fs.length cd, .int .i64 t] 26)) (.slice a' ms.length ca') (.slice b' cs.length cb') (.slice d' fs.length cd') t 26; simpa using this)
  have HB0 := hide b0
  have HR := hide (hr.below b0)
  have HR' := hide (hr'.below b0)
  have HI := hide (hi.below b0)
  have HI' := hide (hi'.below b0)
  have HZ := hide (hz.below b0)
  have HZ' := hide (hz'.below b0)
  have HS := hide hs
  have hne : (t != t) = false := by simp
  clear hr hr' hi hi' hz hz' hs b0
  go_enter Try.func8, Try.ntmps8
  go_wp2_with fail
  generalize (w.alloc (.cells #[.slice a ms.length ca, .slice b cs.length cb, .slice d fs.length cd, .int .i64 t] 26)).alloc (.cells #[.slice a' ms.length ca', .slice b' cs.length cb', .slice d' fs.length cd', .int .i64 t] 26) = w0 at *
  refine (eqNS _ _ ms ps qs _ _ _ hm (unhide HS) (unhide HR) (unhide HR')).mono ?_
  rintro e w1 ⟨rfl, b1⟩
  have HX1 := hide ((unhide HX0).below b1)
  have HY1 := hide ((unhide HY0).below b1)
  have HB1 := hide ((unhide HB0).trans (b1.mono (unhide HB0).size))
  have HI1 := hide ((unhide HI).below b1)
  have HI1' := hide ((unhide HI').below b1)
  have HZ1 := hide ((unhide HZ).below b1)
  have HZ1' := hide ((unhide HZ').below b1)
  clear HX0 HY0 HB0 HI HI' HZ HZ' HR HR' b1
  obtain ⟨p0, p1, p2, p3⟩ := unhide HX1
  obtain ⟨q0, q1, q2, q3⟩ := unhide HY1
  go_wp2_with fail
  clear p0 p1 p2 p3 q0 q1 q2 q3
  refine (In.eqS _ _ cs _ _ _ hc (unhide HI1) (unhide HI1')).mono ?_
  rintro e w2 ⟨rfl, b2⟩
  have HX2 := hide ((unhide HX1).below b2)
  have HY2 := hide ((unhide HY1).below b2)
  have HB2 := hide ((unhide HB1).trans (b2.mono (unhide HB1).size))
  have HZ2 := hide ((unhide HZ1).below b2)
  have HZ2' := hide ((unhide HZ1').below b2)
  clear HX1 HY1 HB1 HI1 HI1' HZ1 HZ1' b2
  obtain ⟨p0, p1, p2, p3⟩ := unhide HX2
  obtain ⟨q0, q1, q2, q3⟩ := unhide HY2
  go_wp2_with fail
  clear p0 p1 p2 p3 q0 q1 q2 q3
  refine (Fm.eqS _ _ fs _ _ _ hf (unhide HZ2) (unhide HZ2')).mono ?_
  rintro e w3 ⟨rfl, b3⟩
  have HX3 := hide ((unhide HX2).below b3)
  have HY3 := hide ((unhide HY2).below b3)
  have HB3 := hide ((unhide HB2).trans (b3.mono (unhide HB2).size))
  clear HX2 HY2 HB2 HZ2 HZ2' b3
  obtain ⟨p0, p1, p2, p3⟩ := unhide HX3
  obtain ⟨q0, q1, q2, q3⟩ := unhide HY3
  go_wp2_with fail
  go_ret
  exact ⟨rfl, unhide HB3⟩
end Nt
end Go.Proofs.Ytpmlpojefelbbaa
namespace Go.Proofs.Ytpmlpojefelbbaa
open Go.ChangeShapes Go.WideShapes Go.ChangeAt Go.RowKit
set_option linter.unusedVariables false
set_option linter.unusedSimpArgs false
set_option maxRecDepth 100000
attribute [local go_sem ↓] Go.wp_at_zero Go.wp_at_succ
namespace Nt
open W1 Rt
set_option maxHeartbeats 8000000 in
theorem heldNt (a b d : Option Addr) (ca cb cd : Nat) (t : Int) (K : Int) (lo hi : Nat) (ms : List Rm) (qs : List Pl) (cs : List Int) (fs : List Fm.R) (w : World) (hm : ms.length ≤ 1048576) (hc : cs.length ≤ 1048576) (hf : fs.length ≤ 1048576) (hK : 0 ≤ K) (hK1 : K + totK ms cs fs ≤ 99999990) (hs : ∀ i, i < ms.length → Sm (ms.getD i Rm.zero)) (h : MM w a b d K ms qs cs fs lo hi) :
    Calls Try.prog 12 #[.agg #[.slice a ms.length ca, .slice b cs.length cb, .slice d fs.length cd, .int .i64 t], .int .i64 K] w fun e w' => e = .returned (.int .i64 (K + totK ms cs fs)) ∧ Below w.heap.size w w' := by
  have b0 := bel_new w (.cells #[.slice a ms.length ca, .slice b cs.length cb, .slice d fs.length cd, .int .i64 t] 26)
  have HX0 := hide (nb_new w (.slice a ms.length ca) (.slice b cs.length cb) (.slice d fs.length cd) t 26)
  have HB0 := hide b0
  obtain ⟨f, p1, q1, p2, q2, p3, q3, _, h1, h2, h3⟩ := h.below b0
  obtain ⟨r, hr⟩ : ∃ r, K + sumK ms ms.length = r := ⟨_, rfl⟩
  have hsp := sumK_pos ms ms.length
  have hr0 : 0 ≤ r := by omega
  have hr1 : r + cs.length + 4 * fs.length ≤ 99999990 := by unfold totK at hK1; omega
  have HTK : Hid (r + (cs.length : Int) + 4 * (fs.length : Int) = K + totK ms cs fs) := hide (by unfold totK; omega)
  rw [hr] at h2 h3
  have C1 := hide (heldNF a ca p1 q1 ms.length f K ms (fun i => qs.getD i Pl.zero) _ rfl hm hK (by omega) hs h1)
  have C2 := hide (In.heldF b cb cs.length p2 q2 r _ hr0 (by omega) hc h2)
  have C3 := hide (Fm.hdFF d cd fs.length p3 q3 (r + (cs.length : Int)) _ (by omega) (by omega) hf h3)
  rw [hr] at C1
  have n1 : ¬ r < 0 := by omega
  have n2 : ¬ (r + (cs.length : Int)) < 0 := by omega
  have n3 : ¬ (r + (cs.length : Int) + 4 * (fs.length : Int)) < 0 := by omega
  clear h h1 h2 h3 b0 hK1 hs hsp hr
  go_enter Try.func12, Try.ntmps12
  obtain ⟨x0, x1, x2, x3⟩ := unhide HX0
  go_wp2_with fail
  generalize w.alloc (.cells #[.slice a ms.length ca, .slice b cs.length cb, .slice d fs.length cd, .int .i64 t] 26) = w0 at *
  refine (unhide C1).mono ?_
  rintro e w1 ⟨rfl, hw_⟩
  rw [hw_]
  clear hw_
  go_wp2_with fail
  refine (unhide C2).mono ?_
  rintro e w2 ⟨rfl, hw_⟩
  rw [hw_]
  clear hw_
  go_wp2_with fail
  refine (unhide C3).mono ?_
  rintro e w3 ⟨rfl, b3⟩
  have HB3 := hide ((unhide HB0).trans (b3.mono (unhide HB0).size))
  clear b3 x0 x1 x2 x3
  go_wp2_with fail
  go_ret
  exact ⟨by rw [unhide HTK]; rfl, unhide HB3⟩
end Nt
end Go.Proofs.Ytpmlpojefelbbaa
namespace Go.Proofs.Ytpmlpojefelbbaa.fnExactNewNet
open Go.ChangeShapes Go.WideShapes Go.ChangeAt Go.RowKit
open W1 Rt Nt Na
set_option linter.unusedVariables false
set_option linter.unusedSimpArgs false
theorem own : ownKnob Try.prog.godebug = none := by kernel_rfl
theorem laidOut : laidOutB Try.prog = true := by kernel_rfl
set_option maxRecDepth 100000 in
set_option maxHeartbeats 32000000 in
theorem walk (a : Option Addr) (ws : List Int) (ca : Nat) (hx1 : ws.length ≤ maxLen) (b : Option Addr) (cs : List Int) (cb : Nat) (hx2 : cs.length ≤ maxLen) (w : World) (hr : In.RM w a ws) (hi : In.RM w b cs) :
    Calls Try.prog 3 #[.slice a ws.length ca, .slice b cs.length cb] w fun e w' => e = .returned (.bool true) ∧ Below w.heap.size w w' := by
  have B0 : Below w.heap.size w w := Below.refl _ _
  have HRW := hide hr
  have HIW := hide hi
  have HR0 := hide hr
  have HI0 := hide hi
  clear hr hi
  go_enter Try.func3, Try.ntmps3
  by_cases hb1 : (1048576 : Int) < (ws.length : Int)
  · go_wp2_with fail
    go_ret
    exact ⟨rfl, B0⟩
  have hm1 : ws.length ≤ 1048576 := by omega
  by_cases hb2 : (1048576 : Int) < (cs.length : Int)
  · go_wp2_with fail
    go_ret
    exact ⟨rfl, B0⟩
  have hm2 : cs.length ≤ 1048576 := by omega
  have HSL := hide (nn_sm ws cs)
  obtain ⟨Ms, hMs_⟩ : ∃ Ms, nnM (nnE ws cs) ws = Ms := ⟨_, rfl⟩
  have HMs := hide hMs_
  clear hMs_
  obtain ⟨Cs, hCs_⟩ : ∃ Cs, nnC (nnE ws cs) cs = Cs := ⟨_, rfl⟩
  have HCs := hide hCs_
  clear hCs_
  obtain ⟨Fs, hFs_⟩ : ∃ Fs, ([] : List Fm.R) = Fs := ⟨_, rfl⟩
  have HFs := hide hFs_
  clear hFs_
  obtain ⟨T, hT_⟩ : ∃ T, (0 : Int) = T := ⟨_, rfl⟩
  have HT := hide hT_
  clear hT_
  obtain ⟨E, hE_⟩ : ∃ E, nnE ws cs = E := ⟨_, rfl⟩
  have HE := hide hE_
  clear hE_
  have nE : (E != E) = false := by simp
  rw [unhide HMs, unhide HCs, unhide HFs] at HSL
  have ho1 : Ms.length ≤ 1048576 := by have := (unhide HSL).1; omega
  have ho2 : Cs.length ≤ 1048576 := by have := (unhide HSL).2.2.1; omega
  have ho3 : Fs.length ≤ 1048576 := by have := (unhide HSL).2.2.2; omega
  have HOS := hide (fun i (h : i < Ms.length) => r64_sm ((unhide HSL).2.1 i h))
  have HOK := hide (Int.le_trans (smN_k (unhide HSL)) (by decide : (99990 : Int) ≤ 99999990))
  have HOP := hide (totK_pos Ms Cs Fs)
  go_wp2_with fail
  refine (In.toS a ws ca _ hm1 (unhide HR0)).mono ?_
  rintro e w1 ⟨gS, rfl, b1, hg_, hl_, u_⟩
  have B1 := B0.trans (b1.mono B0.size)
  have sz1 : w.heap.size ≤ w1.heap.size := b1.size
  have HR1 := hide ((unhide HR0).below b1)
  have HI1 := hide ((unhide HI0).below b1)
  clear HR0 HI0
  have S1 := hide (In.rm_of u_)
  clear u_ hg_ hl_
  go_wp2_with fail
  refine (In.toS b cs cb _ hm2 (unhide HI1)).mono ?_
  rintro e w2 ⟨gU, rfl, b2, hg_, hl_, u_⟩
  have B2 := B1.trans (b2.mono B1.size)
  have sz2 : w1.heap.size ≤ w2.heap.size := b2.size
  have HR2 := hide ((unhide HR1).below b2)
  have HI2 := hide ((unhide HI1).below b2)
  have S2 := hide ((unhide S1).below b2)
  clear HR1 HI1 S1
  have U2 := hide (In.rm_of u_)
  clear u_ hg_ hl_
  go_wp2_with fail
  refine (specNN _ _ _ _ ws cs _ hm1 hm2 (unhide S2) (unhide U2)).mono ?_
  rintro e w3 ⟨v_, rfl, b3, got_⟩
  have B3 := B2.trans (b3.mono B2.size)
  have sz3 : w2.heap.size ≤ w3.heap.size := b3.size
  have HR3 := hide ((unhide HR2).below b3)
  have HI3 := hide ((unhide HI2).below b3)
  have S3 := hide ((unhide S2).below b3)
  have U3 := hide ((unhide U2).below b3)
  clear HR2 HI2 S2 U2
  rw [unhide HMs, unhide HCs, unhide HFs, unhide HT] at got_
  obtain ⟨aW, bW, dW, pW, qW, rW, sW, rfl, L_⟩ := got_
  have W3 := hide L_
  clear L_
  rw [unhide HE]
  clear S3
  clear U3
  have b4 := bel_new w3 (.cells #[.slice aW Ms.length pW, .slice bW Cs.length qW, .slice dW Fs.length rW, .int .i64 T] 26)
  have B4 := B3.trans (b4.mono B3.size)
  have sx4 : w3.heap.size < (w3.alloc (.cells #[.slice aW Ms.length pW, .slice bW Cs.length qW, .slice dW Fs.length rW, .int .i64 T] 26)).heap.size := by simp
  have sz4 : w3.heap.size ≤ (w3.alloc (.cells #[.slice aW Ms.length pW, .slice bW Cs.length qW, .slice dW Fs.length rW, .int .i64 T] 26)).heap.size := b4.size
  have HR4 := hide ((unhide HR3).below b4)
  have HI4 := hide ((unhide HI3).below b4)
  have W4 := hide ((unhide W3).below b4)
  clear HR3 HI3 W3
  have VW4 := hide (nb_new w3 (.slice aW Ms.length pW) (.slice bW Cs.length qW) (.slice dW Fs.length rW) T 26)
  go_wp2_with fail
  generalize hW_ : (w3.alloc (.cells #[.slice aW Ms.length pW, .slice bW Cs.length qW, .slice dW Fs.length rW, .int .i64 T] 26)) = w4 at *
  clear hW_
  refine (In.toS a ws ca _ hm1 (unhide HR4)).mono ?_
  rintro e w5 ⟨gX, rfl, b5, hg_, hl_, u_⟩
  have B5 := B4.trans (b5.mono B4.size)
  have sz5 : w4.heap.size ≤ w5.heap.size := b5.size
  have HR5 := hide ((unhide HR4).below b5)
  have HI5 := hide ((unhide HI4).below b5)
  have W5 := hide ((unhide W4).below b5)
  have VW5 := hide ((unhide VW4).below b5)
  clear HR4 HI4 W4 VW4
  have X5 := hide (show In.Lst w5 (some ⟨gX, 0, none⟩) ws w4.heap.size w5.heap.size from .inr ⟨gX, rfl, hg_, hl_, hl_, u_⟩)
  clear u_ hg_ hl_
  go_wp2_with fail
  refine (In.toS b cs cb _ hm2 (unhide HI5)).mono ?_
  rintro e w6 ⟨gY, rfl, b6, hg_, hl_, u_⟩
  have B6 := B5.trans (b6.mono B5.size)
  have sz6 : w5.heap.size ≤ w6.heap.size := b6.size
  have HR6 := hide ((unhide HR5).below b6)
  have HI6 := hide ((unhide HI5).below b6)
  have W6 := hide ((unhide W5).below b6)
  have VW6 := hide ((unhide VW5).below b6)
  have X6 := hide ((unhide X5).below b6)
  clear HR5 HI5 W5 VW5 X5
  have Y6 := hide (show In.Lst w6 (some ⟨gY, 0, none⟩) cs w5.heap.size w6.heap.size from .inr ⟨gY, rfl, hg_, hl_, hl_, u_⟩)
  clear u_ hg_ hl_
  go_wp2_with fail
  refine (implNN _ _ _ _ ws cs _ hm1 hm2 (unhide X6).rm (unhide Y6).rm).mono ?_
  rintro e w7 ⟨v_, rfl, b7, got_⟩
  have B7 := B6.trans (b7.mono B6.size)
  have sz7 : w6.heap.size ≤ w7.heap.size := b7.size
  have HR7 := hide ((unhide HR6).below b7)
  have HI7 := hide ((unhide HI6).below b7)
  have W7 := hide ((unhide W6).below b7)
  have VW7 := hide ((unhide VW6).below b7)
  have X7 := hide ((unhide X6).below b7)
  have Y7 := hide ((unhide Y6).below b7)
  clear HR6 HI6 W6 VW6 X6 Y6
  rw [unhide HMs, unhide HCs, unhide HFs, unhide HT] at got_
  obtain ⟨aG, bG, dG, pG, qG, rG, sG, rfl, L_⟩ := got_
  have G7 := hide L_
  clear L_
  rw [unhide HE]
  have b8 := bel_new w7 (.cells #[.slice aG Ms.length pG, .slice bG Cs.length qG, .slice dG Fs.length rG, .int .i64 T] 26)
  have B8 := B7.trans (b8.mono B7.size)
  have sx8 : w7.heap.size < (w7.alloc (.cells #[.slice aG Ms.length pG, .slice bG Cs.length qG, .slice dG Fs.length rG, .int .i64 T] 26)).heap.size := by simp
  have sz8 : w7.heap.size ≤ (w7.alloc (.cells #[.slice aG Ms.length pG, .slice bG Cs.length qG, .slice dG Fs.length rG, .int .i64 T] 26)).heap.size := b8.size
  have HR8 := hide ((unhide HR7).below b8)
  have HI8 := hide ((unhide HI7).below b8)
  have W8 := hide ((unhide W7).below b8)
  have VW8 := hide ((unhide VW7).below b8)
  have X8 := hide ((unhide X7).below b8)
  have Y8 := hide ((unhide Y7).below b8)
  have G8 := hide ((unhide G7).below b8)
  clear HR7 HI7 W7 VW7 X7 Y7 G7
  have VG8 := hide (nb_new w7 (.slice aG Ms.length pG) (.slice bG Cs.length qG) (.slice dG Fs.length rG) T 26)
  obtain ⟨k0_0, k0_1, k0_2, k0_3⟩ := unhide VG8
  obtain ⟨k1_0, k1_1, k1_2, k1_3⟩ := unhide VW8
  go_wp2_with fail
  clear k0_0 k0_1 k0_2 k0_3 k1_0 k1_1 k1_2 k1_3
  generalize hW_ : (w7.alloc (.cells #[.slice aG Ms.length pG, .slice bG Cs.length qG, .slice dG Fs.length rG, .int .i64 T] 26)) = w8 at *
  clear hW_
  refine (eqNt _ _ _ _ _ _ _ _ _ _ _ _ T Ms _ _ Cs Fs _ ho1 ho2 ho3 (unhide HOS) (unhide G8).nr (unhide W8).nr (unhide G8).ri (unhide W8).ri (unhide G8).rf (unhide W8).rf).mono ?_
  rintro e w9 ⟨rfl, b9⟩
  have B9 := B8.trans (b9.mono B8.size)
  have sz9 : w8.heap.size ≤ w9.heap.size := b9.size
  have HR9 := hide ((unhide HR8).below b9)
  have HI9 := hide ((unhide HI8).below b9)
  have W9 := hide ((unhide W8).below b9)
  have VW9 := hide ((unhide VW8).below b9)
  have X9 := hide ((unhide X8).below b9)
  have Y9 := hide ((unhide Y8).below b9)
  have G9 := hide ((unhide G8).below b9)
  have VG9 := hide ((unhide VG8).below b9)
  clear HR8 HI8 W8 VW8 X8 Y8 G8 VG8
  go_wp2_with fail
  refine (In.toS a ws ca _ hm1 (unhide HR9)).mono ?_
  rintro e w10 ⟨gZ, rfl, b10, hg_, hl_, u_⟩
  have B10 := B9.trans (b10.mono B9.size)
  have sz10 : w9.heap.size ≤ w10.heap.size := b10.size
  have HR10 := hide ((unhide HR9).below b10)
  have HI10 := hide ((unhide HI9).below b10)
  have W10 := hide ((unhide W9).below b10)
  have VW10 := hide ((unhide VW9).below b10)
  have X10 := hide ((unhide X9).below b10)
  have Y10 := hide ((unhide Y9).below b10)
  have G10 := hide ((unhide G9).below b10)
  have VG10 := hide ((unhide VG9).below b10)
  clear HR9 HI9 W9 VW9 X9 Y9 G9 VG9
  have Z10 := hide (In.rm_of u_)
  clear u_ hg_ hl_
  go_wp2_with fail
  refine (In.eqS _ _ ws _ _ _ hm1 (unhide X10).rm (unhide Z10)).mono ?_
  rintro e w11 ⟨rfl, b11⟩
  have B11 := B10.trans (b11.mono B10.size)
  have sz11 : w10.heap.size ≤ w11.heap.size := b11.size
  have HR11 := hide ((unhide HR10).below b11)
  have HI11 := hide ((unhide HI10).below b11)
  have W11 := hide ((unhide W10).below b11)
  have VW11 := hide ((unhide VW10).below b11)
  have X11 := hide ((unhide X10).below b11)
  have Y11 := hide ((unhide Y10).below b11)
  have G11 := hide ((unhide G10).below b11)
  have VG11 := hide ((unhide VG10).below b11)
  have Z11 := hide ((unhide Z10).below b11)
  clear HR10 HI10 W10 VW10 X10 Y10 G10 VG10 Z10
  clear Z11
  go_wp2_with fail
  refine (In.toS b cs cb _ hm2 (unhide HI11)).mono ?_
  rintro e w12 ⟨gZ2, rfl, b12, hg_, hl_, u_⟩
  have B12 := B11.trans (b12.mono B11.size)
  have sz12 : w11.heap.size ≤ w12.heap.size := b12.size
  have HR12 := hide ((unhide HR11).below b12)
  have HI12 := hide ((unhide HI11).below b12)
  have W12 := hide ((unhide W11).below b12)
  have VW12 := hide ((unhide VW11).below b12)
  have X12 := hide ((unhide X11).below b12)
  have Y12 := hide ((unhide Y11).below b12)
  have G12 := hide ((unhide G11).below b12)
  have VG12 := hide ((unhide VG11).below b12)
  clear HR11 HI11 W11 VW11 X11 Y11 G11 VG11
  have Z12 := hide (In.rm_of u_)
  clear u_ hg_ hl_
  go_wp2_with fail
  refine (In.eqS _ _ cs _ _ _ hm2 (unhide Y12).rm (unhide Z12)).mono ?_
  rintro e w13 ⟨rfl, b13⟩
  have B13 := B12.trans (b13.mono B12.size)
  have sz13 : w12.heap.size ≤ w13.heap.size := b13.size
  have HR13 := hide ((unhide HR12).below b13)
  have HI13 := hide ((unhide HI12).below b13)
  have W13 := hide ((unhide W12).below b13)
  have VW13 := hide ((unhide VW12).below b13)
  have X13 := hide ((unhide X12).below b13)
  have Y13 := hide ((unhide Y12).below b13)
  have G13 := hide ((unhide G12).below b13)
  have VG13 := hide ((unhide VG12).below b13)
  have Z13 := hide ((unhide Z12).below b13)
  clear HR12 HI12 W12 VW12 X12 Y12 G12 VG12 Z12
  clear Z13
  go_wp2_with fail
  refine (In.markF _ _ w4.heap.size w5.heap.size 1 ws _ (by omega) (by omega) hm1 (unhide X13)).mono ?_
  rintro e w14 ⟨rfl, hz_, b_, _, k_⟩
  have sz14 := hz_
  have B14 := B13.trans (b_.mono (by omega))
  clear b_
  have HR14 := hide ((unhide HRW).below B14)
  have HI14 := hide ((unhide HIW).below B14)
  have VW14 := hide ((unhide VW13).but (k_ w3.heap.size (unhide VW13).lt (by omega)))
  have VG14 := hide ((unhide VG13).but (k_ w7.heap.size (unhide VG13).lt (by omega)))
  have W14 := hide ((unhide W13).but (L := w4.heap.size) (H := w5.heap.size) hz_ (fun k hk h => k_ k hk h) (by omega))
  have G14 := hide ((unhide G13).but (L := w4.heap.size) (H := w5.heap.size) hz_ (fun k hk h => k_ k hk h) (by omega))
  have Y14 := hide ((unhide Y13).but (p := fun k => k < w4.heap.size ∨ w5.heap.size ≤ k) hz_ (fun k hk h => k_ k hk h) (fun k h1 h2 => by omega))
  clear HR13 HI13 VW13 VG13 W13 G13 Y13
  clear X13 k_ hz_
  go_wp2_with fail
  refine (In.markF _ _ w5.heap.size w6.heap.size (1 + (ws.length : Int)) cs _ (by omega) (by omega) hm2 (unhide Y14)).mono ?_
  rintro e w15 ⟨rfl, hz_, b_, _, k_⟩
  have sz15 := hz_
  have B15 := B14.trans (b_.mono (by omega))
  clear b_
  have HR15 := hide ((unhide HRW).below B15)
  have HI15 := hide ((unhide HIW).below B15)
  have VW15 := hide ((unhide VW14).but (k_ w3.heap.size (unhide VW14).lt (by omega)))
  have VG15 := hide ((unhide VG14).but (k_ w7.heap.size (unhide VG14).lt (by omega)))
  have W15 := hide ((unhide W14).but (L := w5.heap.size) (H := w6.heap.size) hz_ (fun k hk h => k_ k hk h) (by omega))
  have G15 := hide ((unhide G14).but (L := w5.heap.size) (H := w6.heap.size) hz_ (fun k hk h => k_ k hk h) (by omega))
  clear HR14 HI14 VW14 VG14 W14 G14
  clear Y14 k_ hz_
  have hpk : ¬ (1 + (ws.length : Int) + (cs.length : Int) < 0) := by omega
  obtain ⟨k0_0, k0_1, k0_2, k0_3⟩ := unhide VG15
  obtain ⟨k1_0, k1_1, k1_2, k1_3⟩ := unhide VW15
  go_wp2_with fail
  clear k0_0 k0_1 k0_2 k0_3 k1_0 k1_1 k1_2 k1_3
  refine (eqNt _ _ _ _ _ _ _ _ _ _ _ _ T Ms _ _ Cs Fs _ ho1 ho2 ho3 (unhide HOS) (unhide G15).nr (unhide W15).nr (unhide G15).ri (unhide W15).ri (unhide G15).rf (unhide W15).rf).mono ?_
  rintro e w16 ⟨rfl, b16⟩
  have B16 := B15.trans (b16.mono B15.size)
  have sz16 : w15.heap.size ≤ w16.heap.size := b16.size
  have HR16 := hide ((unhide HR15).below b16)
  have HI16 := hide ((unhide HI15).below b16)
  have W16 := hide ((unhide W15).below b16)
  have VW16 := hide ((unhide VW15).below b16)
  have G16 := hide ((unhide G15).below b16)
  have VG16 := hide ((unhide VG15).below b16)
  clear HR15 HI15 W15 VW15 G15 VG15
  obtain ⟨k0_0, k0_1, k0_2, k0_3⟩ := unhide VG16
  go_wp2_with fail
  clear k0_0 k0_1 k0_2 k0_3
  refine (markNt _ _ _ _ _ _ T 1 w6.heap.size w7.heap.size Ms _ Cs Fs _ ho1 ho2 ho3 (by omega) (unhide HOK) (unhide HOS) (by omega) (by omega) (unhide G16)).mono ?_
  rintro e w17 ⟨rfl, hz_, b_, m_, k_⟩
  have sz17 := hz_
  have B17 := B16.trans (b_.mono (by omega))
  have M17 := hide m_
  clear b_ m_
  have HR17 := hide ((unhide HRW).below B17)
  have HI17 := hide ((unhide HIW).below B17)
  have VW17 := hide ((unhide VW16).but (k_ w3.heap.size (unhide VW16).lt (by omega)))
  have VG17 := hide ((unhide VG16).but (k_ w7.heap.size (unhide VG16).lt (by omega)))
  have W17 := hide ((unhide W16).but (L := w6.heap.size) (H := w7.heap.size) hz_ (fun k hk h => k_ k hk h) (by omega))
  clear HR16 HI16 VW16 VG16 W16
  clear G16 k_ hz_
  have hpm : ¬ (1 + totK Ms Cs Fs < 0) := by have := unhide HOP; omega
  obtain ⟨k0_0, k0_1, k0_2, k0_3⟩ := unhide VG17
  go_wp2_with fail
  clear k0_0 k0_1 k0_2 k0_3
  refine (heldNt _ _ _ _ _ _ T 1 w6.heap.size w7.heap.size Ms _ Cs Fs _ ho1 ho2 ho3 (by omega) (unhide HOK) (unhide HOS) (unhide M17)).mono ?_
  rintro e w18 ⟨rfl, b18⟩
  have B18 := B17.trans (b18.mono B17.size)
  have sz18 : w17.heap.size ≤ w18.heap.size := b18.size
  have HR18 := hide ((unhide HR17).below b18)
  have HI18 := hide ((unhide HI17).below b18)
  have W18 := hide ((unhide W17).below b18)
  have VW18 := hide ((unhide VW17).below b18)
  have VG18 := hide ((unhide VG17).below b18)
  have M18 := hide ((unhide M17).below b18)
  clear HR17 HI17 W17 VW17 VG17 M17
  go_wp2_with fail
  refine (In.toS a ws ca _ hm1 (unhide HR18)).mono ?_
  rintro e w19 ⟨gS2, rfl, b19, hg_, hl_, u_⟩
  have B19 := B18.trans (b19.mono B18.size)
  have sz19 : w18.heap.size ≤ w19.heap.size := b19.size
  have HR19 := hide ((unhide HR18).below b19)
  have HI19 := hide ((unhide HI18).below b19)
  have W19 := hide ((unhide W18).below b19)
  have VW19 := hide ((unhide VW18).below b19)
  have VG19 := hide ((unhide VG18).below b19)
  have M19 := hide ((unhide M18).below b19)
  clear HR18 HI18 W18 VW18 VG18 M18
  have S19 := hide (In.rm_of u_)
  clear u_ hg_ hl_
  go_wp2_with fail
  refine (In.toS b cs cb _ hm2 (unhide HI19)).mono ?_
  rintro e w20 ⟨gU2, rfl, b20, hg_, hl_, u_⟩
  have B20 := B19.trans (b20.mono B19.size)
  have sz20 : w19.heap.size ≤ w20.heap.size := b20.size
  have HR20 := hide ((unhide HR19).below b20)
  have HI20 := hide ((unhide HI19).below b20)
  have W20 := hide ((unhide W19).below b20)
  have VW20 := hide ((unhide VW19).below b20)
  have VG20 := hide ((unhide VG19).below b20)
  have M20 := hide ((unhide M19).below b20)
  have S20 := hide ((unhide S19).below b20)
  clear HR19 HI19 W19 VW19 VG19 M19 S19
  have U20 := hide (In.rm_of u_)
  clear u_ hg_ hl_
  go_wp2_with fail
  refine (implNN _ _ _ _ ws cs _ hm1 hm2 (unhide S20) (unhide U20)).mono ?_
  rintro e w21 ⟨v_, rfl, b21, got_⟩
  have B21 := B20.trans (b21.mono B20.size)
  have sz21 : w20.heap.size ≤ w21.heap.size := b21.size
  have HR21 := hide ((unhide HR20).below b21)
  have HI21 := hide ((unhide HI20).below b21)
  have W21 := hide ((unhide W20).below b21)
  have VW21 := hide ((unhide VW20).below b21)
  have VG21 := hide ((unhide VG20).below b21)
  have M21 := hide ((unhide M20).below b21)
  have S21 := hide ((unhide S20).below b21)
  have U21 := hide ((unhide U20).below b21)
  clear HR20 HI20 W20 VW20 VG20 M20 S20 U20
  rw [unhide HMs, unhide HCs, unhide HFs, unhide HT] at got_
  obtain ⟨aH, bH, dH, pH, qH, rH, sH, rfl, L_⟩ := got_
  have H21 := hide L_
  clear L_
  rw [unhide HE]
  clear S21
  clear U21
  have b22 := bel_new w21 (.cells #[.slice aH Ms.length pH, .slice bH Cs.length qH, .slice dH Fs.length rH, .int .i64 T] 26)
  have B22 := B21.trans (b22.mono B21.size)
  have sx22 : w21.heap.size < (w21.alloc (.cells #[.slice aH Ms.length pH, .slice bH Cs.length qH, .slice dH Fs.length rH, .int .i64 T] 26)).heap.size := by simp
  have sz22 : w21.heap.size ≤ (w21.alloc (.cells #[.slice aH Ms.length pH, .slice bH Cs.length qH, .slice dH Fs.length rH, .int .i64 T] 26)).heap.size := b22.size
  have HR22 := hide ((unhide HR21).below b22)
  have HI22 := hide ((unhide HI21).below b22)
  have W22 := hide ((unhide W21).below b22)
  have VW22 := hide ((unhide VW21).below b22)
  have VG22 := hide ((unhide VG21).below b22)
  have M22 := hide ((unhide M21).below b22)
  have H22 := hide ((unhide H21).below b22)
  clear HR21 HI21 W21 VW21 VG21 M21 H21
  have VH22 := hide (nb_new w21 (.slice aH Ms.length pH) (.slice bH Cs.length qH) (.slice dH Fs.length rH) T 26)
  obtain ⟨k0_0, k0_1, k0_2, k0_3⟩ := unhide VH22
  obtain ⟨k1_0, k1_1, k1_2, k1_3⟩ := unhide VW22
  go_wp2_with fail
  clear k0_0 k0_1 k0_2 k0_3 k1_0 k1_1 k1_2 k1_3
  generalize hW_ : (w21.alloc (.cells #[.slice aH Ms.length pH, .slice bH Cs.length qH, .slice dH Fs.length rH, .int .i64 T] 26)) = w22 at *
  clear hW_
  refine (eqNt _ _ _ _ _ _ _ _ _ _ _ _ T Ms _ _ Cs Fs _ ho1 ho2 ho3 (unhide HOS) (unhide H22).nr (unhide W22).nr (unhide H22).ri (unhide W22).ri (unhide H22).rf (unhide W22).rf).mono ?_
  rintro e w23 ⟨rfl, b23⟩
  have B23 := B22.trans (b23.mono B22.size)
  have sz23 : w22.heap.size ≤ w23.heap.size := b23.size
  have HR23 := hide ((unhide HR22).below b23)
  have HI23 := hide ((unhide HI22).below b23)
  have W23 := hide ((unhide W22).below b23)
  have VW23 := hide ((unhide VW22).below b23)
  have VG23 := hide ((unhide VG22).below b23)
  have M23 := hide ((unhide M22).below b23)
  have H23 := hide ((unhide H22).below b23)
  have VH23 := hide ((unhide VH22).below b23)
  clear HR22 HI22 W22 VW22 VG22 M22 H22 VH22
  obtain ⟨k0_0, k0_1, k0_2, k0_3⟩ := unhide VG23
  go_wp2_with fail
  clear k0_0 k0_1 k0_2 k0_3
  refine (heldNt _ _ _ _ _ _ T 1 w6.heap.size w7.heap.size Ms _ Cs Fs _ ho1 ho2 ho3 (by omega) (unhide HOK) (unhide HOS) (unhide M23)).mono ?_
  rintro e w24 ⟨rfl, b24⟩
  have B24 := B23.trans (b24.mono B23.size)
  have sz24 : w23.heap.size ≤ w24.heap.size := b24.size
  have HR24 := hide ((unhide HR23).below b24)
  have HI24 := hide ((unhide HI23).below b24)
  have W24 := hide ((unhide W23).below b24)
  have VW24 := hide ((unhide VW23).below b24)
  have VG24 := hide ((unhide VG23).below b24)
  have M24 := hide ((unhide M23).below b24)
  have H24 := hide ((unhide H23).below b24)
  have VH24 := hide ((unhide VH23).below b24)
  clear HR23 HI23 W23 VW23 VG23 M23 H23 VH23
  have HF_ := hide B24
  go_wp2_with fail
  go_ret
  exact ⟨rfl, unhide HF_⟩

end Go.Proofs.Ytpmlpojefelbbaa.fnExactNewNet
