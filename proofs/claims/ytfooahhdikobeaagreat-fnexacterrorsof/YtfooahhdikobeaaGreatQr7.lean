/-
  Of the texts NetF, Dig, Strs, NetB, NetHa, NetHb, NetHc, ExErrorsOfW: what this claim needs of them. (put together by mkprune.py)
-/
import Derived.Test.YtfooahhdikobeaaGreatQr6
import Derived.Deep.MidRow
import Derived.Deep.Cut
import Derived.Lib.ItoaMem
import Derived.Laws.BytesArg
import Derived.Deep.RegionHeld3
import Derived.Deep.DrawnRows
import Derived.Deep.Slices
import Derived.Laws.AppendOwn
import Derived.Deep.DeepHandedRow
namespace Go.Proofs.YtfooahhdikobeaaGreat
open Go.ChangeShapes Go.WideShapes Go.ChangeAt Go.RowKit
set_option linter.unusedVariables false
set_option linter.unusedSimpArgs false
set_option maxRecDepth 100000
attribute [local go_sem ↓] Go.wp_at_zero Go.wp_at_succ
namespace Nt
open W1 Rt
def mkK (m : Rm) : Int := 6 + (6 * (m.ls.length : Int) + 3 * (m.tw.length : Int) + 3 * (m.se.length : Int) + 3 * (m.du.length : Int) + 3 * (m.ss.length : Int) + 3 * (m.es.length : Int) + 2 * (m.la.length : Int))
/-- A router's marks: its first number is q, its lists' marks begin at r0 to r6, its last number is r7. -/
def mkR (m : Rm) (q r0 r1 r2 r3 r4 r5 r6 r7 : Int) : Rm := ⟨q, q + 1, q + 1 + 1, q + 1 + 1 + 1, q + 1 + 1 + 1 + 1, r7, Lk.marks r0 m.ls.length, Tu.marks r1 m.tw.length, Tu.marks r2 m.se.length, Tu.marks r3 m.du.length, So.marks r4 m.ss.length, Tu.marks r5 m.es.length, Ed.marks r6 m.la.length⟩
def mk5 (m : Rm) (q : Int) : Rm := ⟨q, q + 1, q + 1 + 1, q + 1 + 1 + 1, q + 1 + 1 + 1 + 1, m.x6, m.ls, m.tw, m.se, m.du, m.ss, m.es, m.la⟩
def mkM (m : Rm) (q : Int) : Rm := mkR m q (q + 1 + 1 + 1 + 1 + 1) ((q + 1 + 1 + 1 + 1 + 1) + 6 * (m.ls.length : Int)) (((q + 1 + 1 + 1 + 1 + 1) + 6 * (m.ls.length : Int)) + 3 * (m.tw.length : Int)) ((((q + 1 + 1 + 1 + 1 + 1) + 6 * (m.ls.length : Int)) + 3 * (m.tw.length : Int)) + 3 * (m.se.length : Int)) (((((q + 1 + 1 + 1 + 1 + 1) + 6 * (m.ls.length : Int)) + 3 * (m.tw.length : Int)) + 3 * (m.se.length : Int)) + 3 * (m.du.length : Int)) ((((((q + 1 + 1 + 1 + 1 + 1) + 6 * (m.ls.length : Int)) + 3 * (m.tw.length : Int)) + 3 * (m.se.length : Int)) + 3 * (m.du.length : Int)) + 3 * (m.ss.length : Int)) (((((((q + 1 + 1 + 1 + 1 + 1) + 6 * (m.ls.length : Int)) + 3 * (m.tw.length : Int)) + 3 * (m.se.length : Int)) + 3 * (m.du.length : Int)) + 3 * (m.ss.length : Int)) + 3 * (m.es.length : Int)) ((((((((q + 1 + 1 + 1 + 1 + 1) + 6 * (m.ls.length : Int)) + 3 * (m.tw.length : Int)) + 3 * (m.se.length : Int)) + 3 * (m.du.length : Int)) + 3 * (m.ss.length : Int)) + 3 * (m.es.length : Int)) + 2 * (m.la.length : Int))
theorem rA_end (m : Rm) (q : Int) : ((((((((q + 1 + 1 + 1 + 1 + 1) + 6 * (m.ls.length : Int)) + 3 * (m.tw.length : Int)) + 3 * (m.se.length : Int)) + 3 * (m.du.length : Int)) + 3 * (m.ss.length : Int)) + 3 * (m.es.length : Int)) + 2 * (m.la.length : Int)) + 1 = q + mkK m := by unfold mkK; omega
theorem mkK_pos (m : Rm) : 6 ≤ mkK m := by unfold mkK; omega
def sumK (ms : List Rm) : Nat → Int
  | 0 => 0
  | j + 1 => sumK ms j + mkK (ms.getD j Rm.zero)
theorem sumK_pos (ms : List Rm) : ∀ j, 0 ≤ sumK ms j
  | 0 => Int.le_refl _
  | j + 1 => by have := sumK_pos ms j; have := mkK_pos (ms.getD j Rm.zero); simp only [sumK]; omega
theorem sumK_le (ms : List Rm) (j : Nat) : ∀ k, sumK ms j ≤ sumK ms (j + k)
  | 0 => Int.le_refl _
  | k + 1 => by have := sumK_le ms j k; have := mkK_pos (ms.getD (j + k) Rm.zero); rw [show j + (k + 1) = (j + k) + 1 by omega]; simp only [sumK]; omega
/-- The heap but an interval is as it was. -/
def Kp (v w : World) (p q : Nat) : Prop := v.heap.size ≤ w.heap.size ∧ ∀ k, k < v.heap.size → (k < p ∨ q ≤ k) → w.heap[k]? = v.heap[k]?
/-- The routers when j of them are marked. -/
def mkA (ms : List Rm) (K : Int) (j i : Nat) : Rm := if i < j then mkM (ms.getD i Rm.zero) (K + sumK ms i) else ms.getD i Rm.zero
theorem mkA_here (ms : List Rm) (K : Int) (j : Nat) : mkA ms K j j = ms.getD j Rm.zero := by unfold mkA; rw [if_neg (by omega)]
theorem mkA_else (ms : List Rm) (K : Int) {j i : Nat} (h : i ≠ j) : mkA ms K (j + 1) i = mkA ms K j i := by
  unfold mkA
  by_cases e : i < j
  · rw [if_pos e, if_pos (by omega)]
  · rw [if_neg e, if_neg (by omega)]
theorem mkA_next (ms : List Rm) (K : Int) (j : Nat) : mkA ms K (j + 1) j = mkM (ms.getD j Rm.zero) (K + sumK ms j) := by unfold mkA; rw [if_pos (by omega)]
/-- Routers in a row at block g, their lists between f i and f (i + 1). -/
def MkS (w : World) (g n : Nat) (f : Nat → Nat) (M : Nat → Rm) (Q : Nat → Pl) : Prop := (∀ i, i < n → w.rangeAt g (i * 13) (cl (M i) (Q i))) ∧ w.there g 0 (n * 13) ∧ ∀ i, i < n → Ow w (f i) (f (i + 1)) (M i) (Q i)
theorem rng_set {w : World} {g o c : Nat} {cs : List Value} {v : Value} (h : w.rangeAt g o cs) (hc : c < cs.length) : (w.setCell ⟨g, o + c, none⟩ v).rangeAt g o (cs.set c v) := fun j u hu => by
  by_cases e : j = c
  · subst e
    have h1 : (cs.set j v)[j]? = some v := by simp [hc]
    rw [h1] at hu; cases hu
    have := h j (cs[j]) (by simp [hc])
    exact World.cell?_setCell_same _ _ _ this
  · rw [World.cell?_setCell_other _ _ _ _ (by intro h; injection h with _ h2 _; omega)]
    exact h j u (by rw [List.getElem?_set_ne (fun h => e h.symm)] at hu; exact hu)
theorem rng_off {w : World} {g o p : Nat} {cs : List Value} {v : Value} (h : w.rangeAt g o cs) (hp : p < o ∨ o + cs.length ≤ p) : (w.setCell ⟨g, p, none⟩ v).rangeAt g o cs := fun j u hu => by
  have hj : j < cs.length := (List.getElem?_eq_some_iff.1 hu).1
  rw [World.cell?_setCell_other _ _ _ _ (by intro h; injection h with _ h2 _; omega)]
  exact h j u hu
theorem ow_same {w : World} {lo hi : Nat} {m m' : Rm} {p : Pl} (h : Ow w lo hi m p) (e : m'.ls = m.ls ∧ m'.tw = m.tw ∧ m'.se = m.se ∧ m'.du = m.du ∧ m'.ss = m.ss ∧ m'.es = m.es ∧ m'.la = m.la) : Ow w lo hi m' p := by
  obtain ⟨e1, e2, e3, e4, e5, e6, e7⟩ := e
  unfold Ow at h ⊢
  rw [e1, e2, e3, e4, e5, e6, e7]; exact h
/-- A cell of one router's row is written that isn't a list's. -/
theorem MkS.put {w : World} {g n j c : Nat} {f : Nat → Nat} {M : Nat → Rm} {Q : Nat → Pl} (h : MkS w g n f M Q) (hj : j < n) (hc : c < 13) {v : Value} {m' : Rm} (e : (cl (M j) (Q j)).set c v = cl m' (Q j)) (el : m'.ls = (M j).ls ∧ m'.tw = (M j).tw ∧ m'.se = (M j).se ∧ m'.du = (M j).du ∧ m'.ss = (M j).ss ∧ m'.es = (M j).es ∧ m'.la = (M j).la) (hg : ∀ i, i < n → g < f i ∨ f (i + 1) ≤ g) : MkS (w.setCell ⟨g, j * 13 + c, none⟩ v) g n f (fun i => if i = j then m' else M i) Q := by
  refine ⟨fun i hi => ?_, there_at h.2.1, fun i hi => ?_⟩
  · by_cases ei : i = j
    · subst ei
      simp only [if_true]
      rw [← e]
      exact rng_set (h.1 i hi) (by rw [cl_len]; exact hc)
    · simp only [if_neg ei]
      exact rng_off (h.1 i hi) (by rw [cl_len]; omega)
  · have ho : Ow (w.setCell ⟨g, j * 13 + c, none⟩ v) (f i) (f (i + 1)) (M i) (Q i) := (h.2.2 i hi).but (Lo := g) (Hi := g + 1) (by simp [World.setCell]) (fun k _ hk => Below.heap_setCell _ _ _ _ (by show k ≠ g; omega)) (by have := hg i hi; omega)
    by_cases ei : i = j
    · subst ei
      simp only [if_true]
      exact ow_same ho el
    · simp only [if_neg ei]; exact ho
theorem MkS.ext {w : World} {g n : Nat} {f : Nat → Nat} {M M' : Nat → Rm} {Q : Nat → Pl} (h : MkS w g n f M Q) (e : ∀ i, i < n → M' i = M i) : MkS w g n f M' Q :=
  ⟨fun i hi => by rw [e i hi]; exact h.1 i hi, h.2.1, fun i hi => by rw [e i hi]; exact h.2.2 i hi⟩
/-- One router's lists were marked, and nothing else happened. -/
theorem MkS.lists {w w' : World} {g n j : Nat} {f : Nat → Nat} {M : Nat → Rm} {Q : Nat → Pl} {m' : Rm} (h : MkS w g n f M Q) (hj : j < n) (hf : ∀ i, i < n → f i ≤ f (i + 1)) (hg : ∀ i, i < n → g < f i ∨ f (i + 1) ≤ g) (hgs : g < w.heap.size) (hs : w.heap.size ≤ w'.heap.size) (hk : ∀ k, k < w.heap.size → (k < f j ∨ f (j + 1) ≤ k) → w'.heap[k]? = w.heap[k]?) (ho : Ow w' (f j) (f (j + 1)) m' (Q j)) (e : cl m' (Q j) = cl (M j) (Q j)) : MkS w' g n f (fun i => if i = j then m' else M i) Q := by
  have hb : w'.heap[g]? = w.heap[g]? := hk g hgs (by have := hg j hj; omega)
  have cb : ∀ q, w'.cell? ⟨g, q, none⟩ = w.cell? ⟨g, q, none⟩ := fun q => World.cell?_of_block (a := ⟨g, q, none⟩) hb
  have fb : ∀ q, w'.frozen? ⟨g, q, none⟩ = w.frozen? ⟨g, q, none⟩ := fun q => World.frozen?_of_block (a := ⟨g, q, none⟩) hb
  refine ⟨fun i hi => ?_, fun k hk => by rw [cb, fb]; exact h.2.1 k hk, fun i hi => ?_⟩
  · have h1 : w'.rangeAt g (i * 13) (cl (M i) (Q i)) := fun k u hu => (cb _).trans (h.1 i hi k u hu)
    by_cases ei : i = j
    · subst ei; simp only [if_true]; rw [e]; exact h1
    · simp only [if_neg ei]; exact h1
  · by_cases ei : i = j
    · subst ei; simp only [if_true]; exact ho
    · simp only [if_neg ei]
      have up : ∀ i k, i + k ≤ n → f i ≤ f (i + k) := fun i k => by
        induction k with
        | zero => intro _; exact Nat.le_refl _
        | succ k ih => intro hk; exact Nat.le_trans (ih (by omega)) (hf (i + k) (by omega))
      refine (h.2.2 i hi).but hs hk ?_
      rcases Nat.lt_or_gt_of_ne ei with h1 | h1
      · have := up (i + 1) (j - (i + 1)) (by omega)
        rw [show i + 1 + (j - (i + 1)) = j by omega] at this
        exact .inl this
      · have := up (j + 1) (i - (j + 1)) (by omega)
        rw [show j + 1 + (i - (j + 1)) = i by omega] at this
        exact .inr this
set_option maxHeartbeats 32000000 in
theorem markNS (g n c lo hi : Nat) (f : Nat → Nat) (K : Int) (ms : List Rm) (Q : Nat → Pl) (w : World) (hn : ms.length = n) (hn8 : n ≤ 1048576) (hK : 0 ≤ K) (hK1 : K + sumK ms n ≤ 900000000) (hs : ∀ i, i < ms.length → Sm (ms.getD i Rm.zero)) (hgs : g < w.heap.size) (hlg : lo ≤ g) (hgh : g < hi) (hg : ∀ i, i < n → g < f i ∨ f (i + 1) ≤ g) (hf : ∀ i, i < n → f i ≤ f (i + 1)) (hfl : ∀ i, i < n → lo ≤ f i ∧ f (i + 1) ≤ hi ∧ f (i + 1) ≤ w.heap.size) (h : MkS w g n f (fun i => ms.getD i Rm.zero) Q) :
    Calls Tryz.prog 56 #[.slice (some ⟨g, 0, none⟩) n c, .int .i64 K] w fun e w' => e = .returned (.int .i64 (K + sumK ms n)) ∧ w.heap.size ≤ w'.heap.size ∧ Below (min lo w.heap.size) w w' ∧ MkS w' g n f (fun i => mkM (ms.getD i Rm.zero) (K + sumK ms i)) Q ∧ ∀ k, k < w.heap.size → (k < lo ∨ hi ≤ k) → w'.heap[k]? = w.heap[k]? := by
  have HM0 : Hid (MkS w g n f (mkA ms K 0) Q) := hide (h.ext (fun i _ => by unfold mkA; rw [if_neg (by omega)]))
  have HSM := hide hs
  have HN := hide hn
  have HG := hide hg
  have HF := hide hf
  have HFL := hide hfl
  clear h hs hn hg hf hfl
  go_enter Tryz.func56, Tryz.ntmps56
  go_wp2
  go_loopw [1, 5] (fun q i wr => ∃ j : Nat, j ≤ n ∧ i = .int .i64 j ∧ q = .int .i64 (K + sumK ms j) ∧ Hid (w.heap.size ≤ wr.heap.size) ∧ Hid (Below (min lo w.heap.size) w wr) ∧ Hid (MkS wr g n f (mkA ms K j) Q) ∧ Hid (∀ k, k < w.heap.size → (k < lo ∨ hi ≤ k) → wr.heap[k]? = w.heap[k]?)) (fun _ i _ => n - (intOf i).toNat)
  case atStart => exact ⟨0, by omega, rfl, by simp [sumK], hide (Nat.le_refl _), hide (Below.refl _ _), HM0, hide (fun _ _ _ => rfl)⟩
  case round =>
    clear HM0
    obtain ⟨j, hj, rfl, rfl, hsz, hbl, hmk, hot⟩ := hrel
    by_cases hlt : (j : Int) < (n : Int)
    · have k0 : (0 : Int) ≤ (j : Int) := by omega
      have hjn : j < n := by omega
      have hjl : j < ms.length := by rw [unhide HN]; exact hjn
      have HSJ := hide (unhide HSM j hjl)
      have hq0 : 0 ≤ K + sumK ms j := by have := sumK_pos ms j; omega
      have hq1 : K + sumK ms j ≤ 900000000 := by
        have := sumK_le ms j (n - j)
        rw [show j + (n - j) = n by omega] at this; omega
      have HSN : Hid (sumK ms (j + 1) = sumK ms j + mkK (ms.getD j Rm.zero)) := hide rfl
      have HHE := hide (mkA_here ms K j)
      have HNX := hide (mkA_next ms K j)
      have HEL := hide (fun i (h : i ≠ j) => mkA_else ms K (j := j) h)
      obtain ⟨qq, hqq⟩ : ∃ q, K + sumK ms j = q := ⟨_, rfl⟩
      have HQQ := hide hqq
      rw [hqq] at hq0 hq1 HNX ⊢
      have hrow := (unhide hmk).1 j hjn
      have hth := (unhide hmk).2.1
      rw [unhide HHE] at hrow
      generalize hM : mkA ms K j = M at *
      have HJ0 : Hid (M j = ms.getD j Rm.zero) := HHE
      generalize hP : Q j = p at *
      have HP := hide hP
      generalize hm : ms.getD j Rm.zero = m at *
      have hgr : g < wr.heap.size := Nat.lt_of_lt_of_le hgs (unhide hsz)
      clear hM HHE hqq hjl hP hm
      obtain ⟨x0, x1, x2, x3, x4⟩ := (⟨hrow 0 _ rfl, hrow 1 _ rfl, hrow 2 _ rfl, hrow 3 _ rfl, hrow 4 _ rfl⟩ : _ ∧ _ ∧ _ ∧ _ ∧ _)
      rw [Nat.add_zero] at x0
      obtain ⟨y0, y1, y2, y3, y4⟩ := (⟨(hth (j * 13) (by omega)).2, (hth (j * 13 + 1) (by omega)).2, (hth (j * 13 + 2) (by omega)).2, (hth (j * 13 + 3) (by omega)).2, (hth (j * 13 + 4) (by omega)).2⟩ : _ ∧ _ ∧ _ ∧ _ ∧ _)
      rw [Nat.zero_add] at y0 y1 y2 y3 y4
      have M1 := (unhide hmk).put hjn (show 0 < 13 by omega) (v := .int .i64 qq) (m' := { M j with x1 := qq }) rfl ⟨rfl, rfl, rfl, rfl, rfl, rfl, rfl⟩ (unhide HG)
      rw [Nat.add_zero] at M1
      have M2 := M1.put hjn (show 1 < 13 by omega) (v := .int .i64 (qq + 1)) (m' := { M j with x1 := qq, x2 := qq + 1 }) (by simp only [if_true]; rfl) (by simp only [if_true, and_self]) (unhide HG)
      have M3 := M2.put hjn (show 2 < 13 by omega) (v := .int .i64 (qq + 1 + 1)) (m' := { M j with x1 := qq, x2 := qq + 1, x3 := qq + 1 + 1 }) (by simp only [if_true]; rfl) (by simp only [if_true, and_self]) (unhide HG)
      have M4 := M3.put hjn (show 3 < 13 by omega) (v := .int .i64 (qq + 1 + 1 + 1)) (m' := { M j with x1 := qq, x2 := qq + 1, x3 := qq + 1 + 1, x4 := qq + 1 + 1 + 1 }) (by simp only [if_true]; rfl) (by simp only [if_true, and_self]) (unhide HG)
      have M5 := M4.put hjn (show 4 < 13 by omega) (v := .int .i64 (qq + 1 + 1 + 1 + 1)) (m' := mk5 (M j) qq) (by simp only [if_true]; rfl) (by simp only [if_true]; exact ⟨rfl, rfl, rfl, rfl, rfl, rfl, rfl⟩) (unhide HG)
      have HM5 := hide (M5.ext (M' := fun i => if i = j then mk5 m qq else M i) (fun i _ => by by_cases e : i = j <;> simp [e, unhide HJ0]))
      have HB5 := hide ((((((unhide hbl).setCell (p := ⟨g, j * 13, none⟩) (by show min lo w.heap.size ≤ g; omega) (.int .i64 qq)).setCell (p := ⟨g, j * 13 + 1, none⟩) (by show min lo w.heap.size ≤ g; omega) (.int .i64 (qq + 1))).setCell (p := ⟨g, j * 13 + 2, none⟩) (by show min lo w.heap.size ≤ g; omega) (.int .i64 (qq + 1 + 1))).setCell (p := ⟨g, j * 13 + 3, none⟩) (by show min lo w.heap.size ≤ g; omega) (.int .i64 (qq + 1 + 1 + 1))).setCell (p := ⟨g, j * 13 + 4, none⟩) (by show min lo w.heap.size ≤ g; omega) (.int .i64 (qq + 1 + 1 + 1 + 1)))
      have HZ5 : Hid (w.heap.size ≤ (((((wr.setCell ⟨g, j * 13, none⟩ (.int .i64 qq)).setCell ⟨g, j * 13 + 1, none⟩ (.int .i64 (qq + 1))).setCell ⟨g, j * 13 + 2, none⟩ (.int .i64 (qq + 1 + 1))).setCell ⟨g, j * 13 + 3, none⟩ (.int .i64 (qq + 1 + 1 + 1))).setCell ⟨g, j * 13 + 4, none⟩ (.int .i64 (qq + 1 + 1 + 1 + 1))).heap.size) := hide (by simpa [World.setCell] using unhide hsz)
      have HO5 : Hid (∀ k, k < w.heap.size → (k < lo ∨ hi ≤ k) → (((((wr.setCell ⟨g, j * 13, none⟩ (.int .i64 qq)).setCell ⟨g, j * 13 + 1, none⟩ (.int .i64 (qq + 1))).setCell ⟨g, j * 13 + 2, none⟩ (.int .i64 (qq + 1 + 1))).setCell ⟨g, j * 13 + 3, none⟩ (.int .i64 (qq + 1 + 1 + 1))).setCell ⟨g, j * 13 + 4, none⟩ (.int .i64 (qq + 1 + 1 + 1 + 1))).heap[k]? = w.heap[k]?) := hide (fun k hk h => by
        have hne : k ≠ g := by omega
        exact (Below.heap_setCell _ _ _ _ hne).trans ((Below.heap_setCell _ _ _ _ hne).trans ((Below.heap_setCell _ _ _ _ hne).trans ((Below.heap_setCell _ _ _ _ hne).trans ((Below.heap_setCell _ _ _ _ hne).trans (unhide hot k hk h))))))
      clear hrow hth M1 M2 M3 M4 M5 hmk hbl hsz hot
      go_upto_region 14 with fail
      clear x0 x1 x2 x3 x4 y0 y1 y2 y3 y4
      generalize ((((wr.setCell ⟨g, j * 13, none⟩ (.int .i64 qq)).setCell ⟨g, j * 13 + 1, none⟩ (.int .i64 (qq + 1))).setCell ⟨g, j * 13 + 2, none⟩ (.int .i64 (qq + 1 + 1))).setCell ⟨g, j * 13 + 3, none⟩ (.int .i64 (qq + 1 + 1 + 1))).setCell ⟨g, j * 13 + 4, none⟩ (.int .i64 (qq + 1 + 1 + 1 + 1)) = v0 at *
      obtain ⟨r0, hr0⟩ : ∃ r, qq + 1 + 1 + 1 + 1 + 1 = r := ⟨_, rfl⟩
      rw [hr0]
      obtain ⟨r1, hr1⟩ : ∃ r, r0 + 6 * (m.ls.length : Int) = r := ⟨_, rfl⟩
      obtain ⟨r2, hr2⟩ : ∃ r, r1 + 3 * (m.tw.length : Int) = r := ⟨_, rfl⟩
      obtain ⟨r3, hr3⟩ : ∃ r, r2 + 3 * (m.se.length : Int) = r := ⟨_, rfl⟩
      obtain ⟨r4, hr4⟩ : ∃ r, r3 + 3 * (m.du.length : Int) = r := ⟨_, rfl⟩
      obtain ⟨r5, hr5⟩ : ∃ r, r4 + 3 * (m.ss.length : Int) = r := ⟨_, rfl⟩
      obtain ⟨r6, hr6⟩ : ∃ r, r5 + 3 * (m.es.length : Int) = r := ⟨_, rfl⟩
      obtain ⟨r7, hr7⟩ : ∃ r, r6 + 2 * (m.la.length : Int) = r := ⟨_, rfl⟩
      have HMM : Hid (mkM m qq = mkR m qq r0 r1 r2 r3 r4 r5 r6 r7) := hide (by unfold mkM; subst hr7; subst hr6; subst hr5; subst hr4; subst hr3; subst hr2; subst hr1; subst hr0; rfl)
      have HEN : Hid (r7 + 1 = qq + mkK m) := hide (by have := rA_end m qq; subst hr7; subst hr6; subst hr5; subst hr4; subst hr3; subst hr2; subst hr1; subst hr0; exact this)
      obtain ⟨s1, s2, s3, s4, s5, s6, s7⟩ := unhide HSJ
      have C1 := hide (fun lo hi W h => Lk.markF p.a1 p.c1 lo hi r0 m.ls W (by omega) (by omega) (by omega) h)
      rw [hr1] at C1
      have C2 := hide (fun lo hi W h => Tu.markF p.a2 p.c2 lo hi r1 m.tw W (by omega) (by omega) (by omega) h)
      rw [hr2] at C2
      have C3 := hide (fun lo hi W h => Tu.markF p.a3 p.c3 lo hi r2 m.se W (by omega) (by omega) (by omega) h)
      rw [hr3] at C3
      have C4 := hide (fun lo hi W h => Tu.markF p.a4 p.c4 lo hi r3 m.du W (by omega) (by omega) (by omega) h)
      rw [hr4] at C4
      have C5 := hide (fun lo hi W h => So.markF p.a5 p.c5 lo hi r4 m.ss W (by omega) (by omega) (by omega) h)
      rw [hr5] at C5
      have C6 := hide (fun lo hi W h => Tu.markF p.a6 p.c6 lo hi r5 m.es W (by omega) (by omega) (by omega) h)
      rw [hr6] at C6
      have C7 := hide (fun lo hi W h => Ed.markF p.a7 p.c7 lo hi r6 m.la W (by omega) (by omega) (by omega) h)
      rw [hr7] at C7
      have hr70 : 0 ≤ r7 := by omega
      have hr71 : r7 ≤ 990000000 := by omega
      clear hr0 hr1 hr2 hr3 hr4 hr5 hr6 hr7 s1 s2 s3 s4 s5 s6 s7 HSJ
      have hfl := unhide HFL j hjn
      have hgj := unhide HG j hjn
      have hrow := (unhide HM5).1 j hjn
      have how := (unhide HM5).2.2 j hjn
      simp only [if_true] at hrow how
      rw [unhide HP] at hrow how
      have HCE : Hid (∀ W : World, W.heap[g]? = v0.heap[g]? → (W.cell? ⟨g, j * 13 + 5, none⟩ = some (.slice p.a1 m.ls.length p.c1) ∧ W.cell? ⟨g, j * 13 + 6, none⟩ = some (.slice p.a2 m.tw.length p.c2) ∧ W.cell? ⟨g, j * 13 + 7, none⟩ = some (.slice p.a3 m.se.length p.c3) ∧ W.cell? ⟨g, j * 13 + 8, none⟩ = some (.slice p.a4 m.du.length p.c4) ∧ W.cell? ⟨g, j * 13 + 9, none⟩ = some (.slice p.a5 m.ss.length p.c5) ∧ W.cell? ⟨g, j * 13 + 10, none⟩ = some (.slice p.a6 m.es.length p.c6) ∧ W.cell? ⟨g, j * 13 + 11, none⟩ = some (.slice p.a7 m.la.length p.c7))) := hide (fun W hW => by
        have cb : ∀ q, W.cell? ⟨g, q, none⟩ = v0.cell? ⟨g, q, none⟩ := fun q => World.cell?_of_block (a := ⟨g, q, none⟩) hW
        exact ⟨(cb _).trans (hrow 5 _ rfl), (cb _).trans (hrow 6 _ rfl), (cb _).trans (hrow 7 _ rfl), (cb _).trans (hrow 8 _ rfl), (cb _).trans (hrow 9 _ rfl), (cb _).trans (hrow 10 _ rfl), (cb _).trans (hrow 11 _ rfl)⟩)
      obtain ⟨b0, hb0⟩ : ∃ b, f j = b := ⟨_, rfl⟩
      obtain ⟨b7, hb7⟩ : ∃ b, f (j + 1) = b := ⟨_, rfl⟩
      have HB07 := hide (And.intro hb0 hb7)
      rw [hb0, hb7] at hfl hgj how
      unfold Ow RL at how
      obtain ⟨b1, b2, b3, b4, b5, b6, ⟨o0, o1, o2, o3, o4, o5, o6⟩, u1, u2, u3, u4, u5, u6, u7⟩ := how
      dsimp only [mk5] at u1 u2 u3 u4 u5 u6 u7
      have hv0 := unhide HZ5
      have hz0 : b7 ≤ v0.heap.size := by omega
      have hgv : g < v0.heap.size := Nat.lt_of_lt_of_le hgs hv0
      have HK0 : Hid (Kp v0 v0 b0 b7) := hide ⟨Nat.le_refl _, fun _ _ _ => rfl⟩
      have HE0 : Hid (Below (min b0 v0.heap.size) v0 v0) := hide (Below.refl _ _)
      clear hb0 hb7 hrow
      have U1_0 := hide u1
      have U2_0 := hide u2
      have U3_0 := hide u3
      have U4_0 := hide u4
      have U5_0 := hide u5
      have U6_0 := hide u6
      have U7_0 := hide u7
      clear u1 u2 u3 u4 u5 u6 u7
      obtain ⟨e1, e2, e3, e4, e5, e6, e7⟩ := unhide HCE v0 ((unhide HK0).2 g hgv (by omega))
      go_wp2_with fail
      clear e1 e2 e3 e4 e5 e6 e7
      refine (unhide C1 b0 b1 _ (unhide U1_0)).mono ?_
      rintro e v1 ⟨rfl, hz_, be_, l_, k_⟩
      have hk_ := unhide HK0
      have HK1 : Hid (Kp v0 v1 b0 b7) := hide ⟨Nat.le_trans hk_.1 hz_, fun k hk h => (k_ k (Nat.lt_of_lt_of_le hk hk_.1) (by omega)).trans (hk_.2 k hk h)⟩
      have HE1 : Hid (Below (min b0 v0.heap.size) v0 v1) := hide ((unhide HE0).trans (be_.mono (by have := hk_.1; omega)))
      have U1_1 := hide l_
      have U2_1 := hide ((unhide U2_0).but (p := fun k => k < b0 ∨ b1 ≤ k) hz_ (fun k hk h => k_ k hk h) (fun k h1 h2 => by omega))
      have U3_1 := hide ((unhide U3_0).but (p := fun k => k < b0 ∨ b1 ≤ k) hz_ (fun k hk h => k_ k hk h) (fun k h1 h2 => by omega))
      have U4_1 := hide ((unhide U4_0).but (p := fun k => k < b0 ∨ b1 ≤ k) hz_ (fun k hk h => k_ k hk h) (fun k h1 h2 => by omega))
      have U5_1 := hide ((unhide U5_0).but (p := fun k => k < b0 ∨ b1 ≤ k) hz_ (fun k hk h => k_ k hk h) (fun k h1 h2 => by omega))
      have U6_1 := hide ((unhide U6_0).but (p := fun k => k < b0 ∨ b1 ≤ k) hz_ (fun k hk h => k_ k hk h) (fun k h1 h2 => by omega))
      have U7_1 := hide ((unhide U7_0).but (p := fun k => k < b0 ∨ b1 ≤ k) hz_ (fun k hk h => k_ k hk h) (fun k h1 h2 => by omega))
      clear hz_ be_ l_ k_ hk_ HK0 HE0 U1_0 U2_0 U3_0 U4_0 U5_0 U6_0 U7_0 C1
      obtain ⟨e1, e2, e3, e4, e5, e6, e7⟩ := unhide HCE v1 ((unhide HK1).2 g hgv (by omega))
      go_wp2_with fail
      clear e1 e2 e3 e4 e5 e6 e7
      refine (unhide C2 b1 b2 _ (unhide U2_1)).mono ?_
      rintro e v2 ⟨rfl, hz_, be_, l_, k_⟩
      have hk_ := unhide HK1
      have HK2 : Hid (Kp v0 v2 b0 b7) := hide ⟨Nat.le_trans hk_.1 hz_, fun k hk h => (k_ k (Nat.lt_of_lt_of_le hk hk_.1) (by omega)).trans (hk_.2 k hk h)⟩
      have HE2 : Hid (Below (min b0 v0.heap.size) v0 v2) := hide ((unhide HE1).trans (be_.mono (by have := hk_.1; omega)))
      have U2_2 := hide l_
      have U1_2 := hide ((unhide U1_1).but (p := fun k => k < b1 ∨ b2 ≤ k) hz_ (fun k hk h => k_ k hk h) (fun k h1 h2 => by omega))
      have U3_2 := hide ((unhide U3_1).but (p := fun k => k < b1 ∨ b2 ≤ k) hz_ (fun k hk h => k_ k hk h) (fun k h1 h2 => by omega))
      have U4_2 := hide ((unhide U4_1).but (p := fun k => k < b1 ∨ b2 ≤ k) hz_ (fun k hk h => k_ k hk h) (fun k h1 h2 => by omega))
      have U5_2 := hide ((unhide U5_1).but (p := fun k => k < b1 ∨ b2 ≤ k) hz_ (fun k hk h => k_ k hk h) (fun k h1 h2 => by omega))
      have U6_2 := hide ((unhide U6_1).but (p := fun k => k < b1 ∨ b2 ≤ k) hz_ (fun k hk h => k_ k hk h) (fun k h1 h2 => by omega))
      have U7_2 := hide ((unhide U7_1).but (p := fun k => k < b1 ∨ b2 ≤ k) hz_ (fun k hk h => k_ k hk h) (fun k h1 h2 => by omega))
      clear hz_ be_ l_ k_ hk_ HK1 HE1 U1_1 U2_1 U3_1 U4_1 U5_1 U6_1 U7_1 C2
      obtain ⟨e1, e2, e3, e4, e5, e6, e7⟩ := unhide HCE v2 ((unhide HK2).2 g hgv (by omega))
      go_wp2_with fail
      clear e1 e2 e3 e4 e5 e6 e7
      refine (unhide C3 b2 b3 _ (unhide U3_2)).mono ?_
      rintro e v3 ⟨rfl, hz_, be_, l_, k_⟩
      have hk_ := unhide HK2
      have HK3 : Hid (Kp v0 v3 b0 b7) := hide ⟨Nat.le_trans hk_.1 hz_, fun k hk h => (k_ k (Nat.lt_of_lt_of_le hk hk_.1) (by omega)).trans (hk_.2 k hk h)⟩
      have HE3 : Hid (Below (min b0 v0.heap.size) v0 v3) := hide ((unhide HE2).trans (be_.mono (by have := hk_.1; omega)))
      have U3_3 := hide l_
      have U1_3 := hide ((unhide U1_2).but (p := fun k => k < b2 ∨ b3 ≤ k) hz_ (fun k hk h => k_ k hk h) (fun k h1 h2 => by omega))
      have U2_3 := hide ((unhide U2_2).but (p := fun k => k < b2 ∨ b3 ≤ k) hz_ (fun k hk h => k_ k hk h) (fun k h1 h2 => by omega))
      have U4_3 := hide ((unhide U4_2).but (p := fun k => k < b2 ∨ b3 ≤ k) hz_ (fun k hk h => k_ k hk h) (fun k h1 h2 => by omega))
      have U5_3 := hide ((unhide U5_2).but (p := fun k => k < b2 ∨ b3 ≤ k) hz_ (fun k hk h => k_ k hk h) (fun k h1 h2 => by omega))
      have U6_3 := hide ((unhide U6_2).but (p := fun k => k < b2 ∨ b3 ≤ k) hz_ (fun k hk h => k_ k hk h) (fun k h1 h2 => by omega))
      have U7_3 := hide ((unhide U7_2).but (p := fun k => k < b2 ∨ b3 ≤ k) hz_ (fun k hk h => k_ k hk h) (fun k h1 h2 => by omega))
      clear hz_ be_ l_ k_ hk_ HK2 HE2 U1_2 U2_2 U3_2 U4_2 U5_2 U6_2 U7_2 C3
      obtain ⟨e1, e2, e3, e4, e5, e6, e7⟩ := unhide HCE v3 ((unhide HK3).2 g hgv (by omega))
      go_wp2_with fail
      clear e1 e2 e3 e4 e5 e6 e7
      refine (unhide C4 b3 b4 _ (unhide U4_3)).mono ?_
      rintro e v4 ⟨rfl, hz_, be_, l_, k_⟩
      have hk_ := unhide HK3
      have HK4 : Hid (Kp v0 v4 b0 b7) := hide ⟨Nat.le_trans hk_.1 hz_, fun k hk h => (k_ k (Nat.lt_of_lt_of_le hk hk_.1) (by omega)).trans (hk_.2 k hk h)⟩
      have HE4 : Hid (Below (min b0 v0.heap.size) v0 v4) := hide ((unhide HE3).trans (be_.mono (by have := hk_.1; omega)))
      have U4_4 := hide l_
      have U1_4 := hide ((unhide U1_3).but (p := fun k => k < b3 ∨ b4 ≤ k) hz_ (fun k hk h => k_ k hk h) (fun k h1 h2 => by omega))
      have U2_4 := hide ((unhide U2_3).but (p := fun k => k < b3 ∨ b4 ≤ k) hz_ (fun k hk h => k_ k hk h) (fun k h1 h2 => by omega))
      have U3_4 := hide ((unhide U3_3).but (p := fun k => k < b3 ∨ b4 ≤ k) hz_ (fun k hk h => k_ k hk h) (fun k h1 h2 => by omega))
      have U5_4 := hide ((unhide U5_3).but (p := fun k => k < b3 ∨ b4 ≤ k) hz_ (fun k hk h => k_ k hk h) (fun k h1 h2 => by omega))
      have U6_4 := hide ((unhide U6_3).but (p := fun k => k < b3 ∨ b4 ≤ k) hz_ (fun k hk h => k_ k hk h) (fun k h1 h2 => by omega))
      have U7_4 := hide ((unhide U7_3).but (p := fun k => k < b3 ∨ b4 ≤ k) hz_ (fun k hk h => k_ k hk h) (fun k h1 h2 => by omega))
      clear hz_ be_ l_ k_ hk_ HK3 HE3 U1_3 U2_3 U3_3 U4_3 U5_3 U6_3 U7_3 C4
      obtain ⟨e1, e2, e3, e4, e5, e6, e7⟩ := unhide HCE v4 ((unhide HK4).2 g hgv (by omega))
      go_wp2_with fail
      clear e1 e2 e3 e4 e5 e6 e7
      refine (unhide C5 b4 b5 _ (unhide U5_4)).mono ?_
      rintro e v5 ⟨rfl, hz_, be_, l_, k_⟩
      have hk_ := unhide HK4
      have HK5 : Hid (Kp v0 v5 b0 b7) := hide ⟨Nat.le_trans hk_.1 hz_, fun k hk h => (k_ k (Nat.lt_of_lt_of_le hk hk_.1) (by omega)).trans (hk_.2 k hk h)⟩
      have HE5 : Hid (Below (min b0 v0.heap.size) v0 v5) := hide ((unhide HE4).trans (be_.mono (by have := hk_.1; omega)))
      have U5_5 := hide l_
      have U1_5 := hide ((unhide U1_4).but (p := fun k => k < b4 ∨ b5 ≤ k) hz_ (fun k hk h => k_ k hk h) (fun k h1 h2 => by omega))
      have U2_5 := hide ((unhide U2_4).but (p := fun k => k < b4 ∨ b5 ≤ k) hz_ (fun k hk h => k_ k hk h) (fun k h1 h2 => by omega))
      have U3_5 := hide ((unhide U3_4).but (p := fun k => k < b4 ∨ b5 ≤ k) hz_ (fun k hk h => k_ k hk h) (fun k h1 h2 => by omega))
      have U4_5 := hide ((unhide U4_4).but (p := fun k => k < b4 ∨ b5 ≤ k) hz_ (fun k hk h => k_ k hk h) (fun k h1 h2 => by omega))
      have U6_5 := hide ((unhide U6_4).but (p := fun k => k < b4 ∨ b5 ≤ k) hz_ (fun k hk h => k_ k hk h) (fun k h1 h2 => by omega))
      have U7_5 := hide ((unhide U7_4).but (p := fun k => k < b4 ∨ b5 ≤ k) hz_ (fun k hk h => k_ k hk h) (fun k h1 h2 => by omega))
      clear hz_ be_ l_ k_ hk_ HK4 HE4 U1_4 U2_4 U3_4 U4_4 U5_4 U6_4 U7_4 C5
      obtain ⟨e1, e2, e3, e4, e5, e6, e7⟩ := unhide HCE v5 ((unhide HK5).2 g hgv (by omega))
      go_wp2_with fail
      clear e1 e2 e3 e4 e5 e6 e7
      refine (unhide C6 b5 b6 _ (unhide U6_5)).mono ?_
      rintro e v6 ⟨rfl, hz_, be_, l_, k_⟩
      have hk_ := unhide HK5
      have HK6 : Hid (Kp v0 v6 b0 b7) := hide ⟨Nat.le_trans hk_.1 hz_, fun k hk h => (k_ k (Nat.lt_of_lt_of_le hk hk_.1) (by omega)).trans (hk_.2 k hk h)⟩
      have HE6 : Hid (Below (min b0 v0.heap.size) v0 v6) := hide ((unhide HE5).trans (be_.mono (by have := hk_.1; omega)))
      have U6_6 := hide l_
      have U1_6 := hide ((unhide U1_5).but (p := fun k => k < b5 ∨ b6 ≤ k) hz_ (fun k hk h => k_ k hk h) (fun k h1 h2 => by omega))
      have U2_6 := hide ((unhide U2_5).but (p := fun k => k < b5 ∨ b6 ≤ k) hz_ (fun k hk h => k_ k hk h) (fun k h1 h2 => by omega))
      have U3_6 := hide ((unhide U3_5).but (p := fun k => k < b5 ∨ b6 ≤ k) hz_ (fun k hk h => k_ k hk h) (fun k h1 h2 => by omega))
      have U4_6 := hide ((unhide U4_5).but (p := fun k => k < b5 ∨ b6 ≤ k) hz_ (fun k hk h => k_ k hk h) (fun k h1 h2 => by omega))
      have U5_6 := hide ((unhide U5_5).but (p := fun k => k < b5 ∨ b6 ≤ k) hz_ (fun k hk h => k_ k hk h) (fun k h1 h2 => by omega))
      have U7_6 := hide ((unhide U7_5).but (p := fun k => k < b5 ∨ b6 ≤ k) hz_ (fun k hk h => k_ k hk h) (fun k h1 h2 => by omega))
      clear hz_ be_ l_ k_ hk_ HK5 HE5 U1_5 U2_5 U3_5 U4_5 U5_5 U6_5 U7_5 C6
      obtain ⟨e1, e2, e3, e4, e5, e6, e7⟩ := unhide HCE v6 ((unhide HK6).2 g hgv (by omega))
      go_wp2_with fail
      clear e1 e2 e3 e4 e5 e6 e7
      refine (unhide C7 b6 b7 _ (unhide U7_6)).mono ?_
      rintro e v7 ⟨rfl, hz_, be_, l_, k_⟩
      have hk_ := unhide HK6
      have HK7 : Hid (Kp v0 v7 b0 b7) := hide ⟨Nat.le_trans hk_.1 hz_, fun k hk h => (k_ k (Nat.lt_of_lt_of_le hk hk_.1) (by omega)).trans (hk_.2 k hk h)⟩
      have HE7 : Hid (Below (min b0 v0.heap.size) v0 v7) := hide ((unhide HE6).trans (be_.mono (by have := hk_.1; omega)))
      have U7_7 := hide l_
      have U1_7 := hide ((unhide U1_6).but (p := fun k => k < b6 ∨ b7 ≤ k) hz_ (fun k hk h => k_ k hk h) (fun k h1 h2 => by omega))
      have U2_7 := hide ((unhide U2_6).but (p := fun k => k < b6 ∨ b7 ≤ k) hz_ (fun k hk h => k_ k hk h) (fun k h1 h2 => by omega))
      have U3_7 := hide ((unhide U3_6).but (p := fun k => k < b6 ∨ b7 ≤ k) hz_ (fun k hk h => k_ k hk h) (fun k h1 h2 => by omega))
      have U4_7 := hide ((unhide U4_6).but (p := fun k => k < b6 ∨ b7 ≤ k) hz_ (fun k hk h => k_ k hk h) (fun k h1 h2 => by omega))
      have U5_7 := hide ((unhide U5_6).but (p := fun k => k < b6 ∨ b7 ≤ k) hz_ (fun k hk h => k_ k hk h) (fun k h1 h2 => by omega))
      have U6_7 := hide ((unhide U6_6).but (p := fun k => k < b6 ∨ b7 ≤ k) hz_ (fun k hk h => k_ k hk h) (fun k h1 h2 => by omega))
      clear hz_ be_ l_ k_ hk_ HK6 HE6 U1_6 U2_6 U3_6 U4_6 U5_6 U6_6 U7_6 C7
      have hk7 := unhide HK7
      have how : Ow v7 (f j) (f (j + 1)) { mkR m qq r0 r1 r2 r3 r4 r5 r6 r7 with x6 := m.x6 } (Q j) := by
        rw [(unhide HB07).1, (unhide HB07).2, unhide HP]
        exact ⟨b1, b2, b3, b4, b5, b6, ⟨o0, o1, o2, o3, o4, o5, o6⟩, unhide U1_7, unhide U2_7, unhide U3_7, unhide U4_7, unhide U5_7, unhide U6_7, unhide U7_7⟩
      have hb07 := unhide HB07
      have N7 := (unhide HM5).lists hjn (unhide HF) (unhide HG) hgv hk7.1 (fun k hk h => hk7.2 k hk (by rw [← hb07.1, ← hb07.2]; exact h)) how (by simp only [if_true]; unfold cl mkR mk5; simp only [Lk.marks_len, Tu.marks_len, So.marks_len, Ed.marks_len])
      have HN7 := hide (N7.ext (M' := fun i => if i = j then { mkR m qq r0 r1 r2 r3 r4 r5 r6 r7 with x6 := m.x6 } else M i) (fun i _ => by by_cases e : i = j <;> simp [e]))
      have hg7 : g < v7.heap.size := Nat.lt_of_lt_of_le hgv hk7.1
      have x12 := (unhide HN7).1 j hjn 12 (.int .i64 m.x6) (by simp only [if_true]; rfl)
      have y12 := ((unhide HN7).2.1 (j * 13 + 12) (by omega)).2
      rw [Nat.zero_add] at y12
      have N8 := (unhide HN7).put hjn (show 12 < 13 by omega) (v := .int .i64 r7) (m' := mkR m qq r0 r1 r2 r3 r4 r5 r6 r7) (by simp only [if_true]; rfl) (by simp) (unhide HG)
      have HN8 := hide (N8.ext (M' := mkA ms K (j + 1)) (fun i _ => by
        by_cases e : i = j
        · subst e; simp only [if_true]; rw [unhide HNX, unhide HMM]
        · simp only [if_neg e]; exact unhide HEL i e))
      have HB8 := hide ((((unhide HB5).trans ((unhide HE7).mono (by omega))).setCell (p := ⟨g, j * 13 + 12, none⟩) (by show min lo w.heap.size ≤ g; omega) (.int .i64 r7)))
      have HZ8 : Hid (w.heap.size ≤ (v7.setCell ⟨g, j * 13 + 12, none⟩ (.int .i64 r7)).heap.size) := hide (by have := hk7.1; simp [World.setCell]; omega)
      have HO8 : Hid (∀ k, k < w.heap.size → (k < lo ∨ hi ≤ k) → (v7.setCell ⟨g, j * 13 + 12, none⟩ (.int .i64 r7)).heap[k]? = w.heap[k]?) := hide (fun k hk h => (Below.heap_setCell _ _ _ _ (by show k ≠ g; omega)).trans ((hk7.2 k (by omega) (by omega)).trans (unhide HO5 k hk h)))
      clear N7 N8 HN7 how hk7 hb07 HK7 HE7 HM5 HB5 HZ5 HO5 HMM HNX HEL U1_7 U2_7 U3_7 U4_7 U5_7 U6_7 U7_7
      go_wp2_with fail
      go_roundw
      case rel => exact ⟨j + 1, by omega, by go_num, by have h1 := unhide HEN; have h2 := unhide HQQ; have h3 := unhide HSN; first | (congr 1; omega) | (simp; omega), HZ8, HB8, HN8, HO8⟩
      case measure => simp [intOf]; omega
    · obtain rfl : j = n := by omega
      go_wp2
      go_ret
      exact ⟨rfl, unhide hsz, unhide hbl, (unhide hmk).ext (fun i hi => by unfold mkA; rw [if_pos hi]; try simp), unhide hot⟩
end Nt
end Go.Proofs.YtfooahhdikobeaaGreat
namespace Go.Proofs.YtfooahhdikobeaaGreat
open Go.ChangeShapes Go.WideShapes Go.ChangeAt Go.RowKit
set_option linter.unusedVariables false
attribute [local go_sem ↓] Go.wp_at_zero Go.wp_at_succ
attribute [local go_sem] Go.strOfNums_size ByteArray.size_append
namespace Di
open W1
/-- A number's digits, as a text. -/
def dig (k : Nat) : ByteArray := ⟨(Lib.decDigits k).toArray⟩
theorem dig_one {k : Nat} (h : k < 10) : strOfNums [48 + (k : Int)] = dig k := by
  unfold dig strOfNums; rw [Lib.decDigits_one h]
  have e : (48 + (k : Int)).toNat = 48 + k := by omega
  simp [e]
theorem dig_more {k : Nat} (h : ¬ k < 10) : dig (k / 10) ++ strOfNums [48 + (k : Int) % 10] = dig k := by
  unfold dig strOfNums
  rw [Lib.decDigits.eq_def k, dif_neg h]
  apply ByteArray.ext
  have e : (48 + (k : Int) % 10).toNat = 48 + k % 10 := by omega
  simp [ByteArray.data_append, e]
theorem dig_size8 (k : Nat) (h : k ≤ 99999999) : (dig k).size ≤ 8 := by
  have e : (dig k).size = Lib.nDigits k := by
    show (Lib.decDigits k).toArray.size = _
    simp [Lib.decDigits_length]
  rw [e]
  have h1 : ∀ u, u < 10 → Lib.nDigits u ≤ 1 := fun u hu => by rw [Lib.nDigits_small hu]; omega
  have up : ∀ n N, (∀ u, u < N → Lib.nDigits u ≤ n) → 0 < n → ∀ u, u < N * 10 → Lib.nDigits u ≤ n + 1 := fun n N hn h0 u hu => by
    by_cases c : u < 10
    · have := h1 u c; omega
    · rw [Lib.nDigits_big c]; have := hn (u / 10) (by omega); omega
  exact up 7 _ (up 6 _ (up 5 _ (up 4 _ (up 3 _ (up 2 _ (up 1 _ h1 (by omega)) (by omega)) (by omega)) (by omega)) (by omega)) (by omega)) (by omega) k (by omega)
theorem wrapS {x : Int} (h0 : 0 ≤ x) (h1 : x ≤ 1099511627776) : IntKind.i64.wrap x = x := by
  have e := IntWalk.i64_left x
  rw [e]; unfold wrap64; omega
theorem conv1 (W : World) (g : Nat) (n : Int) (h : W.cell? ⟨g, 0, none⟩ = some (.int .u8 n)) :
    (convert 38 9 (.slice (some ⟨g, 0, none⟩) 1 1)).run Tryz.prog W = .ok (.string (strOfNums [n])) W :=
  run_convert_bytes_arg (P := Tryz.prog) W 38 5 Tryz.underlying38 Tryz.underlying5 g 0 1 1 [n] rfl (fun | 0, _ => h) 9 Tryz.underlying9

end Di
end Go.Proofs.YtfooahhdikobeaaGreat
namespace Go.Proofs.YtfooahhdikobeaaGreat
open Go.ChangeShapes Go.WideShapes Go.ChangeAt Go.RowKit
set_option linter.unusedVariables false
set_option linter.unusedSimpArgs false
attribute [local go_sem ↓] Go.wp_at_zero Go.wp_at_succ
namespace Ss
open W1 Di
def flat (zs : List ByteArray) : List Value := zs.map Value.string
theorem flat_len (zs : List ByteArray) : (flat zs).length = zs.length * 1 := by simp [flat]
theorem flat_append (xs ys : List ByteArray) : flat (xs ++ ys) = flat xs ++ flat ys := by simp [flat]
theorem flat_one_cell {zs : List ByteArray} {u : Value} (h : u ∈ flat zs) : u.oneCell' = true := by
  obtain ⟨z, _, rfl⟩ := List.mem_map.1 h; rfl
theorem flat_get {zs : List ByteArray} {i : Nat} (h : i < zs.length) : (flat zs)[i]? = some (.string (zs.getD i ByteArray.empty)) := by
  unfold flat
  rw [List.getElem?_map, List.getElem?_eq_getElem h, List.getD_eq_getElem?_getD, List.getElem?_eq_getElem h]; rfl
/-- The slice at a reads as these. -/
def RM (w : World) (a : Option Addr) (zs : List ByteArray) : Prop :=
  zs = [] ∨ ∃ g off, a = some ⟨g, off, none⟩ ∧ ∀ i, i < zs.length → w.cell? ⟨g, off + i, none⟩ = some (.string (zs.getD i ByteArray.empty))
theorem RM.below {w w' : World} {a : Option Addr} {zs : List ByteArray} (h : RM w a zs) (hb : Below w.heap.size w w') : RM w' a zs := by
  rcases h with h | ⟨g, off, rfl, hc⟩
  · exact .inl h
  · exact .inr ⟨g, off, rfl, fun i hi => (hb.cell (p := ⟨g, off + i, none⟩) (World.block_lt_of_cell? _ _ (hc i hi))).trans (hc i hi)⟩
theorem RM.at {w : World} {g off : Nat} {zs : List ByteArray} {i : Nat} (h : RM w (some ⟨g, off, none⟩) zs) (hi : i < zs.length) : w.cell? ⟨g, off + i, none⟩ = some (.string (zs.getD i ByteArray.empty)) := by
  rcases h with rfl | ⟨g', off', e, hc⟩
  · simp at hi
  · cases e; exact hc i hi
theorem plain_add (b off k : Nat) : (⟨b, off, none⟩ : Addr).add k = ⟨b, off + k, none⟩ := by unfold Addr.add; split <;> simp_all
theorem RM.cells {w : World} {g off : Nat} {zs : List ByteArray} (h : RM w (some ⟨g, off, none⟩) zs) : ∀ j u, (flat zs)[j]? = some u → w.cell? ((⟨g, off, none⟩ : Addr).add j) = some u := by
  intro j u hj
  have hl : j < zs.length := by have := (List.getElem?_eq_some_iff.1 hj).1; rw [flat_len] at this; omega
  rw [flat_get hl] at hj
  rw [plain_add, ← hj]
  exact h.at hl
/-- The first j stand at the head of block g, whose n cells may be written. -/
def Upto (w : World) (g n j : Nat) (zs : List ByteArray) : Prop :=
  (∀ i, i < j → w.cell? ⟨g, i, none⟩ = some (.string (zs.getD i ByteArray.empty))) ∧ ∀ i, i < n → (w.cell? ⟨g, i, none⟩).isSome = true ∧ w.frozen? ⟨g, i, none⟩ = false
theorem Upto.step {w : World} {g n j : Nat} {zs : List ByteArray} (h : Upto w g n j zs) (hj : j < n) : Upto (w.setCell ⟨g, j, none⟩ (.string (zs.getD j ByteArray.empty))) g n (j + 1) zs := by
  refine ⟨fun i hi => ?_, fun i hi => ⟨?_, by rw [World.frozen?_setCell]; exact (h.2 i hi).2⟩⟩
  · by_cases e : i = j
    · subst e
      obtain ⟨v, hv⟩ := Option.isSome_iff_exists.1 (h.2 i hj).1
      rw [World.cell?_setCell_same _ _ _ hv]
    · rw [World.cell?_setCell_other _ _ _ _ (by intro e'; cases e'; exact e rfl)]
      exact h.1 i (by omega)
  · obtain ⟨v, hv⟩ := Option.isSome_iff_exists.1 (h.2 i hi).1
    obtain ⟨v', hv'⟩ := cell?_setCell_some (p := ⟨g, j, none⟩) (x := .string (zs.getD j ByteArray.empty)) hv
    rw [hv']; rfl
theorem Upto.below {w w' : World} {g n j : Nat} {zs : List ByteArray} (h : Upto w g n j zs) (hb : Below w.heap.size w w') (hg : g < w.heap.size) : Upto w' g n j zs :=
  ⟨fun i hi => (hb.cell (p := ⟨g, i, none⟩) hg).trans (h.1 i hi), fun i hi => ⟨by rw [hb.cell (p := ⟨g, i, none⟩) hg]; exact (h.2 i hi).1, by rw [hb.frozen (p := ⟨g, i, none⟩) hg]; exact (h.2 i hi).2⟩⟩
theorem Upto.of_block {w w' : World} {g n j : Nat} {zs : List ByteArray} (h : Upto w g n j zs) (hb : w'.heap[g]? = w.heap[g]?) : Upto w' g n j zs := by
  have c : ∀ q, w'.cell? ⟨g, q, none⟩ = w.cell? ⟨g, q, none⟩ := fun q => World.cell?_of_block (a := ⟨g, q, none⟩) hb
  have f : ∀ q, w'.frozen? ⟨g, q, none⟩ = w.frozen? ⟨g, q, none⟩ := fun q => World.frozen?_of_block (a := ⟨g, q, none⟩) hb
  exact ⟨fun i hi => (c _).trans (h.1 i hi), fun i hi => ⟨by rw [c]; exact (h.2 i hi).1, by rw [f]; exact (h.2 i hi).2⟩⟩
theorem rm_of {w : World} {g n : Nat} {zs : List ByteArray} (h : Upto w g n zs.length zs) : RM w (some ⟨g, 0, none⟩) zs := .inr ⟨g, 0, rfl, fun i hi => by rw [Nat.zero_add]; exact h.1 i hi⟩
/-- A list between two bounds of the heap, in memory that may be written. -/
def Lst (W : World) (a : Option Addr) (zs : List ByteArray) (lo hi : Nat) : Prop := zs = [] ∨ ∃ g, a = some ⟨g, 0, none⟩ ∧ lo ≤ g ∧ g < hi ∧ g < W.heap.size ∧ Upto W g zs.length zs.length zs
theorem Lst.rm {W : World} {a : Option Addr} {zs : List ByteArray} {lo hi : Nat} (h : Lst W a zs lo hi) : RM W a zs := by
  rcases h with rfl | ⟨g, rfl, _, _, _, hu⟩
  · exact .inl rfl
  · exact rm_of hu
theorem Lst.below {W W' : World} {a : Option Addr} {zs : List ByteArray} {lo hi : Nat} (h : Lst W a zs lo hi) (hb : Below W.heap.size W W') : Lst W' a zs lo hi := by
  rcases h with rfl | ⟨g, rfl, h1, h2, h3, hu⟩
  · exact .inl rfl
  · exact .inr ⟨g, rfl, h1, h2, Nat.lt_of_lt_of_le h3 hb.size, hu.below hb h3⟩
theorem Lst.mono {W : World} {a : Option Addr} {zs : List ByteArray} {lo hi lo' hi' : Nat} (h : Lst W a zs lo hi) (h1 : lo' ≤ lo) (h2 : hi ≤ hi') : Lst W a zs lo' hi' := by
  rcases h with rfl | ⟨g, rfl, h3, h4, h5, hu⟩
  · exact .inl rfl
  · exact .inr ⟨g, rfl, by omega, by omega, h5, hu⟩
theorem Lst.but {W W' : World} {a : Option Addr} {zs : List ByteArray} {lo hi : Nat} {p : Nat → Prop} (h : Lst W a zs lo hi) (hs : W.heap.size ≤ W'.heap.size) (hb : ∀ k, k < W.heap.size → p k → W'.heap[k]? = W.heap[k]?) (hp : ∀ k, lo ≤ k → k < hi → p k) : Lst W' a zs lo hi := by
  rcases h with rfl | ⟨g, rfl, h1, h2, h3, hu⟩
  · exact .inl rfl
  · exact .inr ⟨g, rfl, h1, h2, Nat.lt_of_lt_of_le h3 hs, hu.of_block (hb g h3 (hp g h1 h2))⟩
def LstV (W : World) (v : Value) (zs : List ByteArray) (lo hi : Nat) : Prop := ∃ a c, v = .slice a zs.length c ∧ Lst W a zs lo hi
theorem LstV.below {W W' : World} {v : Value} {zs : List ByteArray} {lo hi : Nat} (h : LstV W v zs lo hi) (hb : Below W.heap.size W W') : LstV W' v zs lo hi := by
  obtain ⟨a, c, e, hl⟩ := h; exact ⟨a, c, e, hl.below hb⟩
theorem LstV.mono {W : World} {v : Value} {zs : List ByteArray} {lo hi lo' hi' : Nat} (h : LstV W v zs lo hi) (h1 : lo' ≤ lo) (h2 : hi ≤ hi') : LstV W v zs lo' hi' := by
  obtain ⟨a, c, e, hl⟩ := h; exact ⟨a, c, e, hl.mono h1 h2⟩
theorem lstV_nil (W : World) (a : Option Addr) (c lo hi : Nat) : LstV W (.slice a 0 c) [] lo hi := ⟨a, c, rfl, .inl rfl⟩
theorem upto_own {w : World} {base g cap n : Nat} {zs : List ByteArray} (hn : n = zs.length) (h : w.ownsRow base 9 1 (.slice (some ⟨g, 0, none⟩) n cap) n (flat zs)) : Upto w g n n zs := by
  subst hn
  refine ⟨fun i hi => ?_, fun i hi => ?_⟩
  · have := h.cells (g := g) rfl i _ (flat_get hi)
    rw [plain_add, Nat.zero_add] at this
    exact this
  · obtain ⟨_, ⟨e, _⟩ | ⟨g', cap', cur, e, _, hg, h1, _, h3, _⟩⟩ := h
    · cases e
    · cases e
      have hlt : i < cur.size := by rw [h3]; omega
      exact ⟨by simp [World.cell?, hg, hlt], by simp [World.frozen?, hg]⟩
theorem lst_own {w : World} {base n : Nat} {v : Value} {zs : List ByteArray} (hn : n = zs.length) (h : w.ownsRow base 9 1 v n (flat zs)) : LstV w v zs base w.heap.size := by
  unfold LstV
  have h' := h
  obtain ⟨hl, ⟨rfl, h0⟩ | ⟨g, cap, cur, rfl, hb, hg, _, _, _, _⟩⟩ := h
  · exact ⟨none, 0, by rw [← hn, h0], .inl (List.eq_nil_of_length_eq_zero (by omega))⟩
  · have hlt : g < w.heap.size := by
      rcases Nat.lt_or_ge g w.heap.size with h | h
      · exact h
      · rw [Array.getElem?_eq_none h] at hg; cases hg
    refine ⟨_, cap, by rw [hn], .inr ⟨g, rfl, hb, hlt, hlt, ?_⟩⟩
    have := upto_own hn h'
    rw [hn] at this; exact this
theorem infoI : ∃ i, Tryz.prog.info? 9 = some i ∧ i.zero = some (.string ByteArray.empty) ∧ i.size = 1 ∧ i.bytes = 16 := by
  have h : (Tryz.prog.info? 9).map (fun i => (i.zero, i.size, i.bytes)) = some (some (.string ByteArray.empty), 1, 16) := by kernel_rfl
  obtain ⟨i, hi, he⟩ := Option.map_eq_some_iff.1 h
  simp only [Prod.mk.injEq] at he
  exact ⟨i, hi, he.1, he.2.1, he.2.2⟩
theorem rm_new (w : World) (z : ByteArray) : RM (w.alloc (.cells #[.string z] 9)) (some ⟨w.heap.size, 0, none⟩) [z] := by
  refine .inr ⟨_, _, rfl, fun i hi => ?_⟩
  obtain rfl : i = 0 := by simp at hi; omega
  simp [World.cell?_alloc_new]
theorem own_empty (w : World) (base : Nat) (hb : base ≤ w.heap.size) : (w.alloc (.cells #[] 9)).ownsRow base 9 1 (.slice (some ⟨w.heap.size, 0, none⟩) 0 0) ([] : List ByteArray).length (flat []) := World.ownsRow_made w #[] 0 hb (Nat.zero_le _) (by simp)
theorem below_own {B : Nat} {w0 w w' : World} {base : Nat} {v : Value} {n : Nat} {xs : List Value} (h : Below B w0 w) (ho : w.ownsRow base 9 1 v n xs) (hg : w.grownBy w' v.ownBlock) (hb : B ≤ base) (hB : B ≤ w.heap.size) : Below B w0 w' :=
  h.grown hg hB (fun k hk => Nat.le_trans hb (ho.lt k hk).1)
/-- A mark's text. -/
def mtx (k : Nat) : ByteArray := ⟨#[109]⟩ ++ dig k
set_option maxRecDepth 100000 in
set_option maxHeartbeats 2000000 in
theorem markText (k : Nat) (h1 : 1 ≤ k) (h8 : k ≤ 99999999) (w : World) :
    Calls Tryz.prog 102 #[.int .i64 (k : Int)] w fun e w' => e = .returned (.string (mtx k)) ∧ Below w.heap.size w w' := by
  have hk0 : ¬ ((k : Int) ≤ 0) := by omega
  have hsz := dig_size8 k h8
  have HD : Hid (mtx k = ⟨#[109]⟩ ++ dig k) := hide rfl
  have H0 : Hid (dig k ++ (⟨#[]⟩ : ByteArray) = dig k) := hide (by apply ByteArray.ext; simp [ByteArray.data_append])
  generalize hdk : dig k = dk at *
  have HDK := hide hdk
  clear hdk
  go_enter Tryz.func102, Tryz.ntmps102
  go_wp2_with fail
  go_loopw [0, 3] (fun q o wr => ∃ (t : Nat) (u : ByteArray), q = .int .i64 (t : Int) ∧ o = .string u ∧ t ≤ k ∧ u.size ≤ 8 ∧ Hid (t = 0 → u = dk) ∧ Hid (1 ≤ t → dig t ++ u = dk) ∧ Hid (Below w.heap.size w wr)) (fun q _ _ => (intOf q).toNat)
  case atStart => exact ⟨k, ⟨#[]⟩, rfl, rfl, Nat.le_refl _, by decide, hide (fun h => by omega), hide (fun _ => by rw [unhide HDK]; have := unhide H0; exact this), hide (Below.refl _ _)⟩
  case round =>
    obtain ⟨t, u, rfl, rfl, htk, hu8, hz, hp, hbl⟩ := hrel
    by_cases h0 : 1 ≤ t
    · have hpos : (0 : Int) < (t : Int) := by omega
      have htm : (t : Int).tmod 10 = (t : Int) % 10 := Int.tmod_eq_emod_of_nonneg (by omega)
      have htd : (t : Int).tdiv 10 = (t : Int) / 10 := Int.tdiv_eq_ediv_of_nonneg (by omega)
      have hw1 : IntKind.i64.wrap ((t : Int) / 10) = (t : Int) / 10 := wrapS (by omega) (by omega)
      have hw2 : IntKind.i64.wrap (48 + (t : Int) % 10) = 48 + (t : Int) % 10 := wrapS (by omega) (by omega)
      have hw3 : IntKind.u8.wrap (48 + (t : Int) % 10) = 48 + (t : Int) % 10 := by rw [IntKind.wrap_u8]; omega
      have hc := conv1 (wr.alloc (Obj.cells #[Value.int IntKind.u8 (48 + (t : Int) % 10)] 5)) wr.heap.size (48 + (t : Int) % 10) (by simp [go_sem])
      have hnb : ∀ n : Int, ¬ (9223372036854775807 < (strOfNums [n]).size + u.size) := fun n => by rw [strOfNums_size]; simp; omega
      have hpp := unhide hp h0
      have HN : Hid ((t / 10 = 0 → strOfNums [48 + (t : Int) % 10] ++ u = dk) ∧ (1 ≤ t / 10 → dig (t / 10) ++ (strOfNums [48 + (t : Int) % 10] ++ u) = dk)) := hide (by
        constructor
        · intro hl
          have ht : t < 10 := by omega
          rw [← hpp, ← dig_one ht, show (48 + (t : Int) % 10) = 48 + (t : Int) by omega]
        · intro hl
          rw [← hpp, ← dig_more (k := t) (by omega)]
          apply ByteArray.ext
          simp [ByteArray.data_append, Array.append_assoc])
      have hsz2 : (strOfNums [48 + (t : Int) % 10] ++ u).size ≤ 8 := by
        have hs : (strOfNums [48 + (t : Int) % 10] ++ u).size ≤ dk.size := by
          by_cases hl : t / 10 = 0
          · rw [(unhide HN).1 hl]; exact Nat.le_refl _
          · rw [← (unhide HN).2 (by omega), ByteArray.size_append (a := dig (t / 10))]; omega
        omega
      have HB := hide ((unhide hbl).alloc (unhide hbl).size (.cells #[.int .u8 (48 + (t : Int) % 10)] 5))
      have hq10 : ((t / 10 : Nat) : Int) = (t : Int) / 10 := by omega
      clear hpp hp hz
      go_wp2_with fail
      generalize strOfNums [48 + (t : Int) % 10] ++ u = u' at *
      go_roundw
      case rel => exact ⟨t / 10, u', by first | rw [hq10] | (rw [hq10]; rfl) | simp, rfl, by omega, hsz2, hide (unhide HN).1, hide (unhide HN).2, HB⟩
      case measure => simp [intOf]; omega
    · obtain rfl : t = 0 := by omega
      have e : u = dk := unhide hz rfl
      subst e
      have hnb : ¬ (9223372036854775807 < (⟨#[109]⟩ : ByteArray).size + u.size) := by
        have : (⟨#[109]⟩ : ByteArray).size = 1 := rfl
        omega
      go_wp2_with fail
      go_ret
      exact ⟨by rw [unhide HD]; first | rfl | simp, unhide hbl⟩
/-- The marks from K on. -/
def marks (K : Int) (n : Nat) : List ByteArray := (List.range n).map fun t : Nat => mtx (K + 1 * (t : Int)).toNat
theorem marks_len (K : Int) (n : Nat) : (marks K n).length = n := by simp [marks]
theorem marks_at (K : Int) (n t : Nat) (h : t < n) : (marks K n).getD t ByteArray.empty = mtx (K + 1 * (t : Int)).toNat := by
  unfold marks
  rw [List.getD_eq_getElem?_getD, List.getElem?_map, List.getElem?_range h]; rfl
theorem grown_set {w w1 : World} {g o : Nat} {v : Value} (h : w.grownBy w1 (some g)) : w.grownBy (w1.setCell ⟨g, o, none⟩ v) (some g) :=
  ⟨h.os, h.tape, h.output, by have := h.size; simp [World.setCell]; exact this, fun k hk hne => (Below.heap_setCell _ _ _ _ (fun e => hne (by rw [e]))).trans (h.block k hk hne)⟩
end Ss
end Go.Proofs.YtfooahhdikobeaaGreat
namespace Go.Proofs.YtfooahhdikobeaaGreat
open Go.ChangeShapes Go.WideShapes Go.ChangeAt Go.RowKit
set_option linter.unusedVariables false
set_option linter.unusedSimpArgs false
set_option maxRecDepth 100000
attribute [local go_sem ↓] Go.wp_at_zero Go.wp_at_succ
namespace Fm
open W1
def mkF (K : Int) : R := ⟨K, K + 1, K + 1 + 1, Ss.mtx (K + 1 + 1 + 1).toNat⟩
def mksF (K : Int) (n : Nat) : List R := (List.range n).map fun t : Nat => mkF (K + 4 * (t : Int))
theorem mksF_len (K : Int) (n : Nat) : (mksF K n).length = n := by simp [mksF]
theorem mksF_at (K : Int) (n t : Nat) (h : t < n) : (mksF K n).getD t R.zero = mkF (K + 4 * (t : Int)) := by
  unfold mksF
  rw [List.getD_eq_getElem?_getD, List.getElem?_map, List.getElem?_range h]; rfl
theorem gset {w w1 : World} {g o : Nat} {v : Value} (h : w.grownBy w1 (some g)) : w.grownBy (w1.setCell ⟨g, o, none⟩ v) (some g) :=
  ⟨h.os, h.tape, h.output, by have := h.size; simp [World.setCell]; exact this, fun k hk hne => (Below.heap_setCell _ _ _ _ (fun e => hne (by rw [e]))).trans (h.block k hk hne)⟩
theorem gbel {w w1 w2 : World} {g : Nat} (h : w.grownBy w1 (some g)) (hb : Below w1.heap.size w1 w2) : w.grownBy w2 (some g) :=
  ⟨hb.os.trans h.os, hb.tape.trans h.tape, hb.output.trans h.output, Nat.le_trans h.size hb.size, fun k hk hne => (hb.block k (Nat.lt_of_lt_of_le hk h.size)).trans (h.block k hk hne)⟩
theorem Upto.far {w : World} {g n j o : Nat} {ms : List R} (h : Upto w g n j ms) (ho : j * 4 ≤ o) (v : Value) : Upto (w.setCell ⟨g, o, none⟩ v) g n j ms := by
  have e : ∀ q, q ≠ o → (w.setCell ⟨g, o, none⟩ v).cell? ⟨g, q, none⟩ = w.cell? ⟨g, q, none⟩ := fun q hq => World.cell?_setCell_other _ _ _ _ (by intro h; cases h; exact hq rfl)
  refine ⟨fun i hi => ?_, fun i hi => ⟨?_, by rw [World.frozen?_setCell]; exact (h.2 i hi).2⟩⟩
  · obtain ⟨h0, h1, h2, h3⟩ := h.1 i hi
    exact ⟨(e _ (by omega)).trans h0, (e _ (by omega)).trans h1, (e _ (by omega)).trans h2, (e _ (by omega)).trans h3⟩
  · obtain ⟨u, hu⟩ := Option.isSome_iff_exists.1 (h.2 i hi).1
    obtain ⟨u', hu'⟩ := cell?_setCell_some (p := ⟨g, o, none⟩) (x := v) hu
    rw [hu']; rfl
theorem Upto.close {w : World} {g n j : Nat} {ms : List R} (h : Upto w g n j ms) (ha : At w g (j * 4) (ms.getD j R.zero)) : Upto w g n (j + 1) ms := by
  refine ⟨fun i hi => ?_, h.2⟩
  by_cases e : i = j
  · subst e; exact ha
  · exact h.1 i (by omega)
/-- The first j frames and three numbers of the next one. -/
def Up3 (w : World) (g n j : Nat) (x y z : Int) (ms : List R) : Prop := Upto w g n j ms ∧ w.cell? ⟨g, j * 4, none⟩ = some (.int .i64 x) ∧ w.cell? ⟨g, j * 4 + 1, none⟩ = some (.int .i64 y) ∧ w.cell? ⟨g, j * 4 + 2, none⟩ = some (.int .i64 z)
theorem Up3.of {w : World} {g n j : Nat} {ms : List R} (h : Upto w g n j ms) (hj : j < n) (x y z : Int) : Up3 (((w.setCell ⟨g, j * 4, none⟩ (.int .i64 x)).setCell ⟨g, j * 4 + 1, none⟩ (.int .i64 y)).setCell ⟨g, j * 4 + 2, none⟩ (.int .i64 z)) g n j x y z ms := by
  obtain ⟨v0, h0⟩ := Option.isSome_iff_exists.1 (h.2 (j * 4) (by omega)).1
  obtain ⟨v1, h1⟩ := Option.isSome_iff_exists.1 (h.2 (j * 4 + 1) (by omega)).1
  obtain ⟨v2, h2⟩ := Option.isSome_iff_exists.1 (h.2 (j * 4 + 2) (by omega)).1
  have n : ∀ {w : World} {v : Value} {a b : Nat}, a ≠ b → (w.setCell ⟨g, a, none⟩ v).cell? ⟨g, b, none⟩ = w.cell? ⟨g, b, none⟩ := fun {w v a b} e => World.cell?_setCell_other _ _ _ _ (by intro h; cases h; exact e rfl)
  refine ⟨((h.far (by omega) _).far (by omega) _).far (by omega) _, ?_, ?_, ?_⟩
  · rw [n (by omega), n (by omega), World.cell?_setCell_same _ _ _ h0]
  · rw [n (by omega), World.cell?_setCell_same _ _ _ ((n (by omega)).trans h1)]
  · rw [World.cell?_setCell_same _ _ _ ((n (by omega)).trans ((n (by omega)).trans h2))]
theorem Up3.below {w w' : World} {g n j : Nat} {x y z : Int} {ms : List R} (h : Up3 w g n j x y z ms) (hb : Below w.heap.size w w') (hg : g < w.heap.size) : Up3 w' g n j x y z ms :=
  ⟨h.1.below hb hg, (hb.cell (p := ⟨g, j * 4, none⟩) hg).trans h.2.1, (hb.cell (p := ⟨g, j * 4 + 1, none⟩) hg).trans h.2.2.1, (hb.cell (p := ⟨g, j * 4 + 2, none⟩) hg).trans h.2.2.2⟩
theorem Up3.put {w : World} {g n j : Nat} {x y z : Int} {bs : ByteArray} {ms : List R} (h : Up3 w g n j x y z ms) (hj : j < n) (e : ms.getD j R.zero = ⟨x, y, z, bs⟩) : Upto (w.setCell ⟨g, j * 4 + 3, none⟩ (.string bs)) g n (j + 1) ms := by
  obtain ⟨v3, h3⟩ := Option.isSome_iff_exists.1 (h.1.2 (j * 4 + 3) (by omega)).1
  have n : ∀ {w : World} {v : Value} {a b : Nat}, a ≠ b → (w.setCell ⟨g, a, none⟩ v).cell? ⟨g, b, none⟩ = w.cell? ⟨g, b, none⟩ := fun {w v a b} e => World.cell?_setCell_other _ _ _ _ (by intro h; cases h; exact e rfl)
  refine (h.1.far (by omega) _).close ?_
  rw [e]
  exact ⟨(n (by omega)).trans h.2.1, (n (by omega)).trans h.2.2.1, (n (by omega)).trans h.2.2.2, World.cell?_setCell_same _ _ _ h3⟩
set_option maxHeartbeats 8000000 in
theorem mkFS (g n c : Nat) (K : Int) (ms : List R) (w : World) (hK : 0 ≤ K) (hK1 : K + 4 * n ≤ 99999990) (hn : n ≤ 1048576) (hg : g < w.heap.size) (hU : Upto w g n n ms) :
    Calls Tryz.prog 57 #[.slice (some ⟨g, 0, none⟩) n c, .int .i64 K] w fun e w' => e = .returned (.int .i64 (K + 4 * (n : Int))) ∧ w.grownBy w' (some g) ∧ Upto w' g n n (mksF K n) := by
  have hU0 : Hid (Upto w g n 0 (mksF K n)) := hide ⟨fun i hi => by omega, hU.2⟩
  clear hU
  go_enter Tryz.func57, Tryz.ntmps57
  go_wp2
  go_loopw [1, 5] (fun q i wr => ∃ j : Nat, j ≤ n ∧ i = .int .i64 j ∧ q = .int .i64 (K + 4 * (j : Int)) ∧ Hid (w.grownBy wr (some g)) ∧ Hid (Upto wr g n j (mksF K n))) (fun _ i _ => n - (intOf i).toNat)
  case atStart => exact ⟨0, by omega, rfl, by simp, hide ⟨rfl, rfl, rfl, Nat.le_refl _, fun _ _ _ => rfl⟩, hU0⟩
  case round =>
    obtain ⟨j, hj, rfl, rfl, hgr, hu⟩ := hrel
    by_cases hlt : (j : Int) < (n : Int)
    · have k0 : (0 : Int) ≤ (j : Int) := by omega
      have hma := mksF_at K n j (by omega)
      obtain ⟨q, hq⟩ : ∃ q, K + 4 * (j : Int) = q := ⟨_, rfl⟩
      rw [hq] at hma ⊢
      obtain ⟨t, ht⟩ : ∃ t : Nat, q + 1 + 1 + 1 = (t : Int) := ⟨(q + 1 + 1 + 1).toNat, by omega⟩
      unfold mkF at hma
      rw [ht, Int.toNat_natCast] at hma
      have HMA := hide hma
      have hgs : g < wr.heap.size := Nat.lt_of_lt_of_le hg (unhide hgr).size
      have HQ := hide hq
      have HT := hide ht
      have hq0 : 0 ≤ q := by omega
      have hq1 : q ≤ 99999990 := by omega
      have ht1 : 1 ≤ t := by omega
      have ht8 : t ≤ 99999999 := by omega
      obtain ⟨v0, x0⟩ := Option.isSome_iff_exists.1 ((unhide hu).2 (j * 4) (by omega)).1
      obtain ⟨v1, x1⟩ := Option.isSome_iff_exists.1 ((unhide hu).2 (j * 4 + 1) (by omega)).1
      obtain ⟨v2, x2⟩ := Option.isSome_iff_exists.1 ((unhide hu).2 (j * 4 + 2) (by omega)).1
      have y0 := ((unhide hu).2 (j * 4) (by omega)).2
      have y1 := ((unhide hu).2 (j * 4 + 1) (by omega)).2
      have y2 := ((unhide hu).2 (j * 4 + 2) (by omega)).2
      have HU3 := hide (Up3.of (unhide hu) (show j < n by omega) q (q + 1) (q + 1 + 1))
      have HG3 := hide (gset (o := j * 4 + 2) (v := .int .i64 (q + 1 + 1)) (gset (o := j * 4 + 1) (v := .int .i64 (q + 1)) (gset (o := j * 4) (v := .int .i64 q) (unhide hgr))))
      have HS3 := hide (show g < (((wr.setCell ⟨g, j * 4, none⟩ (.int .i64 q)).setCell ⟨g, j * 4 + 1, none⟩ (.int .i64 (q + 1))).setCell ⟨g, j * 4 + 2, none⟩ (.int .i64 (q + 1 + 1))).heap.size by simpa [World.setCell] using hgs)
      clear hq hma hgs hu hgr
      go_wp2_with fail
      clear x0 x1 x2 y0 y1 y2
      try rw [unhide HT]
      generalize ((wr.setCell ⟨g, j * 4, none⟩ (.int .i64 q)).setCell ⟨g, j * 4 + 1, none⟩ (.int .i64 (q + 1))).setCell ⟨g, j * 4 + 2, none⟩ (.int .i64 (q + 1 + 1)) = w3 at *
      refine (Ss.markText t ht1 ht8 _).mono ?_
      rintro e w4 ⟨rfl, b4⟩
      have HU4 := hide ((unhide HU3).below b4 (unhide HS3))
      have HG4 := hide (gbel (unhide HG3) b4)
      clear b4 HU3 HG3
      obtain ⟨v3, x3⟩ := Option.isSome_iff_exists.1 ((unhide HU4).1.2 (j * 4 + 3) (by omega)).1
      have y3 := ((unhide HU4).1.2 (j * 4 + 3) (by omega)).2
      have HST := hide ((unhide HU4).put (by omega) (unhide HMA))
      have HGN := hide (gset (o := j * 4 + 3) (v := .string (Ss.mtx t)) (unhide HG4))
      clear HU4 HG4 HMA
      generalize Ss.mtx t = mt at *
      clear ht
      go_wp2_with fail
      exact ⟨⟨j + 1, by omega, by go_num, by have h1 := unhide HT; have h2 := unhide HQ; first | (congr 1; omega) | (simp; omega), HGN, HST⟩, by simp [intOf]; omega⟩
    · obtain rfl : j = n := by omega
      go_wp2
      go_ret
      exact ⟨rfl, unhide hgr, unhide hu⟩
theorem mkFS0 (a : Option Addr) (c : Nat) (K : Int) (w : World) :
    Calls Tryz.prog 57 #[.slice a 0 c, .int .i64 K] w fun e w' => e = .returned (.int .i64 K) ∧ w' = w := by
  go_enter Tryz.func57, Tryz.ntmps57
  go_wp2
  go_loop [1, 5] (fun q i => q = .int .i64 K ∧ i = .int .i64 0) (fun _ i => 0)
  case atStart => exact ⟨rfl, rfl⟩
  case round =>
    obtain ⟨rfl, rfl⟩ := hrel
    go_wp2
    go_ret
    exact ⟨rfl, rfl⟩
/-- Marks on a list that may be written, whether it has any or not. -/
theorem mkFF (a : Option Addr) (c lo hi : Nat) (K : Int) (ms : List R) (w : World) (hK : 0 ≤ K) (hK1 : K + 4 * ms.length ≤ 99999990) (hn : ms.length ≤ 1048576) (h : Lst w a ms lo hi) :
    Calls Tryz.prog 57 #[.slice a ms.length c, .int .i64 K] w fun e w' => e = .returned (.int .i64 (K + 4 * (ms.length : Int))) ∧ w.heap.size ≤ w'.heap.size ∧ Below (min lo w.heap.size) w w' ∧ Lst w' a (mksF K ms.length) lo hi ∧ ∀ k, k < w.heap.size → (k < lo ∨ hi ≤ k) → w'.heap[k]? = w.heap[k]? := by
  have hnil : ∀ w', w' = w → w.heap.size ≤ w'.heap.size ∧ Below (min lo w.heap.size) w w' ∧ ∀ k, k < w.heap.size → (k < lo ∨ hi ≤ k) → w'.heap[k]? = w.heap[k]? := by
    rintro w' rfl
    exact ⟨Nat.le_refl _, Below.refl _ _, fun _ _ _ => rfl⟩
  by_cases h0 : ms.length = 0
  · obtain rfl : ms = [] := List.eq_nil_of_length_eq_zero h0
    refine (mkFS0 a c K w).mono ?_
    rintro e w' ⟨rfl, hw⟩
    obtain ⟨q1, q2, q3⟩ := hnil w' hw
    exact ⟨by simp, q1, q2, .inl rfl, q3⟩
  rcases h with rfl | ⟨g, rfl, h1, h2, h3, hu⟩
  · simp at h0
  refine (mkFS g ms.length c K ms w hK hK1 hn h3 hu).mono ?_
  rintro e w' ⟨rfl, gr, hu'⟩
  exact ⟨rfl, gr.size, ⟨gr.os, gr.tape, gr.output, gr.size, fun k hk => gr.block k (by omega) (fun e => by cases e; omega)⟩, .inr ⟨g, rfl, h1, h2, Nat.lt_of_lt_of_le h3 gr.size, by rw [mksF_len]; exact hu'⟩, fun k hk hne => gr.block k hk (fun e => by cases e; omega)⟩
end Fm
end Go.Proofs.YtfooahhdikobeaaGreat
namespace Go.Proofs.YtfooahhdikobeaaGreat
open Go.ChangeShapes Go.WideShapes Go.ChangeAt Go.RowKit
set_option linter.unusedVariables false
set_option linter.unusedSimpArgs false
set_option maxRecDepth 100000
attribute [local go_sem ↓] Go.wp_at_zero Go.wp_at_succ
namespace Nt
open W1 Rt
/-- Routers that may be written, whether there are any or not. -/
def NL (W : World) (a : Option Addr) (lo hi n : Nat) (f : Nat → Nat) (M : Nat → Rm) (Q : Nat → Pl) : Prop := n = 0 ∨ ∃ g, a = some ⟨g, 0, none⟩ ∧ lo ≤ g ∧ g < hi ∧ g < W.heap.size ∧ (∀ i, i < n → g < f i ∨ f (i + 1) ≤ g) ∧ (∀ i, i < n → f i ≤ f (i + 1)) ∧ (∀ i, i < n → lo ≤ f i ∧ f (i + 1) ≤ hi ∧ f (i + 1) ≤ W.heap.size) ∧ MkS W g n f M Q
theorem MkS.but {w w' : World} {g n lo hi L H : Nat} {f : Nat → Nat} {M : Nat → Rm} {Q : Nat → Pl} (h : MkS w g n f M Q) (hs : w.heap.size ≤ w'.heap.size) (hgs : g < w.heap.size) (hg : lo ≤ g ∧ g < hi) (hfl : ∀ i, i < n → lo ≤ f i ∧ f (i + 1) ≤ hi) (hb : ∀ k, k < w.heap.size → (k < L ∨ H ≤ k) → w'.heap[k]? = w.heap[k]?) (hd : hi ≤ L ∨ H ≤ lo) : MkS w' g n f M Q := by
  have e : w'.heap[g]? = w.heap[g]? := hb g hgs (by omega)
  have cb : ∀ q, w'.cell? ⟨g, q, none⟩ = w.cell? ⟨g, q, none⟩ := fun q => World.cell?_of_block (a := ⟨g, q, none⟩) e
  have fb : ∀ q, w'.frozen? ⟨g, q, none⟩ = w.frozen? ⟨g, q, none⟩ := fun q => World.frozen?_of_block (a := ⟨g, q, none⟩) e
  exact ⟨fun i hi k u hu => (cb _).trans (h.1 i hi k u hu), fun k hk => by rw [cb, fb]; exact h.2.1 k hk, fun i hi => (h.2.2 i hi).but hs hb (by have := hfl i hi; omega)⟩
theorem NL.but {w w' : World} {a : Option Addr} {lo hi n L H : Nat} {f : Nat → Nat} {M : Nat → Rm} {Q : Nat → Pl} (h : NL w a lo hi n f M Q) (hs : w.heap.size ≤ w'.heap.size) (hb : ∀ k, k < w.heap.size → (k < L ∨ H ≤ k) → w'.heap[k]? = w.heap[k]?) (hd : hi ≤ L ∨ H ≤ lo) : NL w' a lo hi n f M Q := by
  rcases h with h | ⟨g, rfl, h1, h2, h3, h4, h5, h6, h7⟩
  · exact .inl h
  · exact .inr ⟨g, rfl, h1, h2, Nat.lt_of_lt_of_le h3 hs, h4, h5, fun i hi => ⟨(h6 i hi).1, (h6 i hi).2.1, Nat.le_trans (h6 i hi).2.2 hs⟩, h7.but hs h3 ⟨h1, h2⟩ (fun i hi => ⟨(h6 i hi).1, (h6 i hi).2.1⟩) hb hd⟩
theorem NL.below {w w' : World} {a : Option Addr} {lo hi n : Nat} {f : Nat → Nat} {M : Nat → Rm} {Q : Nat → Pl} (h : NL w a lo hi n f M Q) (hb : Below w.heap.size w w') : NL w' a lo hi n f M Q := by
  rcases h with h | ⟨g, rfl, h1, h2, h3, h4, h5, h6, h7⟩
  · exact .inl h
  · refine .inr ⟨g, rfl, h1, h2, Nat.lt_of_lt_of_le h3 hb.size, h4, h5, fun i hi => ⟨(h6 i hi).1, (h6 i hi).2.1, Nat.le_trans (h6 i hi).2.2 hb.size⟩, ?_⟩
    exact ⟨fun i hi => rng_under (h7.1 i hi) hb h3, there_under h7.2.1 hb h3, fun i hi => (h7.2.2 i hi).below hb⟩
theorem NL.nr {w : World} {a : Option Addr} {lo hi n : Nat} {f : Nat → Nat} {ms : List Rm} {qs : List Pl} (hn : ms.length = n) (h : NL w a lo hi n f (fun i => ms.getD i Rm.zero) (fun i => qs.getD i Pl.zero)) : NR w a ms qs := by
  rcases h with h | ⟨g, rfl, h1, h2, h3, h4, h5, h6, h7⟩
  · exact .inl (List.eq_nil_of_length_eq_zero (by omega))
  · exact .inr ⟨g, 0, rfl, fun i hi => ⟨by rw [Nat.zero_add]; exact h7.1 i (by omega), (h7.2.2 i (by omega)).rd⟩⟩
/-- A net in memory of its own: its rows, its costs, its frames, each in an interval. -/
def MT (W : World) (lo hi : Nat) (a b d : Option Addr) (ms : List Rm) (qs : List Pl) (cs : List Int) (fs : List Fm.R) : Prop :=
  ∃ f p1 q1 p2 q2 p3 q3, (lo ≤ p1 ∧ q1 ≤ hi) ∧ (lo ≤ p2 ∧ q2 ≤ hi) ∧ (lo ≤ p3 ∧ q3 ≤ hi) ∧ (q1 ≤ p2 ∨ q2 ≤ p1) ∧ (q1 ≤ p3 ∨ q3 ≤ p1) ∧ (q2 ≤ p3 ∨ q3 ≤ p2) ∧ NL W a p1 q1 ms.length f (fun i => ms.getD i Rm.zero) (fun i => qs.getD i Pl.zero) ∧ In.Lst W b cs p2 q2 ∧ Fm.Lst W d fs p3 q3
theorem MT.below {W W' : World} {lo hi : Nat} {a b d : Option Addr} {ms : List Rm} {qs : List Pl} {cs : List Int} {fs : List Fm.R} (h : MT W lo hi a b d ms qs cs fs) (hb : Below W.heap.size W W') : MT W' lo hi a b d ms qs cs fs := by
  obtain ⟨f, p1, q1, p2, q2, p3, q3, e1, e2, e3, e4, e5, e6, h1, h2, h3⟩ := h
  exact ⟨f, p1, q1, p2, q2, p3, q3, e1, e2, e3, e4, e5, e6, h1.below hb, h2.below hb, h3.below hb⟩
theorem MT.but {W W' : World} {lo hi L H : Nat} {a b d : Option Addr} {ms : List Rm} {qs : List Pl} {cs : List Int} {fs : List Fm.R} (h : MT W lo hi a b d ms qs cs fs) (hs : W.heap.size ≤ W'.heap.size) (hb : ∀ k, k < W.heap.size → (k < L ∨ H ≤ k) → W'.heap[k]? = W.heap[k]?) (hd : hi ≤ L ∨ H ≤ lo) : MT W' lo hi a b d ms qs cs fs := by
  obtain ⟨f, p1, q1, p2, q2, p3, q3, e1, e2, e3, e4, e5, e6, h1, h2, h3⟩ := h
  exact ⟨f, p1, q1, p2, q2, p3, q3, e1, e2, e3, e4, e5, e6, h1.but hs hb (by omega), h2.but (p := fun k => k < L ∨ H ≤ k) hs (fun k hk h => hb k hk h) (fun k h1 h2 => by omega), h3.but (p := fun k => k < L ∨ H ≤ k) hs (fun k hk h => hb k hk h) (fun k h1 h2 => by omega)⟩
theorem MT.nr {W : World} {lo hi : Nat} {a b d : Option Addr} {ms : List Rm} {qs : List Pl} {cs : List Int} {fs : List Fm.R} (h : MT W lo hi a b d ms qs cs fs) : NR W a ms qs := by
  obtain ⟨f, p1, q1, p2, q2, p3, q3, e1, e2, e3, e4, e5, e6, h1, h2, h3⟩ := h; exact h1.nr rfl
theorem MT.ri {W : World} {lo hi : Nat} {a b d : Option Addr} {ms : List Rm} {qs : List Pl} {cs : List Int} {fs : List Fm.R} (h : MT W lo hi a b d ms qs cs fs) : In.RM W b cs := by
  obtain ⟨f, p1, q1, p2, q2, p3, q3, e1, e2, e3, e4, e5, e6, h1, h2, h3⟩ := h; exact h2.rm
theorem MT.rf {W : World} {lo hi : Nat} {a b d : Option Addr} {ms : List Rm} {qs : List Pl} {cs : List Int} {fs : List Fm.R} (h : MT W lo hi a b d ms qs cs fs) : Fm.RM W d fs := by
  obtain ⟨f, p1, q1, p2, q2, p3, q3, e1, e2, e3, e4, e5, e6, h1, h2, h3⟩ := h; exact h3.rm
theorem OwT.mt {W : World} {lo hi g1 g2 g3 : Nat} {ms : List Rm} {qs : List Pl} {cs : List Int} {fs : List Fm.R} (h : OwT W lo hi g1 g2 g3 ms qs cs fs) : MT W lo hi (some ⟨g1, 0, none⟩) (some ⟨g2, 0, none⟩) (some ⟨g3, 0, none⟩) ms qs cs fs := by
  obtain ⟨p, e1, e2, e3, e4, e5, e6, _, h1, ⟨f, f0, f1, f2, f3⟩, h3, h4⟩ := h
  have up : ∀ i k, i + k ≤ ms.length → f i ≤ f (i + k) := fun i k => by
    induction k with
    | zero => intro _; exact Nat.le_refl _
    | succ k ih => intro hk; exact Nat.le_trans (ih (by omega)) (f1 (i + k) (by omega))
  have fb : ∀ i, i < ms.length → g1 + 1 ≤ f i ∧ f (i + 1) ≤ p := fun i hi => by
    have h0 := up 0 i (by omega)
    have h9 := up (i + 1) (ms.length - (i + 1)) (by omega)
    rw [Nat.zero_add] at h0
    rw [show i + 1 + (ms.length - (i + 1)) = ms.length by omega] at h9
    omega
  refine ⟨f, g1, p, g2, g2 + 1, g3, g3 + 1, by omega, by omega, by omega, by omega, by omega, by omega, ?_, ?_, ?_⟩
  · exact .inr ⟨g1, rfl, Nat.le_refl _, e2, by omega, fun i hi => .inl (by have := fb i hi; omega), f1, fun i hi => by have := fb i hi; omega, h1.1, h1.2, f3⟩
  · exact .inr ⟨g2, rfl, Nat.le_refl _, by omega, by omega, h3⟩
  · exact .inr ⟨g3, rfl, Nat.le_refl _, by omega, by omega, h4⟩
/-- A net's marks from K on. -/
def MM (W : World) (a b d : Option Addr) (K : Int) (ms : List Rm) (qs : List Pl) (cs : List Int) (fs : List Fm.R) (lo hi : Nat) : Prop :=
  ∃ f p1 q1 p2 q2 p3 q3, ((lo ≤ p1 ∧ q1 ≤ hi) ∧ (lo ≤ p2 ∧ q2 ≤ hi) ∧ (lo ≤ p3 ∧ q3 ≤ hi)) ∧ NL W a p1 q1 ms.length f (fun i => mkM (ms.getD i Rm.zero) (K + sumK ms i)) (fun i => qs.getD i Pl.zero) ∧ In.Lst W b (In.marks (K + sumK ms ms.length) cs.length) p2 q2 ∧ Fm.Lst W d (Fm.mksF (K + sumK ms ms.length + cs.length) fs.length) p3 q3
theorem MM.below {W W' : World} {a b d : Option Addr} {K : Int} {ms : List Rm} {qs : List Pl} {cs : List Int} {fs : List Fm.R} {lo hi : Nat} (h : MM W a b d K ms qs cs fs lo hi) (hb : Below W.heap.size W W') : MM W' a b d K ms qs cs fs lo hi := by
  obtain ⟨f, p1, q1, p2, q2, p3, q3, e, h1, h2, h3⟩ := h
  exact ⟨f, p1, q1, p2, q2, p3, q3, e, h1.below hb, h2.below hb, h3.below hb⟩
def totK (ms : List Rm) (cs : List Int) (fs : List Fm.R) : Int := sumK ms ms.length + cs.length + 4 * fs.length
theorem mkK_le (m : Rm) : mkK m ≤ 6 + 6 * cnt m := by unfold mkK cnt; omega
theorem sumK_tot (ms : List Rm) : ∀ j, j ≤ ms.length → sumK ms j ≤ 6 * ((j : Int) + tot (ms.take j))
  | 0, _ => by simp [sumK, tot]
  | j + 1, h => by
    have h1 := sumK_tot ms j (by omega)
    have h2 := mkK_le (ms.getD j Rm.zero)
    have h3 := tot_take (ms := ms) (j := j) (by omega)
    simp only [sumK]
    rw [h3]
    have h4 : ((j + 1 : Nat) : Int) = (j : Int) + 1 := by omega
    rw [h4]
    omega
theorem totK_pos (ms : List Rm) (cs : List Int) (fs : List Fm.R) : 0 ≤ totK ms cs fs := by have := sumK_pos ms ms.length; unfold totK; omega
theorem totK_le {ms : List Rm} {cs : List Int} {fs : List Fm.R} (h : (ms.length : Int) + tot ms + cs.length + fs.length + totF fs ≤ 1048576) : 1 + totK ms cs fs ≤ 99999990 := by
  have h1 := sumK_tot ms ms.length (Nat.le_refl _)
  rw [List.take_length] at h1
  have h2 := totF_nonneg fs
  have h3 := tot_nonneg ms
  unfold totK
  omega
theorem markNS0 (a : Option Addr) (c : Nat) (K : Int) (w : World) :
    Calls Tryz.prog 56 #[.slice a 0 c, .int .i64 K] w fun e w' => e = .returned (.int .i64 K) ∧ w' = w := by
  go_enter Tryz.func56, Tryz.ntmps56
  go_wp2
  go_loop [1, 5] (fun q i => q = .int .i64 K ∧ i = .int .i64 0) (fun _ i => 0)
  case atStart => exact ⟨rfl, rfl⟩
  case round =>
    obtain ⟨rfl, rfl⟩ := hrel
    go_wp2
    go_ret
    exact ⟨rfl, rfl⟩
theorem markNF (a : Option Addr) (c lo hi n : Nat) (f : Nat → Nat) (K : Int) (ms : List Rm) (Q : Nat → Pl) (w : World) (hn : ms.length = n) (hn8 : n ≤ 1048576) (hK : 0 ≤ K) (hK1 : K + sumK ms n ≤ 900000000) (hs : ∀ i, i < ms.length → Sm (ms.getD i Rm.zero)) (h : NL w a lo hi n f (fun i => ms.getD i Rm.zero) Q) :
    Calls Tryz.prog 56 #[.slice a n c, .int .i64 K] w fun e w' => e = .returned (.int .i64 (K + sumK ms n)) ∧ w.heap.size ≤ w'.heap.size ∧ Below (min lo w.heap.size) w w' ∧ NL w' a lo hi n f (fun i => mkM (ms.getD i Rm.zero) (K + sumK ms i)) Q ∧ ∀ k, k < w.heap.size → (k < lo ∨ hi ≤ k) → w'.heap[k]? = w.heap[k]? := by
  by_cases h0 : n = 0
  · subst h0
    refine (markNS0 a c K w).mono ?_
    rintro e w' ⟨rfl, rfl⟩
    exact ⟨by simp [sumK], Nat.le_refl _, Below.refl _ _, .inl rfl, fun _ _ _ => rfl⟩
  rcases h with h | ⟨g, rfl, h1, h2, h3, h4, h5, h6, h7⟩
  · exact absurd h h0
  refine (markNS g n c lo hi f K ms Q w hn hn8 hK hK1 hs h3 h1 h2 h4 h5 h6 h7).mono ?_
  rintro e w' ⟨rfl, hz, hb, hm, hk⟩
  exact ⟨rfl, hz, hb, .inr ⟨g, rfl, h1, h2, Nat.lt_of_lt_of_le h3 hz, h4, h5, fun i hi => ⟨(h6 i hi).1, (h6 i hi).2.1, Nat.le_trans (h6 i hi).2.2 hz⟩, hm⟩, hk⟩
end Nt
end Go.Proofs.YtfooahhdikobeaaGreat
namespace Go.Proofs.YtfooahhdikobeaaGreat
open Go.ChangeShapes Go.WideShapes Go.ChangeAt Go.RowKit
set_option linter.unusedVariables false
set_option linter.unusedSimpArgs false
set_option maxRecDepth 100000
attribute [local go_sem ↓] Go.wp_at_zero Go.wp_at_succ
namespace Nt
open W1 Rt
set_option maxHeartbeats 8000000 in
theorem markNt (a b d : Option Addr) (ca cb cd : Nat) (t : Int) (K : Int) (lo hi : Nat) (ms : List Rm) (qs : List Pl) (cs : List Int) (fs : List Fm.R) (w : World) (hm : ms.length ≤ 1048576) (hc : cs.length ≤ 1048576) (hf : fs.length ≤ 1048576) (hK : 0 ≤ K) (hK1 : K + totK ms cs fs ≤ 99999990) (hs : ∀ i, i < ms.length → Sm (ms.getD i Rm.zero)) (hlo : lo ≤ w.heap.size) (hhi : hi ≤ w.heap.size) (h : MT w lo hi a b d ms qs cs fs) :
    Calls Tryz.prog 16 #[.agg #[.slice a ms.length ca, .slice b cs.length cb, .slice d fs.length cd, .int .i64 t], .int .i64 K] w fun e w' => e = .returned (.int .i64 (K + totK ms cs fs)) ∧ w.heap.size ≤ w'.heap.size ∧ Below lo w w' ∧ MM w' a b d K ms qs cs fs lo hi ∧ ∀ k, k < w.heap.size → (k < lo ∨ hi ≤ k) → w'.heap[k]? = w.heap[k]? := by
  have b0 := bel_new w (.cells #[.slice a ms.length ca, .slice b cs.length cb, .slice d fs.length cd, .int .i64 t] 31)
  have HX0 := hide (nb_new w (.slice a ms.length ca) (.slice b cs.length cb) (.slice d fs.length cd) t 31)
  have HB0 := hide b0
  obtain ⟨f, p1, q1, p2, q2, p3, q3, e1, e2, e3, e4, e5, e6, h1, h2, h3⟩ := h.below b0
  have HL1 := hide h1
  have HL2 := hide h2
  have HL3 := hide h3
  have hz0 : (w.alloc (.cells #[.slice a ms.length ca, .slice b cs.length cb, .slice d fs.length cd, .int .i64 t] 31)).heap.size = w.heap.size + 1 := by simp
  obtain ⟨r, hr⟩ : ∃ r, K + sumK ms ms.length = r := ⟨_, rfl⟩
  have hsp := sumK_pos ms ms.length
  have hr0 : 0 ≤ r := by omega
  have hr1 : r + cs.length + 4 * fs.length ≤ 99999990 := by unfold totK at hK1; omega
  have HTK : Hid (r + (cs.length : Int) + 4 * (fs.length : Int) = K + totK ms cs fs) := hide (by unfold totK; omega)
  have C1 := hide (fun W h => markNF a ca p1 q1 ms.length f K ms (fun i => qs.getD i Pl.zero) W rfl hm hK (by omega) hs h)
  have C2 := hide (fun W h => In.markF b cb p2 q2 r cs W hr0 (by omega) hc h)
  have C3 := hide (fun W h => Fm.mkFF d cd p3 q3 (r + (cs.length : Int)) fs W (by omega) (by omega) hf h)
  rw [hr] at C1
  have HR := hide hr
  clear h h1 h2 h3 b0 hK1 hs hsp hr
  go_enter Tryz.func16, Tryz.ntmps16
  obtain ⟨x0, x1, x2, x3⟩ := unhide HX0
  go_wp2_with fail
  clear x0 x1 x2 x3
  generalize w.alloc (.cells #[.slice a ms.length ca, .slice b cs.length cb, .slice d fs.length cd, .int .i64 t] 31) = w0 at *
  refine (unhide C1 _ (unhide HL1)).mono ?_
  rintro e w1 ⟨rfl, z1, b1, l1, k1⟩
  have HX1 := hide ((unhide HX0).but (k1 w.heap.size (by omega) (.inr (by omega))))
  have HL1' := hide l1
  have HL2' := hide ((unhide HL2).but (p := fun k => k < p1 ∨ q1 ≤ k) z1 (fun k hk h => k1 k hk h) (fun k h1 h2 => by omega))
  have HL3' := hide ((unhide HL3).but (p := fun k => k < p1 ∨ q1 ≤ k) z1 (fun k hk h => k1 k hk h) (fun k h1 h2 => by omega))
  have HB1 := hide (((unhide HB0).mono hlo).trans (b1.mono (by omega)))
  have HO1 : Hid (∀ k, k < w.heap.size → (k < lo ∨ hi ≤ k) → w1.heap[k]? = w.heap[k]?) := hide (fun k hk h => (k1 k (by omega) (by omega)).trans ((unhide HB0).block k hk))
  clear b1 l1 k1 HL1 HL2 HL3 HX0 HB0 C1
  obtain ⟨x0, x1, x2, x3⟩ := unhide HX1
  go_wp2_with fail
  clear x0 x1 x2 x3
  refine (unhide C2 _ (unhide HL2')).mono ?_
  rintro e w2 ⟨rfl, z2, b2, l2, k2⟩
  have HX2 := hide ((unhide HX1).but (k2 w.heap.size (by omega) (.inr (by omega))))
  have HL1 := hide ((unhide HL1').but z2 k2 (by omega))
  have HL2 := hide l2
  have HL3 := hide ((unhide HL3').but (p := fun k => k < p2 ∨ q2 ≤ k) z2 (fun k hk h => k2 k hk h) (fun k h1 h2 => by omega))
  have HB2 := hide ((unhide HB1).trans (b2.mono (by omega)))
  have HO2 : Hid (∀ k, k < w.heap.size → (k < lo ∨ hi ≤ k) → w2.heap[k]? = w.heap[k]?) := hide (fun k hk h => (k2 k (by omega) (by omega)).trans (unhide HO1 k hk h))
  clear b2 l2 k2 HL1' HL2' HL3' HX1 HB1 HO1 C2
  obtain ⟨x0, x1, x2, x3⟩ := unhide HX2
  go_wp2_with fail
  clear x0 x1 x2 x3
  refine (unhide C3 _ (unhide HL3)).mono ?_
  rintro e w3 ⟨rfl, z3, b3, l3, k3⟩
  have HL1' := hide ((unhide HL1).but z3 k3 (by omega))
  have HL2' := hide ((unhide HL2).but (p := fun k => k < p3 ∨ q3 ≤ k) z3 (fun k hk h => k3 k hk h) (fun k h1 h2 => by omega))
  have HL3' := hide l3
  have HB3 := hide ((unhide HB2).trans (b3.mono (by omega)))
  have HO3 : Hid (∀ k, k < w.heap.size → (k < lo ∨ hi ≤ k) → w3.heap[k]? = w.heap[k]?) := hide (fun k hk h => (k3 k (by omega) (by omega)).trans (unhide HO2 k hk h))
  clear b3 l3 k3 HL1 HL2 HL3 HX2 HB2 HO2 C3
  go_wp2_with fail
  go_ret
  refine ⟨by rw [unhide HTK]; rfl, by omega, unhide HB3, ⟨f, p1, q1, p2, q2, p3, q3, ⟨e1, e2, e3⟩, unhide HL1', by rw [unhide HR]; exact unhide HL2', by rw [unhide HR]; exact unhide HL3'⟩, unhide HO3⟩
end Nt
end Go.Proofs.YtfooahhdikobeaaGreat
namespace Go.Proofs.YtfooahhdikobeaaGreat
open Go.ChangeShapes Go.WideShapes Go.ChangeAt Go.RowKit
set_option linter.unusedVariables false
set_option linter.unusedSimpArgs false
set_option maxRecDepth 100000
attribute [local go_sem ↓] Go.wp_at_zero Go.wp_at_succ
namespace Nt
open W1 Rt
end Nt
end Go.Proofs.YtfooahhdikobeaaGreat
namespace Go.Proofs.YtfooahhdikobeaaGreat.fnExactErrorsOf
open Go.ChangeShapes Go.WideShapes Go.ChangeAt Go.RowKit
open W1 Rt Nt
set_option linter.unusedVariables false
set_option linter.unusedSimpArgs false
theorem own : ownKnob Tryz.prog.godebug = none := by kernel_rfl
theorem laidOut : laidOutB Tryz.prog = true := by kernel_rfl
set_option maxRecDepth 100000 in
set_option maxHeartbeats 32000000 in
theorem walk (a b d : Option Addr) (ca cb cd : Nat) (t : Int) (ms : List Rm) (ps : List Pl) (cs : List Int) (fs : List Fm.R) (hx1 : ms.length ≤ maxLen) (hx2 : cs.length ≤ maxLen) (hx3 : fs.length ≤ maxLen) (hx4 : ∀ i, i < ms.length → Sx (ms.getD i Rm.zero)) (hx5 : ∀ i, i < fs.length → (fs.getD i Fm.R.zero).bs.size ≤ maxLen) (w : World) (hr : NR w a ms ps) (hi : In.RM w b cs) (hz : Fm.RM w d fs) :
    Calls Tryz.prog 9 #[.agg #[.slice a ms.length ca, .slice b cs.length cb, .slice d fs.length cd, .int .i64 t]] w fun e w' => e = .returned (.bool true) ∧ Below w.heap.size w w' := by
  have Q0 := hide (nb_new w (.slice a ms.length ca) (.slice b cs.length cb) (.slice d fs.length cd) t 26)
  have B0 := bel_new w (.cells #[.slice a ms.length ca, .slice b cs.length cb, .slice d fs.length cd, .int .i64 t] 26)
  have HR0 := hide (hr.below B0)
  have HI0 := hide (hi.below B0)
  have HZ0 := hide (hz.below B0)
  have HRW := hide hr
  have HIW := hide hi
  have HZW := hide hz
  have hq0 : (w.alloc (.cells #[.slice a ms.length ca, .slice b cs.length cb, .slice d fs.length cd, .int .i64 t] 26)).heap.size = w.heap.size + 1 := by simp
  clear hr hi hz
  go_enter Tryz.func9, Tryz.ntmps9
  obtain ⟨k0_0, k0_1, k0_2, k0_3⟩ := unhide Q0
  go_wp2_with fail
  clear k0_0 k0_1 k0_2 k0_3
  generalize hW_ : w.alloc (.cells #[.slice a ms.length ca, .slice b cs.length cb, .slice d fs.length cd, .int .i64 t] 26) = w0 at *
  clear hW_
  refine (szNt a b d ca cb cd t ms ps cs fs 1048576 _ (by omega) (by omega) hx1 hx2 hx3 hx4 hx5 (unhide HR0) (unhide HZ0)).mono ?_
  rintro e w1 ⟨r1, rfl, b1, hs_⟩
  have B1 := B0.trans (b1.mono B0.size)
  have sz1 : w0.heap.size ≤ w1.heap.size := b1.size
  have Q1 := hide ((unhide Q0).below b1)
  have HR1 := hide ((unhide HR0).below b1)
  have HI1 := hide ((unhide HI0).below b1)
  have HZ1 := hide ((unhide HZ0).below b1)
  clear Q0 HR0 HI0 HZ0
  rcases hs_ with hs_ | ⟨hs0, hs1⟩
  · go_wp2_with fail
    go_ret
    exact ⟨rfl, B1⟩
  have hnn : ¬ r1 < 0 := by omega
  have t0_ := tot_nonneg ms
  have t1_ := totF_nonneg fs
  have hm1 : ms.length ≤ 1048576 := by omega
  have hm2 : cs.length ≤ 1048576 := by omega
  have hm3 : fs.length ≤ 1048576 := by omega
  have HSM := hide (fun i (hi : i < ms.length) => sm_of (m := ms.getD i Rm.zero) (by have := cnt_le hi; omega))
  have HTB := hide (show (ms.length : Int) + tot ms + cs.length + fs.length + totF fs ≤ 1048576 by omega)
  have HGZ := hide hx5
  clear hs0 hs1 t0_ t1_ hx1 hx2 hx3 hx4 hx5
  have HTP := hide (totK_pos ms cs fs)
  have HTK := hide (totK_le (ms := ms) (cs := cs) (fs := fs) (unhide HTB))
  have hol : (errA (netB ms cs fs t) ms).length ≤ 1048576 := (by unfold errA; split <;> simp; omega)
  obtain ⟨v0, hv0_⟩ : ∃ v0, netB ms cs fs t = v0 := ⟨_, rfl⟩
  have Hv0 := hide hv0_
  clear hv0_
  have nv0 : (v0 != v0) = false := by simp
  obtain ⟨v2, hv2_⟩ : ∃ v2, (if v0 = true then (0 : Int) else 1) = v2 := ⟨_, rfl⟩
  have Hv2 := hide hv2_
  clear hv2_
  have nv2 : (v2 != v2) = false := by simp
  obtain ⟨k0_0, k0_1, k0_2, k0_3⟩ := unhide Q1
  go_wp2_with fail
  clear k0_0 k0_1 k0_2 k0_3
  refine (toNt a b d ca cb cd t ms ps cs fs _ hm1 hm2 hm3 (unhide HSM) (unhide HR1) ((unhide HI1)) (unhide HZ1)).mono ?_
  rintro e w2 ⟨s1, s2, s3, sq, rfl, b2, o_⟩
  have B2 := B1.trans (b2.mono B1.size)
  have sz2 : w1.heap.size ≤ w2.heap.size := b2.size
  have Q2 := hide ((unhide Q1).below b2)
  have HR2 := hide ((unhide HR1).below b2)
  have HI2 := hide ((unhide HI1).below b2)
  have HZ2 := hide ((unhide HZ1).below b2)
  clear Q1 HR1 HI1 HZ1
  have S2 := hide o_
  clear o_
  go_wp2_with fail
  refine (specER _ _ _ _ _ _ t ms _ cs fs  _ hm1 hm2 hm3 (unhide HSM) (unhide HGZ) (unhide S2).nr (unhide S2).ri (unhide S2).rf).mono ?_
  rintro e w3 ⟨v_, rfl, b3, l_⟩
  have B3 := B2.trans (b3.mono B2.size)
  have sz3 : w2.heap.size ≤ w3.heap.size := b3.size
  have Q3 := hide ((unhide Q2).below b3)
  have HR3 := hide ((unhide HR2).below b3)
  have HI3 := hide ((unhide HI2).below b3)
  have HZ3 := hide ((unhide HZ2).below b3)
  have S3 := hide ((unhide S2).below b3)
  clear Q2 HR2 HI2 HZ2 S2
  obtain ⟨aW3, cW3, rfl, L_⟩ := l_
  have W3 := hide L_
  clear L_
  obtain ⟨LL, hLL⟩ : ∃ LL, errA (netB ms cs fs t) ms = LL := ⟨_, rfl⟩
  have HLL := hide hLL
  rw [hLL] at hol W3
  clear hLL
  try rw [unhide HLL]
  rw [unhide Hv0, unhide Hv2]
  clear S3
  obtain ⟨k0_0, k0_1, k0_2, k0_3⟩ := unhide Q3
  go_wp2_with fail
  clear k0_0 k0_1 k0_2 k0_3
  refine (toNt a b d ca cb cd t ms ps cs fs _ hm1 hm2 hm3 (unhide HSM) (unhide HR3) ((unhide HI3)) (unhide HZ3)).mono ?_
  rintro e w4 ⟨x1, x2, x3, xq, rfl, b4, o_⟩
  have B4 := B3.trans (b4.mono B3.size)
  have sz4 : w3.heap.size ≤ w4.heap.size := b4.size
  have Q4 := hide ((unhide Q3).below b4)
  have HR4 := hide ((unhide HR3).below b4)
  have HI4 := hide ((unhide HI3).below b4)
  have HZ4 := hide ((unhide HZ3).below b4)
  have W4 := hide ((unhide W3).below b4)
  clear Q3 HR3 HI3 HZ3 W3
  have X4 := hide o_
  clear o_
  have b5 := bel_new w4 (.cells #[.slice (some ⟨x1, 0, none⟩) ms.length ms.length, .slice (some ⟨x2, 0, none⟩) cs.length cs.length, .slice (some ⟨x3, 0, none⟩) fs.length fs.length, .int .i64 t] 31)
  have B5 := B4.trans (b5.mono B4.size)
  have sz5 : w4.heap.size ≤ (w4.alloc (.cells #[.slice (some ⟨x1, 0, none⟩) ms.length ms.length, .slice (some ⟨x2, 0, none⟩) cs.length cs.length, .slice (some ⟨x3, 0, none⟩) fs.length fs.length, .int .i64 t] 31)).heap.size := b5.size
  have Q5 := hide ((unhide Q4).below b5)
  have HR5 := hide ((unhide HR4).below b5)
  have HI5 := hide ((unhide HI4).below b5)
  have HZ5 := hide ((unhide HZ4).below b5)
  have W5 := hide ((unhide W4).below b5)
  have X5 := hide ((unhide X4).below b5)
  clear Q4 HR4 HI4 HZ4 W4 X4
  have V5 := hide (nb_new w4 (.slice (some ⟨x1, 0, none⟩) ms.length ms.length) (.slice (some ⟨x2, 0, none⟩) cs.length cs.length) (.slice (some ⟨x3, 0, none⟩) fs.length fs.length) t 31)
  obtain ⟨k0_0, k0_1, k0_2, k0_3⟩ := unhide V5
  go_wp2_with fail
  clear k0_0 k0_1 k0_2 k0_3
  generalize hW_ : (w4.alloc (.cells #[.slice (some ⟨x1, 0, none⟩) ms.length ms.length, .slice (some ⟨x2, 0, none⟩) cs.length cs.length, .slice (some ⟨x3, 0, none⟩) fs.length fs.length, .int .i64 t] 31)) = w5 at *
  clear hW_
  refine (implER _ _ _ _ _ _ t ms _ cs fs  _ hm1 hm2 hm3 (unhide HSM) (unhide HGZ) (unhide X5).nr (unhide X5).ri (unhide X5).rf).mono ?_
  rintro e w6 ⟨v_, rfl, b6, l_⟩
  have B6 := B5.trans (b6.mono B5.size)
  have sz6 : w5.heap.size ≤ w6.heap.size := b6.size
  have Q6 := hide ((unhide Q5).below b6)
  have HR6 := hide ((unhide HR5).below b6)
  have HI6 := hide ((unhide HI5).below b6)
  have HZ6 := hide ((unhide HZ5).below b6)
  have W6 := hide ((unhide W5).below b6)
  have X6 := hide ((unhide X5).below b6)
  have V6 := hide ((unhide V5).below b6)
  clear Q5 HR5 HI5 HZ5 W5 X5 V5
  obtain ⟨aG6, cG6, rfl, L_⟩ := l_
  have G6 := hide L_
  clear L_
  rw [unhide HLL] at G6
  try rw [unhide HLL]
  rw [unhide Hv0, unhide Hv2]
  go_wp2_with fail
  refine (In.eqS _ _ LL _ _ _ hol (unhide G6).rm (unhide W6).rm).mono ?_
  rintro e w7 ⟨rfl, b7⟩
  have B7 := B6.trans (b7.mono B6.size)
  have sz7 : w6.heap.size ≤ w7.heap.size := b7.size
  have Q7 := hide ((unhide Q6).below b7)
  have HR7 := hide ((unhide HR6).below b7)
  have HI7 := hide ((unhide HI6).below b7)
  have HZ7 := hide ((unhide HZ6).below b7)
  have W7 := hide ((unhide W6).below b7)
  have X7 := hide ((unhide X6).below b7)
  have V7 := hide ((unhide V6).below b7)
  have G7 := hide ((unhide G6).below b7)
  clear Q6 HR6 HI6 HZ6 W6 X6 V6 G6
  obtain ⟨k0_0, k0_1, k0_2, k0_3⟩ := unhide V7
  obtain ⟨k1_0, k1_1, k1_2, k1_3⟩ := unhide Q7
  go_wp2_with fail
  clear k0_0 k0_1 k0_2 k0_3 k1_0 k1_1 k1_2 k1_3
  refine wp_region_noPanic ?_
  refine wp_region_held_drew (S := fun w' => (w'.cell? ⟨w4.heap.size, 0, none⟩ = some (.slice (some ⟨x1, 0, none⟩) ms.length ms.length) ∧ w'.cell? ⟨w4.heap.size, 1, none⟩ = some (.slice (some ⟨x2, 0, none⟩) cs.length cs.length) ∧ w'.cell? ⟨w4.heap.size, 2, none⟩ = some (.slice (some ⟨x3, 0, none⟩) fs.length fs.length) ∧ w'.cell? ⟨w4.heap.size, 3, none⟩ = some (.int .i64 t)) ∧ (w'.cell? ⟨w.heap.size, 0, none⟩ = some (.slice a ms.length ca) ∧ w'.cell? ⟨w.heap.size, 1, none⟩ = some (.slice b cs.length cb) ∧ w'.cell? ⟨w.heap.size, 2, none⟩ = some (.slice d fs.length cd) ∧ w'.cell? ⟨w.heap.size, 3, none⟩ = some (.int .i64 t))) (by kernel_rfl) (⟨unhide V7, unhide Q7⟩) (fun hHeld => ?_)
  refine Rg.t (v := .agg #[.slice (some ⟨x1, 0, none⟩) ms.length ms.length, .slice (some ⟨x2, 0, none⟩) cs.length cs.length, .slice (some ⟨x3, 0, none⟩) fs.length fs.length, .int .i64 t]) 0 41 ?_ (hv := fun w0 hSw => execNB _ rfl rfl hSw.1)
  refine Rg.t (v := .agg #[.slice a ms.length ca, .slice b cs.length cb, .slice d fs.length cd, .int .i64 t]) 1 42 ?_ (hv := fun w0 hSw => execNW _ rfl rfl hSw.2)
  (refine Rg.o 2 (fun K hK => ?_); go_simp)
  refine (toNt a b d ca cb cd t ms ps cs fs _ hm1 hm2 hm3 (unhide HSM) (unhide HR7).drew (drewI (unhide HI7)) (unhide HZ7).drew).mono ?_
  rintro e w8 ⟨y1, y2, y3, yq, rfl, b8_, o_⟩
  have b8 : Below w7.heap.size w7 w8 := (Below.refl _ _).drew.trans b8_
  have B8 := B7.trans (b8.mono B7.size)
  have sz8 : w7.heap.size ≤ w8.heap.size := b8.size
  have Q8 := hide ((unhide Q7).below b8)
  have HR8 := hide ((unhide HR7).below b8)
  have HI8 := hide ((unhide HI7).below b8)
  have HZ8 := hide ((unhide HZ7).below b8)
  have W8 := hide ((unhide W7).below b8)
  have X8 := hide ((unhide X7).below b8)
  have V8 := hide ((unhide V7).below b8)
  have G8 := hide ((unhide G7).below b8)
  clear Q7 HR7 HI7 HZ7 W7 X7 V7 G7
  have Y8 := hide o_
  clear o_
  refine hK.out _ _ (⟨unhide V8, unhide Q8⟩) (fun hHeld => ?_)
  clear hK K
  (try simp only [Act.put, List.setIfInBounds_toArray, List.set_cons_zero, List.set_cons_succ])
  (refine Rg.o 3 (fun K hK => ?_); go_simp)
  refine (eqNt _ _ _ _ _ _ _ _ _ _ _ _ t ms _ _ cs fs _ hm1 hm2 hm3 (unhide HSM) (unhide X8).nr (unhide Y8).nr (unhide X8).ri (unhide Y8).ri (unhide X8).rf (unhide Y8).rf).mono ?_
  rintro e w9 ⟨rfl, b9⟩
  have B9 := B8.trans (b9.mono B8.size)
  have sz9 : w8.heap.size ≤ w9.heap.size := b9.size
  have Q9 := hide ((unhide Q8).below b9)
  have HR9 := hide ((unhide HR8).below b9)
  have HI9 := hide ((unhide HI8).below b9)
  have HZ9 := hide ((unhide HZ8).below b9)
  have W9 := hide ((unhide W8).below b9)
  have X9 := hide ((unhide X8).below b9)
  have V9 := hide ((unhide V8).below b9)
  have G9 := hide ((unhide G8).below b9)
  have Y9 := hide ((unhide Y8).below b9)
  clear Q8 HR8 HI8 HZ8 W8 X8 V8 G8 Y8
  clear Y9
  refine hK.out _ _ (⟨unhide V9, unhide Q9⟩) (fun hHeld => ?_)
  clear hK K
  (try simp only [Act.put, List.setIfInBounds_toArray, List.set_cons_zero, List.set_cons_succ])
  refine Rg.t 4 45 ?_
  refine wpAnyH_done (by kernel_rfl) (NoPanic.normal ?_) _
  clear hHeld
  obtain ⟨k0_0, k0_1, k0_2, k0_3⟩ := unhide V9
  go_wp2_with fail
  clear k0_0 k0_1 k0_2 k0_3
  refine (markNt _ _ _ _ _ _ t 1 w3.heap.size w4.heap.size ms _ cs fs _ hm1 hm2 hm3 (by omega) (unhide HTK) (unhide HSM) (by omega) (by omega) (unhide X9).mt).mono ?_
  rintro e w10 ⟨rfl, hz_, b_, _, k_⟩
  have sz10 := hz_
  have B10 := B9.trans (b_.mono (by omega))
  clear b_
  have Q10 := hide ((unhide Q9).but (k_ w.heap.size (by omega) (.inl (by omega))))
  have HR10 := hide ((unhide HRW).below B10)
  have HI10 := hide ((unhide HIW).below B10)
  have HZ10 := hide ((unhide HZW).below B10)
  have W10 := hide ((unhide W9).but (p := fun k => k < w3.heap.size ∨ w4.heap.size ≤ k) hz_ (fun k hk h => k_ k hk h) (fun k h1 h2 => by omega))
  have G10 := hide ((unhide G9).but (p := fun k => k < w3.heap.size ∨ w4.heap.size ≤ k) hz_ (fun k hk h => k_ k hk h) (fun k h1 h2 => by omega))
  clear Q9 HR9 HI9 HZ9 W9 G9
  clear V9 X9 k_ hz_
  have hpk : ¬ (1 + totK ms cs fs < 0) := by have := unhide HTP; omega
  go_wp2_with fail
  refine (In.eqS _ _ LL _ _ _ hol (unhide G10).rm (unhide W10).rm).mono ?_
  rintro e w11 ⟨rfl, b11⟩
  have B11 := B10.trans (b11.mono B10.size)
  have sz11 : w10.heap.size ≤ w11.heap.size := b11.size
  have Q11 := hide ((unhide Q10).below b11)
  have HR11 := hide ((unhide HR10).below b11)
  have HI11 := hide ((unhide HI10).below b11)
  have HZ11 := hide ((unhide HZ10).below b11)
  have W11 := hide ((unhide W10).below b11)
  have G11 := hide ((unhide G10).below b11)
  clear Q10 HR10 HI10 HZ10 W10 G10
  go_wp2_with fail
  refine (In.markF _ _ _ _ 1 LL _ (by omega) (by omega) hol (unhide G11)).mono ?_
  rintro e w12 ⟨rfl, hz_, b_, f_, k_⟩
  have sz12 := hz_
  have B12 := B11.trans (b_.mono (by omega))
  have M12 := hide f_
  clear b_ f_
  have Q12 := hide ((unhide Q11).but (k_ w.heap.size (by omega) (.inl (by omega))))
  have HR12 := hide ((unhide HRW).below B12)
  have HI12 := hide ((unhide HIW).below B12)
  have HZ12 := hide ((unhide HZW).below B12)
  have W12 := hide ((unhide W11).but (p := fun k => k < w5.heap.size ∨ w6.heap.size ≤ k) hz_ (fun k hk h => k_ k hk h) (fun k h1 h2 => by omega))
  clear Q11 HR11 HI11 HZ11 W11
  clear G11 k_ hz_
  have hpm : ¬ (1 + 1 * (LL.length : Int) < 0) := by omega
  go_wp2_with fail
  refine (In.heldF _ _ LL.length _ _ 1 _ (by omega) (by omega) hol (unhide M12)).mono ?_
  rintro e wh ⟨rfl, hwh⟩
  rw [hwh]
  clear hwh wh
  obtain ⟨k0_0, k0_1, k0_2, k0_3⟩ := unhide Q12
  go_wp2_with fail
  clear k0_0 k0_1 k0_2 k0_3
  refine (toNt a b d ca cb cd t ms ps cs fs _ hm1 hm2 hm3 (unhide HSM) (unhide HR12) ((unhide HI12)) (unhide HZ12)).mono ?_
  rintro e w13 ⟨z1, z2, z3, zq, rfl, b13, o_⟩
  have B13 := B12.trans (b13.mono B12.size)
  have sz13 : w12.heap.size ≤ w13.heap.size := b13.size
  have Q13 := hide ((unhide Q12).below b13)
  have HR13 := hide ((unhide HR12).below b13)
  have HI13 := hide ((unhide HI12).below b13)
  have HZ13 := hide ((unhide HZ12).below b13)
  have W13 := hide ((unhide W12).below b13)
  have M13 := hide ((unhide M12).below b13)
  clear Q12 HR12 HI12 HZ12 W12 M12
  have Z13 := hide o_
  clear o_
  go_wp2_with fail
  refine (implER _ _ _ _ _ _ t ms _ cs fs  _ hm1 hm2 hm3 (unhide HSM) (unhide HGZ) (unhide Z13).nr (unhide Z13).ri (unhide Z13).rf).mono ?_
  rintro e w14 ⟨v_, rfl, b14, l_⟩
  have B14 := B13.trans (b14.mono B13.size)
  have sz14 : w13.heap.size ≤ w14.heap.size := b14.size
  have Q14 := hide ((unhide Q13).below b14)
  have HR14 := hide ((unhide HR13).below b14)
  have HI14 := hide ((unhide HI13).below b14)
  have HZ14 := hide ((unhide HZ13).below b14)
  have W14 := hide ((unhide W13).below b14)
  have M14 := hide ((unhide M13).below b14)
  have Z14 := hide ((unhide Z13).below b14)
  clear Q13 HR13 HI13 HZ13 W13 M13 Z13
  obtain ⟨aH14, cH14, rfl, L_⟩ := l_
  have H14 := hide L_
  clear L_
  rw [unhide HLL] at H14
  try rw [unhide HLL]
  rw [unhide Hv0, unhide Hv2]
  go_wp2_with fail
  refine (In.eqS _ _ LL _ _ _ hol (unhide H14).rm (unhide W14).rm).mono ?_
  rintro e w15 ⟨rfl, b15⟩
  have B15 := B14.trans (b15.mono B14.size)
  have sz15 : w14.heap.size ≤ w15.heap.size := b15.size
  have Q15 := hide ((unhide Q14).below b15)
  have HR15 := hide ((unhide HR14).below b15)
  have HI15 := hide ((unhide HI14).below b15)
  have HZ15 := hide ((unhide HZ14).below b15)
  have W15 := hide ((unhide W14).below b15)
  have M15 := hide ((unhide M14).below b15)
  have Z15 := hide ((unhide Z14).below b15)
  have H15 := hide ((unhide H14).below b15)
  clear Q14 HR14 HI14 HZ14 W14 M14 Z14 H14
  go_wp2_with fail
  refine (In.heldF _ _ LL.length _ _ 1 _ (by omega) (by omega) hol (unhide M15)).mono ?_
  rintro e wh ⟨rfl, hwh⟩
  rw [hwh]
  clear hwh wh
  have HF := hide B15
  go_wp2_with fail
  go_ret
  exact ⟨rfl, unhide HF⟩

end Go.Proofs.YtfooahhdikobeaaGreat.fnExactErrorsOf
