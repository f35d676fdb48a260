/-
  Of the texts RtrD, LnkM, LnkI, Mpl, LnkA, LnkK, LnkP, LnkH, SetG, TopC, TopW: what this claim needs of them. (put together by mkprune.py)
-/
import Derived.Test.YtiipppfkpgbpeaaGreatQc3
import Derived.Deep.QuietTactic
import Derived.BigQuiet
import Derived.Maps.OwnSet
import Derived.DeepKeys4
import Derived.Lib.AppendZeros
import Derived.Deep.DeepCutAuto
import Derived.Laws.AppendOwn
namespace Go.Proofs.YtiipppfkpgbpeaaGreat
open Go.ChangeShapes Go.WideShapes Go.ChangeAt Go.RowKit
set_option linter.unusedVariables false
set_option linter.unusedSimpArgs false
set_option maxRecDepth 100000
attribute [local go_sem ↓] Go.wp_at_zero Go.wp_at_succ
namespace Rt
open W1
/-- Two intervals that have nothing in common. -/
def Dj (p q r s : Nat) : Prop := q ≤ r ∨ s ≤ p
theorem Dj.sym {p q r s : Nat} (h : Dj p q r s) : Dj r s p q := Or.elim h .inr .inl
theorem Dj.use {p q r s : Nat} (h : Dj p q r s) : ∀ k, p ≤ k → k < q → k < r ∨ s ≤ k := fun k h1 h2 => by unfold Dj at h; omega
/-- An interval without blocks of a kind. -/
def Fr (p q : Nat) (X : Nat → Prop) : Prop := ∀ k, p ≤ k → k < q → ¬ X k
/-- Seven lists in intervals of their own, which have none of the blocks X. -/
def Sev (W : World) (lo hi : Nat) (X : Nat → Prop) (a1 a2 a3 a4 a5 a6 a7 : Option Addr) (ls : List Lk.R) (tw : List Tu.R) (se : List Tu.R) (du : List Tu.R) (ss : List So.R) (es : List Tu.R) (la : List Ed.R) : Prop :=
  ∃ p1 q1 p2 q2 p3 q3 p4 q4 p5 q5 p6 q6 p7 q7 : Nat, ((lo ≤ p1 ∧ p1 ≤ q1 ∧ q1 ≤ hi) ∧ (lo ≤ p2 ∧ p2 ≤ q2 ∧ q2 ≤ hi) ∧ (lo ≤ p3 ∧ p3 ≤ q3 ∧ q3 ≤ hi) ∧ (lo ≤ p4 ∧ p4 ≤ q4 ∧ q4 ≤ hi) ∧ (lo ≤ p5 ∧ p5 ≤ q5 ∧ q5 ≤ hi) ∧ (lo ≤ p6 ∧ p6 ≤ q6 ∧ q6 ≤ hi) ∧ (lo ≤ p7 ∧ p7 ≤ q7 ∧ q7 ≤ hi)) ∧ (Dj p1 q1 p2 q2 ∧ Dj p1 q1 p3 q3 ∧ Dj p1 q1 p4 q4 ∧ Dj p1 q1 p5 q5 ∧ Dj p1 q1 p6 q6 ∧ Dj p1 q1 p7 q7 ∧ Dj p2 q2 p3 q3 ∧ Dj p2 q2 p4 q4 ∧ Dj p2 q2 p5 q5 ∧ Dj p2 q2 p6 q6 ∧ Dj p2 q2 p7 q7 ∧ Dj p3 q3 p4 q4 ∧ Dj p3 q3 p5 q5 ∧ Dj p3 q3 p6 q6 ∧ Dj p3 q3 p7 q7 ∧ Dj p4 q4 p5 q5 ∧ Dj p4 q4 p6 q6 ∧ Dj p4 q4 p7 q7 ∧ Dj p5 q5 p6 q6 ∧ Dj p5 q5 p7 q7 ∧ Dj p6 q6 p7 q7) ∧ (Fr p1 q1 X ∧ Fr p2 q2 X ∧ Fr p3 q3 X ∧ Fr p4 q4 X ∧ Fr p5 q5 X ∧ Fr p6 q6 X ∧ Fr p7 q7 X) ∧ Lk.Lst W a1 (ls) p1 q1 ∧ Tu.Lst W a2 (tw) p2 q2 ∧ Tu.Lst W a3 (se) p3 q3 ∧ Tu.Lst W a4 (du) p4 q4 ∧ So.Lst W a5 (ss) p5 q5 ∧ Tu.Lst W a6 (es) p6 q6 ∧ Ed.Lst W a7 (la) p7 q7
theorem Sev.below {W W' : World} {lo hi : Nat} {X : Nat → Prop} {a1 a2 a3 a4 a5 a6 a7 : Option Addr} {ls : List Lk.R} {tw : List Tu.R} {se : List Tu.R} {du : List Tu.R} {ss : List So.R} {es : List Tu.R} {la : List Ed.R} (h : Sev W lo hi X a1 a2 a3 a4 a5 a6 a7 ls tw se du ss es la) (hb : Below W.heap.size W W') : Sev W' lo hi X a1 a2 a3 a4 a5 a6 a7 ls tw se du ss es la := by
  obtain ⟨p1, q1, p2, q2, p3, q3, p4, q4, p5, q5, p6, q6, p7, q7, ⟨⟨u1, v1, w1⟩, ⟨u2, v2, w2⟩, ⟨u3, v3, w3⟩, ⟨u4, v4, w4⟩, ⟨u5, v5, w5⟩, ⟨u6, v6, w6⟩, ⟨u7, v7, w7⟩⟩, ⟨d12, d13, d14, d15, d16, d17, d23, d24, d25, d26, d27, d34, d35, d36, d37, d45, d46, d47, d56, d57, d67⟩, ⟨xx1, xx2, xx3, xx4, xx5, xx6, xx7⟩, h1, h2, h3, h4, h5, h6, h7⟩ := h
  exact ⟨p1, q1, p2, q2, p3, q3, p4, q4, p5, q5, p6, q6, p7, q7, ⟨⟨u1, v1, w1⟩, ⟨u2, v2, w2⟩, ⟨u3, v3, w3⟩, ⟨u4, v4, w4⟩, ⟨u5, v5, w5⟩, ⟨u6, v6, w6⟩, ⟨u7, v7, w7⟩⟩, ⟨d12, d13, d14, d15, d16, d17, d23, d24, d25, d26, d27, d34, d35, d36, d37, d45, d46, d47, d56, d57, d67⟩, ⟨xx1, xx2, xx3, xx4, xx5, xx6, xx7⟩, h1.below hb, h2.below hb, h3.below hb, h4.below hb, h5.below hb, h6.below hb, h7.below hb⟩
theorem Sev.mono {W : World} {lo hi lo' hi' : Nat} {X : Nat → Prop} {a1 a2 a3 a4 a5 a6 a7 : Option Addr} {ls : List Lk.R} {tw : List Tu.R} {se : List Tu.R} {du : List Tu.R} {ss : List So.R} {es : List Tu.R} {la : List Ed.R} (h : Sev W lo hi X a1 a2 a3 a4 a5 a6 a7 ls tw se du ss es la) (hl : lo' ≤ lo) (hh : hi ≤ hi') : Sev W lo' hi' X a1 a2 a3 a4 a5 a6 a7 ls tw se du ss es la := by
  obtain ⟨p1, q1, p2, q2, p3, q3, p4, q4, p5, q5, p6, q6, p7, q7, ⟨⟨u1, v1, w1⟩, ⟨u2, v2, w2⟩, ⟨u3, v3, w3⟩, ⟨u4, v4, w4⟩, ⟨u5, v5, w5⟩, ⟨u6, v6, w6⟩, ⟨u7, v7, w7⟩⟩, ⟨d12, d13, d14, d15, d16, d17, d23, d24, d25, d26, d27, d34, d35, d36, d37, d45, d46, d47, d56, d57, d67⟩, ⟨xx1, xx2, xx3, xx4, xx5, xx6, xx7⟩, h1, h2, h3, h4, h5, h6, h7⟩ := h
  exact ⟨p1, q1, p2, q2, p3, q3, p4, q4, p5, q5, p6, q6, p7, q7, ⟨⟨Nat.le_trans hl u1, v1, Nat.le_trans w1 hh⟩, ⟨Nat.le_trans hl u2, v2, Nat.le_trans w2 hh⟩, ⟨Nat.le_trans hl u3, v3, Nat.le_trans w3 hh⟩, ⟨Nat.le_trans hl u4, v4, Nat.le_trans w4 hh⟩, ⟨Nat.le_trans hl u5, v5, Nat.le_trans w5 hh⟩, ⟨Nat.le_trans hl u6, v6, Nat.le_trans w6 hh⟩, ⟨Nat.le_trans hl u7, v7, Nat.le_trans w7 hh⟩⟩, ⟨d12, d13, d14, d15, d16, d17, d23, d24, d25, d26, d27, d34, d35, d36, d37, d45, d46, d47, d56, d57, d67⟩, ⟨xx1, xx2, xx3, xx4, xx5, xx6, xx7⟩, h1, h2, h3, h4, h5, h6, h7⟩
/-- Other blocks beside the lists, above them or below them. -/
theorem Sev.aside {W : World} {lo hi : Nat} {X Y : Nat → Prop} {a1 a2 a3 a4 a5 a6 a7 : Option Addr} {ls : List Lk.R} {tw : List Tu.R} {se : List Tu.R} {du : List Tu.R} {ss : List So.R} {es : List Tu.R} {la : List Ed.R} (h : Sev W lo hi X a1 a2 a3 a4 a5 a6 a7 ls tw se du ss es la) (hd : ∀ k, Y k → hi ≤ k ∨ k < lo ∨ X k) : Sev W lo hi Y a1 a2 a3 a4 a5 a6 a7 ls tw se du ss es la := by
  obtain ⟨p1, q1, p2, q2, p3, q3, p4, q4, p5, q5, p6, q6, p7, q7, ⟨⟨u1, v1, w1⟩, ⟨u2, v2, w2⟩, ⟨u3, v3, w3⟩, ⟨u4, v4, w4⟩, ⟨u5, v5, w5⟩, ⟨u6, v6, w6⟩, ⟨u7, v7, w7⟩⟩, ⟨d12, d13, d14, d15, d16, d17, d23, d24, d25, d26, d27, d34, d35, d36, d37, d45, d46, d47, d56, d57, d67⟩, ⟨xx1, xx2, xx3, xx4, xx5, xx6, xx7⟩, h1, h2, h3, h4, h5, h6, h7⟩ := h
  exact ⟨p1, q1, p2, q2, p3, q3, p4, q4, p5, q5, p6, q6, p7, q7, ⟨⟨u1, v1, w1⟩, ⟨u2, v2, w2⟩, ⟨u3, v3, w3⟩, ⟨u4, v4, w4⟩, ⟨u5, v5, w5⟩, ⟨u6, v6, w6⟩, ⟨u7, v7, w7⟩⟩, ⟨d12, d13, d14, d15, d16, d17, d23, d24, d25, d26, d27, d34, d35, d36, d37, d45, d46, d47, d56, d57, d67⟩, ⟨(fun k h1 h2 hy => Or.elim (hd k hy) (fun h => by omega) (fun h => Or.elim h (fun h => by omega) (fun h => xx1 k h1 h2 h))), (fun k h1 h2 hy => Or.elim (hd k hy) (fun h => by omega) (fun h => Or.elim h (fun h => by omega) (fun h => xx2 k h1 h2 h))), (fun k h1 h2 hy => Or.elim (hd k hy) (fun h => by omega) (fun h => Or.elim h (fun h => by omega) (fun h => xx3 k h1 h2 h))), (fun k h1 h2 hy => Or.elim (hd k hy) (fun h => by omega) (fun h => Or.elim h (fun h => by omega) (fun h => xx4 k h1 h2 h))), (fun k h1 h2 hy => Or.elim (hd k hy) (fun h => by omega) (fun h => Or.elim h (fun h => by omega) (fun h => xx5 k h1 h2 h))), (fun k h1 h2 hy => Or.elim (hd k hy) (fun h => by omega) (fun h => Or.elim h (fun h => by omega) (fun h => xx6 k h1 h2 h))), (fun k h1 h2 hy => Or.elim (hd k hy) (fun h => by omega) (fun h => Or.elim h (fun h => by omega) (fun h => xx7 k h1 h2 h)))⟩, h1, h2, h3, h4, h5, h6, h7⟩
theorem Sev.but {W W' : World} {lo hi L H : Nat} {X : Nat → Prop} {a1 a2 a3 a4 a5 a6 a7 : Option Addr} {ls : List Lk.R} {tw : List Tu.R} {se : List Tu.R} {du : List Tu.R} {ss : List So.R} {es : List Tu.R} {la : List Ed.R} (h : Sev W lo hi X a1 a2 a3 a4 a5 a6 a7 ls tw se du ss es la) (hs : W.heap.size ≤ W'.heap.size) (hb : ∀ k, k < W.heap.size → (k < L ∨ H ≤ k) → W'.heap[k]? = W.heap[k]?) (hd : hi ≤ L ∨ H ≤ lo) : Sev W' lo hi X a1 a2 a3 a4 a5 a6 a7 ls tw se du ss es la := by
  obtain ⟨p1, q1, p2, q2, p3, q3, p4, q4, p5, q5, p6, q6, p7, q7, ⟨⟨u1, v1, w1⟩, ⟨u2, v2, w2⟩, ⟨u3, v3, w3⟩, ⟨u4, v4, w4⟩, ⟨u5, v5, w5⟩, ⟨u6, v6, w6⟩, ⟨u7, v7, w7⟩⟩, ⟨d12, d13, d14, d15, d16, d17, d23, d24, d25, d26, d27, d34, d35, d36, d37, d45, d46, d47, d56, d57, d67⟩, ⟨xx1, xx2, xx3, xx4, xx5, xx6, xx7⟩, h1, h2, h3, h4, h5, h6, h7⟩ := h
  exact ⟨p1, q1, p2, q2, p3, q3, p4, q4, p5, q5, p6, q6, p7, q7, ⟨⟨u1, v1, w1⟩, ⟨u2, v2, w2⟩, ⟨u3, v3, w3⟩, ⟨u4, v4, w4⟩, ⟨u5, v5, w5⟩, ⟨u6, v6, w6⟩, ⟨u7, v7, w7⟩⟩, ⟨d12, d13, d14, d15, d16, d17, d23, d24, d25, d26, d27, d34, d35, d36, d37, d45, d46, d47, d56, d57, d67⟩, ⟨xx1, xx2, xx3, xx4, xx5, xx6, xx7⟩, h1.but (p := fun k => k < L ∨ H ≤ k) hs (fun k hk h => hb k hk h) (fun k h1 h2 => by omega), h2.but (p := fun k => k < L ∨ H ≤ k) hs (fun k hk h => hb k hk h) (fun k h1 h2 => by omega), h3.but (p := fun k => k < L ∨ H ≤ k) hs (fun k hk h => hb k hk h) (fun k h1 h2 => by omega), h4.but (p := fun k => k < L ∨ H ≤ k) hs (fun k hk h => hb k hk h) (fun k h1 h2 => by omega), h5.but (p := fun k => k < L ∨ H ≤ k) hs (fun k hk h => hb k hk h) (fun k h1 h2 => by omega), h6.but (p := fun k => k < L ∨ H ≤ k) hs (fun k hk h => hb k hk h) (fun k h1 h2 => by omega), h7.but (p := fun k => k < L ∨ H ≤ k) hs (fun k hk h => hb k hk h) (fun k h1 h2 => by omega)⟩
/-- What happens in those blocks leaves them alone. -/
theorem Sev.butX {W W' : World} {lo hi : Nat} {X : Nat → Prop} {a1 a2 a3 a4 a5 a6 a7 : Option Addr} {ls : List Lk.R} {tw : List Tu.R} {se : List Tu.R} {du : List Tu.R} {ss : List So.R} {es : List Tu.R} {la : List Ed.R} (h : Sev W lo hi X a1 a2 a3 a4 a5 a6 a7 ls tw se du ss es la) (hs : W.heap.size ≤ W'.heap.size) (hb : ∀ k, k < W.heap.size → ¬ X k → W'.heap[k]? = W.heap[k]?) : Sev W' lo hi X a1 a2 a3 a4 a5 a6 a7 ls tw se du ss es la := by
  obtain ⟨p1, q1, p2, q2, p3, q3, p4, q4, p5, q5, p6, q6, p7, q7, ⟨⟨u1, v1, w1⟩, ⟨u2, v2, w2⟩, ⟨u3, v3, w3⟩, ⟨u4, v4, w4⟩, ⟨u5, v5, w5⟩, ⟨u6, v6, w6⟩, ⟨u7, v7, w7⟩⟩, ⟨d12, d13, d14, d15, d16, d17, d23, d24, d25, d26, d27, d34, d35, d36, d37, d45, d46, d47, d56, d57, d67⟩, ⟨xx1, xx2, xx3, xx4, xx5, xx6, xx7⟩, h1, h2, h3, h4, h5, h6, h7⟩ := h
  exact ⟨p1, q1, p2, q2, p3, q3, p4, q4, p5, q5, p6, q6, p7, q7, ⟨⟨u1, v1, w1⟩, ⟨u2, v2, w2⟩, ⟨u3, v3, w3⟩, ⟨u4, v4, w4⟩, ⟨u5, v5, w5⟩, ⟨u6, v6, w6⟩, ⟨u7, v7, w7⟩⟩, ⟨d12, d13, d14, d15, d16, d17, d23, d24, d25, d26, d27, d34, d35, d36, d37, d45, d46, d47, d56, d57, d67⟩, ⟨xx1, xx2, xx3, xx4, xx5, xx6, xx7⟩, h1.but (p := fun k => ¬ X k) hs (fun k hk h => hb k hk h) xx1, h2.but (p := fun k => ¬ X k) hs (fun k hk h => hb k hk h) xx2, h3.but (p := fun k => ¬ X k) hs (fun k hk h => hb k hk h) xx3, h4.but (p := fun k => ¬ X k) hs (fun k hk h => hb k hk h) xx4, h5.but (p := fun k => ¬ X k) hs (fun k hk h => hb k hk h) xx5, h6.but (p := fun k => ¬ X k) hs (fun k hk h => hb k hk h) xx6, h7.but (p := fun k => ¬ X k) hs (fun k hk h => hb k hk h) xx7⟩
theorem Sev.set {W : World} {lo hi : Nat} {X : Nat → Prop} {a1 a2 a3 a4 a5 a6 a7 : Option Addr} {ls : List Lk.R} {tw : List Tu.R} {se : List Tu.R} {du : List Tu.R} {ss : List So.R} {es : List Tu.R} {la : List Ed.R} (h : Sev W lo hi X a1 a2 a3 a4 a5 a6 a7 ls tw se du ss es la) {a : Addr} (v : Value) (h1 : X a.block) : Sev (W.setCell a v) lo hi X a1 a2 a3 a4 a5 a6 a7 ls tw se du ss es la :=
  h.butX (by simp [World.setCell]) (fun k _ hk => Below.heap_setCell _ _ _ _ (fun e => hk (e ▸ h1)))
theorem Sev.of {W : World} {lo hi : Nat} {X : Nat → Prop} {a1 a2 a3 a4 a5 a6 a7 : Option Addr} {ls : List Lk.R} {tw : List Tu.R} {se : List Tu.R} {du : List Tu.R} {ss : List So.R} {es : List Tu.R} {la : List Ed.R} (h : RL W lo hi a1 a2 a3 a4 a5 a6 a7 ls tw se du ss es la) (hd : ∀ k, X k → hi ≤ k ∨ k < lo) : Sev W lo hi X a1 a2 a3 a4 a5 a6 a7 ls tw se du ss es la := by
  obtain ⟨b1, b2, b3, b4, b5, b6, ⟨o0, o1, o2, o3, o4, o5, o6⟩, h1, h2, h3, h4, h5, h6, h7⟩ := h
  exact ⟨lo, b1, b1, b2, b2, b3, b3, b4, b4, b5, b5, b6, b6, hi, ⟨⟨by omega, by omega, by omega⟩, ⟨by omega, by omega, by omega⟩, ⟨by omega, by omega, by omega⟩, ⟨by omega, by omega, by omega⟩, ⟨by omega, by omega, by omega⟩, ⟨by omega, by omega, by omega⟩, ⟨by omega, by omega, by omega⟩⟩, ⟨(by unfold Dj; omega), (by unfold Dj; omega), (by unfold Dj; omega), (by unfold Dj; omega), (by unfold Dj; omega), (by unfold Dj; omega), (by unfold Dj; omega), (by unfold Dj; omega), (by unfold Dj; omega), (by unfold Dj; omega), (by unfold Dj; omega), (by unfold Dj; omega), (by unfold Dj; omega), (by unfold Dj; omega), (by unfold Dj; omega), (by unfold Dj; omega), (by unfold Dj; omega), (by unfold Dj; omega), (by unfold Dj; omega), (by unfold Dj; omega), (by unfold Dj; omega)⟩, ⟨(fun k h1 h2 hx => by have := hd k hx; omega), (fun k h1 h2 hx => by have := hd k hx; omega), (fun k h1 h2 hx => by have := hd k hx; omega), (fun k h1 h2 hx => by have := hd k hx; omega), (fun k h1 h2 hx => by have := hd k hx; omega), (fun k h1 h2 hx => by have := hd k hx; omega), (fun k h1 h2 hx => by have := hd k hx; omega)⟩, h1, h2, h3, h4, h5, h6, h7⟩
theorem Sev.r1 {W : World} {lo hi : Nat} {X : Nat → Prop} {a1 a2 a3 a4 a5 a6 a7 : Option Addr} {ls : List Lk.R} {tw : List Tu.R} {se : List Tu.R} {du : List Tu.R} {ss : List So.R} {es : List Tu.R} {la : List Ed.R} (h : Sev W lo hi X a1 a2 a3 a4 a5 a6 a7 ls tw se du ss es la) : Lk.RM W a1 ls := by obtain ⟨p1, q1, p2, q2, p3, q3, p4, q4, p5, q5, p6, q6, p7, q7, ⟨⟨u1, v1, w1⟩, ⟨u2, v2, w2⟩, ⟨u3, v3, w3⟩, ⟨u4, v4, w4⟩, ⟨u5, v5, w5⟩, ⟨u6, v6, w6⟩, ⟨u7, v7, w7⟩⟩, ⟨d12, d13, d14, d15, d16, d17, d23, d24, d25, d26, d27, d34, d35, d36, d37, d45, d46, d47, d56, d57, d67⟩, ⟨xx1, xx2, xx3, xx4, xx5, xx6, xx7⟩, h1, h2, h3, h4, h5, h6, h7⟩ := h; exact h1.rm
theorem Sev.r2 {W : World} {lo hi : Nat} {X : Nat → Prop} {a1 a2 a3 a4 a5 a6 a7 : Option Addr} {ls : List Lk.R} {tw : List Tu.R} {se : List Tu.R} {du : List Tu.R} {ss : List So.R} {es : List Tu.R} {la : List Ed.R} (h : Sev W lo hi X a1 a2 a3 a4 a5 a6 a7 ls tw se du ss es la) : Tu.RM W a2 tw := by obtain ⟨p1, q1, p2, q2, p3, q3, p4, q4, p5, q5, p6, q6, p7, q7, ⟨⟨u1, v1, w1⟩, ⟨u2, v2, w2⟩, ⟨u3, v3, w3⟩, ⟨u4, v4, w4⟩, ⟨u5, v5, w5⟩, ⟨u6, v6, w6⟩, ⟨u7, v7, w7⟩⟩, ⟨d12, d13, d14, d15, d16, d17, d23, d24, d25, d26, d27, d34, d35, d36, d37, d45, d46, d47, d56, d57, d67⟩, ⟨xx1, xx2, xx3, xx4, xx5, xx6, xx7⟩, h1, h2, h3, h4, h5, h6, h7⟩ := h; exact h2.rm
theorem Sev.r3 {W : World} {lo hi : Nat} {X : Nat → Prop} {a1 a2 a3 a4 a5 a6 a7 : Option Addr} {ls : List Lk.R} {tw : List Tu.R} {se : List Tu.R} {du : List Tu.R} {ss : List So.R} {es : List Tu.R} {la : List Ed.R} (h : Sev W lo hi X a1 a2 a3 a4 a5 a6 a7 ls tw se du ss es la) : Tu.RM W a3 se := by obtain ⟨p1, q1, p2, q2, p3, q3, p4, q4, p5, q5, p6, q6, p7, q7, ⟨⟨u1, v1, w1⟩, ⟨u2, v2, w2⟩, ⟨u3, v3, w3⟩, ⟨u4, v4, w4⟩, ⟨u5, v5, w5⟩, ⟨u6, v6, w6⟩, ⟨u7, v7, w7⟩⟩, ⟨d12, d13, d14, d15, d16, d17, d23, d24, d25, d26, d27, d34, d35, d36, d37, d45, d46, d47, d56, d57, d67⟩, ⟨xx1, xx2, xx3, xx4, xx5, xx6, xx7⟩, h1, h2, h3, h4, h5, h6, h7⟩ := h; exact h3.rm
theorem Sev.r4 {W : World} {lo hi : Nat} {X : Nat → Prop} {a1 a2 a3 a4 a5 a6 a7 : Option Addr} {ls : List Lk.R} {tw : List Tu.R} {se : List Tu.R} {du : List Tu.R} {ss : List So.R} {es : List Tu.R} {la : List Ed.R} (h : Sev W lo hi X a1 a2 a3 a4 a5 a6 a7 ls tw se du ss es la) : Tu.RM W a4 du := by obtain ⟨p1, q1, p2, q2, p3, q3, p4, q4, p5, q5, p6, q6, p7, q7, ⟨⟨u1, v1, w1⟩, ⟨u2, v2, w2⟩, ⟨u3, v3, w3⟩, ⟨u4, v4, w4⟩, ⟨u5, v5, w5⟩, ⟨u6, v6, w6⟩, ⟨u7, v7, w7⟩⟩, ⟨d12, d13, d14, d15, d16, d17, d23, d24, d25, d26, d27, d34, d35, d36, d37, d45, d46, d47, d56, d57, d67⟩, ⟨xx1, xx2, xx3, xx4, xx5, xx6, xx7⟩, h1, h2, h3, h4, h5, h6, h7⟩ := h; exact h4.rm
theorem Sev.r5 {W : World} {lo hi : Nat} {X : Nat → Prop} {a1 a2 a3 a4 a5 a6 a7 : Option Addr} {ls : List Lk.R} {tw : List Tu.R} {se : List Tu.R} {du : List Tu.R} {ss : List So.R} {es : List Tu.R} {la : List Ed.R} (h : Sev W lo hi X a1 a2 a3 a4 a5 a6 a7 ls tw se du ss es la) : So.RM W a5 ss := by obtain ⟨p1, q1, p2, q2, p3, q3, p4, q4, p5, q5, p6, q6, p7, q7, ⟨⟨u1, v1, w1⟩, ⟨u2, v2, w2⟩, ⟨u3, v3, w3⟩, ⟨u4, v4, w4⟩, ⟨u5, v5, w5⟩, ⟨u6, v6, w6⟩, ⟨u7, v7, w7⟩⟩, ⟨d12, d13, d14, d15, d16, d17, d23, d24, d25, d26, d27, d34, d35, d36, d37, d45, d46, d47, d56, d57, d67⟩, ⟨xx1, xx2, xx3, xx4, xx5, xx6, xx7⟩, h1, h2, h3, h4, h5, h6, h7⟩ := h; exact h5.rm
theorem Sev.r6 {W : World} {lo hi : Nat} {X : Nat → Prop} {a1 a2 a3 a4 a5 a6 a7 : Option Addr} {ls : List Lk.R} {tw : List Tu.R} {se : List Tu.R} {du : List Tu.R} {ss : List So.R} {es : List Tu.R} {la : List Ed.R} (h : Sev W lo hi X a1 a2 a3 a4 a5 a6 a7 ls tw se du ss es la) : Tu.RM W a6 es := by obtain ⟨p1, q1, p2, q2, p3, q3, p4, q4, p5, q5, p6, q6, p7, q7, ⟨⟨u1, v1, w1⟩, ⟨u2, v2, w2⟩, ⟨u3, v3, w3⟩, ⟨u4, v4, w4⟩, ⟨u5, v5, w5⟩, ⟨u6, v6, w6⟩, ⟨u7, v7, w7⟩⟩, ⟨d12, d13, d14, d15, d16, d17, d23, d24, d25, d26, d27, d34, d35, d36, d37, d45, d46, d47, d56, d57, d67⟩, ⟨xx1, xx2, xx3, xx4, xx5, xx6, xx7⟩, h1, h2, h3, h4, h5, h6, h7⟩ := h; exact h6.rm
theorem Sev.r7 {W : World} {lo hi : Nat} {X : Nat → Prop} {a1 a2 a3 a4 a5 a6 a7 : Option Addr} {ls : List Lk.R} {tw : List Tu.R} {se : List Tu.R} {du : List Tu.R} {ss : List So.R} {es : List Tu.R} {la : List Ed.R} (h : Sev W lo hi X a1 a2 a3 a4 a5 a6 a7 ls tw se du ss es la) : Ed.RM W a7 la := by obtain ⟨p1, q1, p2, q2, p3, q3, p4, q4, p5, q5, p6, q6, p7, q7, ⟨⟨u1, v1, w1⟩, ⟨u2, v2, w2⟩, ⟨u3, v3, w3⟩, ⟨u4, v4, w4⟩, ⟨u5, v5, w5⟩, ⟨u6, v6, w6⟩, ⟨u7, v7, w7⟩⟩, ⟨d12, d13, d14, d15, d16, d17, d23, d24, d25, d26, d27, d34, d35, d36, d37, d45, d46, d47, d56, d57, d67⟩, ⟨xx1, xx2, xx3, xx4, xx5, xx6, xx7⟩, h1, h2, h3, h4, h5, h6, h7⟩ := h; exact h7.rm
theorem Sev.put7 {W W' : World} {lo hi : Nat} {X : Nat → Prop} {a1 a2 a3 a4 a5 a6 a7 : Option Addr} {ls : List Lk.R} {tw : List Tu.R} {se : List Tu.R} {du : List Tu.R} {ss : List So.R} {es : List Tu.R} {la : List Ed.R} {b : Option Addr} {xs : List Ed.R} (h : Sev W lo hi X a1 a2 a3 a4 a5 a6 a7 ls tw se du ss es la) (hb : Below W.heap.size W W') (hh : hi ≤ W.heap.size) (hx : ∀ k, X k → k < W.heap.size) (hn : Ed.Lst W' b xs W.heap.size W'.heap.size) : Sev W' lo W'.heap.size X a1 a2 a3 a4 a5 a6 b ls tw se du ss es xs := by
  obtain ⟨p1, q1, p2, q2, p3, q3, p4, q4, p5, q5, p6, q6, p7, q7, ⟨⟨u1, v1, w1⟩, ⟨u2, v2, w2⟩, ⟨u3, v3, w3⟩, ⟨u4, v4, w4⟩, ⟨u5, v5, w5⟩, ⟨u6, v6, w6⟩, ⟨u7, v7, w7⟩⟩, ⟨d12, d13, d14, d15, d16, d17, d23, d24, d25, d26, d27, d34, d35, d36, d37, d45, d46, d47, d56, d57, d67⟩, ⟨xx1, xx2, xx3, xx4, xx5, xx6, xx7⟩, h1, h2, h3, h4, h5, h6, h7⟩ := h
  exact ⟨p1, q1, p2, q2, p3, q3, p4, q4, p5, q5, p6, q6, W.heap.size, W'.heap.size, ⟨⟨u1, v1, Nat.le_trans w1 (Nat.le_trans hh hb.size)⟩, ⟨u2, v2, Nat.le_trans w2 (Nat.le_trans hh hb.size)⟩, ⟨u3, v3, Nat.le_trans w3 (Nat.le_trans hh hb.size)⟩, ⟨u4, v4, Nat.le_trans w4 (Nat.le_trans hh hb.size)⟩, ⟨u5, v5, Nat.le_trans w5 (Nat.le_trans hh hb.size)⟩, ⟨u6, v6, Nat.le_trans w6 (Nat.le_trans hh hb.size)⟩, ⟨Nat.le_trans u7 (Nat.le_trans v7 (Nat.le_trans w7 hh)), hb.size, Nat.le_refl _⟩⟩, ⟨d12, d13, d14, d15, d16, (.inl (Nat.le_trans w1 hh)), d23, d24, d25, d26, (.inl (Nat.le_trans w2 hh)), d34, d35, d36, (.inl (Nat.le_trans w3 hh)), d45, d46, (.inl (Nat.le_trans w4 hh)), d56, (.inl (Nat.le_trans w5 hh)), (.inl (Nat.le_trans w6 hh))⟩, ⟨xx1, xx2, xx3, xx4, xx5, xx6, (fun k h1 h2 hy => by have := hx k hy; omega)⟩, h1.below hb, h2.below hb, h3.below hb, h4.below hb, h5.below hb, h6.below hb, hn⟩
set_option maxHeartbeats 4000000 in
theorem markTopG (a : Option Addr) (ca : Nat) (b : Option Addr) (cb p5 q5 p6 q6 lo : Nat) (K : Int) (ss : List So.R) (es : List Tu.R) (w : World) (hK : 0 ≤ K) (hK1 : K ≤ 1000000000) (hm : ss.length ≤ 1048576) (hl : es.length ≤ 1048576) (hlo5 : lo ≤ p5) (hlo6 : lo ≤ p6) (h5 : q5 ≤ w.heap.size) (h6 : q6 ≤ w.heap.size) (hd : Dj p5 q5 p6 q6) (hs : So.Lst w a ss p5 q5) (he : Tu.Lst w b es p6 q6) :
    Calls Tryz.prog 57 #[.agg #[.slice a ss.length ca, .slice b es.length cb], .int .i64 K] w fun e w' => e = .returned (.int .i64 (K + 3 * (ss.length : Int) + 3 * (es.length : Int))) ∧ w.heap.size ≤ w'.heap.size ∧ Below (min lo w.heap.size) w w' ∧ (So.Lst w' a (So.marks K ss.length) p5 q5 ∧ Tu.Lst w' b (Tu.marks (K + 3 * (ss.length : Int)) es.length) p6 q6) ∧ ∀ k, k < w.heap.size → (k < p5 ∨ q5 ≤ k) → (k < p6 ∨ q6 ≤ k) → w'.heap[k]? = w.heap[k]? := by
  have HA : Hid (Below w.heap.size w (w.alloc (.cells #[.slice a ss.length ca, .slice b es.length cb] 35))) := hide ((Below.refl _ _).alloc (Nat.le_refl _) _)
  have HX : Hid (Tp.Bx2 (w.alloc (.cells #[.slice a ss.length ca, .slice b es.length cb] 35)) w.heap.size (.slice a ss.length ca) (.slice b es.length cb)) := hide (Tp.bx2_new w _ _ _)
  have HS := hide (hs.below (unhide HA))
  have HE := hide (he.below (unhide HA))
  have hsz : (w.alloc (.cells #[.slice a ss.length ca, .slice b es.length cb] 35)).heap.size = w.heap.size + 1 := by simp
  have hD := hide hd
  clear hs he hd
  go_enter Tryz.func57, Tryz.ntmps57
  go_wp2_with fail
  generalize hW : w.alloc (.cells #[.slice a ss.length ca, .slice b es.length cb] 35) = w0 at *
  clear hW
  refine (So.markF a ca p5 q5 K ss _ hK (by omega) hm (unhide HS)).mono ?_
  rintro e w1 ⟨rfl, hz, b1, f1, k1⟩
  have HB1 := hide (((unhide HA).mono (Nat.min_le_right lo w.heap.size)).trans (b1.mono (by omega)))
  have HF1 := hide f1
  have HX1 := hide ((unhide HX).but (k1 w.heap.size (by omega) (.inr (by omega))))
  have HE1 := hide ((unhide HE).but (p := fun k => k < p5 ∨ q5 ≤ k) hz (fun k hk h => k1 k hk h) (unhide hD).sym.use)
  have HK1 := hide k1
  clear b1 f1 k1
  obtain ⟨z0, z1⟩ := unhide HX1
  go_wp2_with fail
  refine (Tu.markF b cb p6 q6 (K + 3 * (ss.length : Int)) es _ (by omega) (by omega) hl (unhide HE1)).mono ?_
  rintro e w2 ⟨rfl, hz2, b2, f2, k2⟩
  clear z0 z1
  have HB2 := hide ((unhide HB1).trans (b2.mono (by omega)))
  have HF2 := hide f2
  have HG2 := hide ((unhide HF1).but (p := fun k => k < p6 ∨ q6 ≤ k) hz2 (fun k hk h => k2 k hk h) (unhide hD).use)
  have HK2 := hide k2
  clear b2 f2 k2
  go_wp2_with fail
  go_ret
  refine ⟨rfl, by omega, unhide HB2, ⟨unhide HG2, unhide HF2⟩, fun k hk h h' => ?_⟩
  rw [unhide HK2 k (by omega) h', unhide HK1 k (by omega) h, (unhide HA).block k hk]
set_option maxHeartbeats 4000000 in
theorem heldTopG (a : Option Addr) (n ca : Nat) (b : Option Addr) (m cb p5 q5 p6 q6 : Nat) (K : Int) (w : World) (hK : 0 ≤ K) (hK1 : K ≤ 1000000000) (hm : n ≤ 1048576) (hl : m ≤ 1048576) (hs : So.Lst w a (So.marks K n) p5 q5) (he : Tu.Lst w b (Tu.marks (K + 3 * (n : Int)) m) p6 q6) :
    Calls Tryz.prog 61 #[.agg #[.slice a n ca, .slice b m cb], .int .i64 K] w fun e w' => e = .returned (.int .i64 (K + 3 * (n : Int) + 3 * (m : Int))) ∧ Below w.heap.size w w' := by
  have HA : Hid (Below w.heap.size w (w.alloc (.cells #[.slice a n ca, .slice b m cb] 35))) := hide ((Below.refl _ _).alloc (Nat.le_refl _) _)
  have HX : Hid (Tp.Bx2 (w.alloc (.cells #[.slice a n ca, .slice b m cb] 35)) w.heap.size (.slice a n ca) (.slice b m cb)) := hide (Tp.bx2_new w _ _ _)
  have HS := hide (hs.below (unhide HA))
  have HE := hide (he.below (unhide HA))
  clear hs he
  have hn1 : ¬ (K + 3 * (n : Int)) < 0 := by omega
  have hn2 : ¬ (K + 3 * (n : Int) + 3 * (m : Int)) < 0 := by omega
  go_enter Tryz.func61, Tryz.ntmps61
  go_wp2_with fail
  generalize hW : w.alloc (.cells #[.slice a n ca, .slice b m cb] 35) = w0 at *
  clear hW
  refine (So.heldF a ca n p5 q5 K _ hK (by omega) hm (unhide HS)).mono ?_
  rintro e w1 ⟨rfl, hw1⟩
  rw [hw1]
  clear hw1
  obtain ⟨z0, z1⟩ := unhide HX
  go_wp2_with fail
  refine (Tu.heldF b cb m p6 q6 (K + 3 * (n : Int)) _ (by omega) (by omega) hl (unhide HE)).mono ?_
  rintro e w2 ⟨rfl, hw2⟩
  rw [hw2]
  clear hw2 z0 z1
  go_wp2_with fail
  go_ret
  exact ⟨rfl, unhide HA⟩
set_option maxHeartbeats 16000000 in
theorem markRtG (x1 x2 x3 x4 x5 x6 : Int) (a1 a2 a3 a4 a5 a6 a7 : Option Addr) (c1 c2 c3 c4 c5 c6 c7 : Nat) (lo : Nat) (p1 q1 p2 q2 p3 q3 p4 q4 p5 q5 p6 q6 p7 q7 : Nat) (K0 K1 K2 K3 K4 K5 K6 K7 : Int) (ls : List Lk.R) (tw : List Tu.R) (se : List Tu.R) (du : List Tu.R) (ss : List So.R) (es : List Tu.R) (la : List Ed.R) (w : World) (hK : 0 ≤ K0) (hK1 : K0 ≤ 900000000) (hk1 : K1 = K0 + 6 * (ls.length : Int)) (hk2 : K2 = K1 + 3 * (tw.length : Int)) (hk3 : K3 = K2 + 3 * (se.length : Int)) (hk4 : K4 = K3 + 3 * (du.length : Int)) (hk5 : K5 = K4 + 3 * (ss.length : Int)) (hk6 : K6 = K5 + 3 * (es.length : Int)) (hk7 : K7 = K6 + 2 * (la.length : Int)) (hm1 : ls.length ≤ 1048576) (hm2 : tw.length ≤ 1048576) (hm3 : se.length ≤ 1048576) (hm4 : du.length ≤ 1048576) (hm5 : ss.length ≤ 1048576) (hm6 : es.length ≤ 1048576) (hm7 : la.length ≤ 1048576) (hlo : lo ≤ w.heap.size) (hq1 : q1 ≤ w.heap.size) (hp1 : lo ≤ p1) (hq2 : q2 ≤ w.heap.size) (hp2 : lo ≤ p2) (hq3 : q3 ≤ w.heap.size) (hp3 : lo ≤ p3) (hq4 : q4 ≤ w.heap.size) (hp4 : lo ≤ p4) (hq5 : q5 ≤ w.heap.size) (hp5 : lo ≤ p5) (hq6 : q6 ≤ w.heap.size) (hp6 : lo ≤ p6) (hq7 : q7 ≤ w.heap.size) (hp7 : lo ≤ p7) (dj12 : Dj p1 q1 p2 q2) (dj13 : Dj p1 q1 p3 q3) (dj14 : Dj p1 q1 p4 q4) (dj15 : Dj p1 q1 p5 q5) (dj16 : Dj p1 q1 p6 q6) (dj17 : Dj p1 q1 p7 q7) (dj23 : Dj p2 q2 p3 q3) (dj24 : Dj p2 q2 p4 q4) (dj25 : Dj p2 q2 p5 q5) (dj26 : Dj p2 q2 p6 q6) (dj27 : Dj p2 q2 p7 q7) (dj34 : Dj p3 q3 p4 q4) (dj35 : Dj p3 q3 p5 q5) (dj36 : Dj p3 q3 p6 q6) (dj37 : Dj p3 q3 p7 q7) (dj45 : Dj p4 q4 p5 q5) (dj46 : Dj p4 q4 p6 q6) (dj47 : Dj p4 q4 p7 q7) (dj56 : Dj p5 q5 p6 q6) (dj57 : Dj p5 q5 p7 q7) (dj67 : Dj p6 q6 p7 q7) (hl1 : Lk.Lst w a1 ls p1 q1) (hl2 : Tu.Lst w a2 tw p2 q2) (hl3 : Tu.Lst w a3 se p3 q3) (hl4 : Tu.Lst w a4 du p4 q4) (hl5 : So.Lst w a5 ss p5 q5) (hl6 : Tu.Lst w a6 es p6 q6) (hl7 : Ed.Lst w a7 la p7 q7) :
    Calls Tryz.prog 13 #[.agg #[.int .i64 x1, .int .i64 x2, .int .i64 x3, .int .i64 x4, .int .i64 x5, .slice a1 ls.length c1, .slice a2 tw.length c2, .slice a3 se.length c3, .slice a4 du.length c4, .slice a5 ss.length c5, .slice a6 es.length c6, .slice a7 la.length c7, .int .i64 x6], .int .i64 K0] w fun e w' => e = .returned (.int .i64 K7) ∧ w.heap.size ≤ w'.heap.size ∧ Below (min lo w.heap.size) w w' ∧ (Lk.Lst w' a1 (Lk.marks K0 ls.length) p1 q1 ∧ Tu.Lst w' a2 (Tu.marks K1 tw.length) p2 q2 ∧ Tu.Lst w' a3 (Tu.marks K2 se.length) p3 q3 ∧ Tu.Lst w' a4 (Tu.marks K3 du.length) p4 q4 ∧ So.Lst w' a5 (So.marks K4 ss.length) p5 q5 ∧ Tu.Lst w' a6 (Tu.marks K5 es.length) p6 q6 ∧ Ed.Lst w' a7 (Ed.marks K6 la.length) p7 q7) ∧ ∀ k, k < w.heap.size → (k < p1 ∨ q1 ≤ k) → (k < p2 ∨ q2 ≤ k) → (k < p3 ∨ q3 ≤ k) → (k < p4 ∨ q4 ≤ k) → (k < p5 ∨ q5 ≤ k) → (k < p6 ∨ q6 ≤ k) → (k < p7 ∨ q7 ≤ k) → w'.heap[k]? = w.heap[k]? := by
  have HA : Hid (Below w.heap.size w (w.alloc (.cells #[.int .i64 x1, .int .i64 x2, .int .i64 x3, .int .i64 x4, .int .i64 x5, .slice a1 ls.length c1, .slice a2 tw.length c2, .slice a3 se.length c3, .slice a4 du.length c4, .slice a5 ss.length c5, .slice a6 es.length c6, .slice a7 la.length c7, .int .i64 x6] 38))) := hide ((Below.refl _ _).alloc (Nat.le_refl _) _)
  have HB0 : Hid (Below (min lo w.heap.size) w (w.alloc (.cells #[.int .i64 x1, .int .i64 x2, .int .i64 x3, .int .i64 x4, .int .i64 x5, .slice a1 ls.length c1, .slice a2 tw.length c2, .slice a3 se.length c3, .slice a4 du.length c4, .slice a5 ss.length c5, .slice a6 es.length c6, .slice a7 la.length c7, .int .i64 x6] 38))) := hide ((unhide HA).mono (Nat.min_le_right _ _))
  have HX0 : Hid (RA (w.alloc (.cells #[.int .i64 x1, .int .i64 x2, .int .i64 x3, .int .i64 x4, .int .i64 x5, .slice a1 ls.length c1, .slice a2 tw.length c2, .slice a3 se.length c3, .slice a4 du.length c4, .slice a5 ss.length c5, .slice a6 es.length c6, .slice a7 la.length c7, .int .i64 x6] 38)) w.heap.size (rC x1 x2 x3 x4 x5 (.slice a1 ls.length c1) (.slice a2 tw.length c2) (.slice a3 se.length c3) (.slice a4 du.length c4) (.slice a5 ss.length c5) (.slice a6 es.length c6) (.slice a7 la.length c7) x6)) := hide (ra_new w _ rfl _)
  have hq0 : (w.alloc (.cells #[.int .i64 x1, .int .i64 x2, .int .i64 x3, .int .i64 x4, .int .i64 x5, .slice a1 ls.length c1, .slice a2 tw.length c2, .slice a3 se.length c3, .slice a4 du.length c4, .slice a5 ss.length c5, .slice a6 es.length c6, .slice a7 la.length c7, .int .i64 x6] 38)).heap.size = w.heap.size + 1 := by simp
  have DJ12 := hide dj12
  have DJ13 := hide dj13
  have DJ14 := hide dj14
  have DJ15 := hide dj15
  have DJ16 := hide dj16
  have DJ17 := hide dj17
  have DJ23 := hide dj23
  have DJ24 := hide dj24
  have DJ25 := hide dj25
  have DJ26 := hide dj26
  have DJ27 := hide dj27
  have DJ34 := hide dj34
  have DJ35 := hide dj35
  have DJ36 := hide dj36
  have DJ37 := hide dj37
  have DJ45 := hide dj45
  have DJ46 := hide dj46
  have DJ47 := hide dj47
  have DJ56 := hide dj56
  have DJ57 := hide dj57
  have DJ67 := hide dj67
  clear dj12 dj13 dj14 dj15 dj16 dj17 dj23 dj24 dj25 dj26 dj27 dj34 dj35 dj36 dj37 dj45 dj46 dj47 dj56 dj57 dj67
  have U1_0 := hide (hl1.below (unhide HA))
  have U2_0 := hide (hl2.below (unhide HA))
  have U3_0 := hide (hl3.below (unhide HA))
  have U4_0 := hide (hl4.below (unhide HA))
  have U5_0 := hide (hl5.below (unhide HA))
  have U6_0 := hide (hl6.below (unhide HA))
  have U7_0 := hide (hl7.below (unhide HA))
  clear hl1 hl2 hl3 hl4 hl5 hl6 hl7
  have C0 := hide (fun W => Lk.markF a1 c1 p1 q1 K0 ls W (by omega) (by omega) hm1)
  rw [← hk1] at C0
  have C1 := hide (fun W => Tu.markF a2 c2 p2 q2 K1 tw W (by omega) (by omega) hm2)
  rw [← hk2] at C1
  have C2 := hide (fun W => Tu.markF a3 c3 p3 q3 K2 se W (by omega) (by omega) hm3)
  rw [← hk3] at C2
  have C3 := hide (fun W => Tu.markF a4 c4 p4 q4 K3 du W (by omega) (by omega) hm4)
  rw [← hk4] at C3
  have C4 := hide (fun W => markTopG a5 c5 a6 c6 p5 q5 p6 q6 lo K4 ss es W (by omega) (by omega) hm5 hm6 hp5 hp6)
  rw [← hk5, ← hk6] at C4
  have C5 := hide (fun W => Ed.markF a7 c7 p7 q7 K6 la W (by omega) (by omega) hm7)
  rw [← hk7] at C5
  clear hk1 hk2 hk3 hk4 hk5 hk6 hk7
  go_enter Tryz.func13, Tryz.ntmps13
  go_wp2_with fail
  generalize hW : w.alloc (.cells #[.int .i64 x1, .int .i64 x2, .int .i64 x3, .int .i64 x4, .int .i64 x5, .slice a1 ls.length c1, .slice a2 tw.length c2, .slice a3 se.length c3, .slice a4 du.length c4, .slice a5 ss.length c5, .slice a6 es.length c6, .slice a7 la.length c7, .int .i64 x6] 38) = V0 at *
  clear hW
  refine (unhide C0 _ (unhide U1_0)).mono ?_
  rintro e V1 ⟨rfl, hz0, d_, f_, k_⟩
  have HB1 := hide ((unhide HB0).trans (d_.mono (by omega)))
  have HX1 := hide ((unhide HX0).but (k_ w.heap.size (by omega) (.inr (by omega))))
  have U1_1 := hide f_
  have U2_1 := hide ((unhide U2_0).but (p := fun k => k < p1 ∨ q1 ≤ k) hz0 (fun k hk h => k_ k hk h) (unhide DJ12).sym.use)
  have U3_1 := hide ((unhide U3_0).but (p := fun k => k < p1 ∨ q1 ≤ k) hz0 (fun k hk h => k_ k hk h) (unhide DJ13).sym.use)
  have U4_1 := hide ((unhide U4_0).but (p := fun k => k < p1 ∨ q1 ≤ k) hz0 (fun k hk h => k_ k hk h) (unhide DJ14).sym.use)
  have U5_1 := hide ((unhide U5_0).but (p := fun k => k < p1 ∨ q1 ≤ k) hz0 (fun k hk h => k_ k hk h) (unhide DJ15).sym.use)
  have U6_1 := hide ((unhide U6_0).but (p := fun k => k < p1 ∨ q1 ≤ k) hz0 (fun k hk h => k_ k hk h) (unhide DJ16).sym.use)
  have U7_1 := hide ((unhide U7_0).but (p := fun k => k < p1 ∨ q1 ≤ k) hz0 (fun k hk h => k_ k hk h) (unhide DJ17).sym.use)
  have HQ0 := hide k_
  clear d_ f_ k_ HX0 U1_0 U2_0 U3_0 U4_0 U5_0 U6_0 U7_0
  have z6 := (unhide HX1).at (i := 6) rfl
  go_wp2_with fail
  clear z6
  refine (unhide C1 _ (unhide U2_1)).mono ?_
  rintro e V2 ⟨rfl, hz1, d_, f_, k_⟩
  have HB2 := hide ((unhide HB1).trans (d_.mono (by omega)))
  have HX2 := hide ((unhide HX1).but (k_ w.heap.size (by omega) (.inr (by omega))))
  have U1_2 := hide ((unhide U1_1).but (p := fun k => k < p2 ∨ q2 ≤ k) hz1 (fun k hk h => k_ k hk h) (unhide DJ12).use)
  have U2_2 := hide f_
  have U3_2 := hide ((unhide U3_1).but (p := fun k => k < p2 ∨ q2 ≤ k) hz1 (fun k hk h => k_ k hk h) (unhide DJ23).sym.use)
  have U4_2 := hide ((unhide U4_1).but (p := fun k => k < p2 ∨ q2 ≤ k) hz1 (fun k hk h => k_ k hk h) (unhide DJ24).sym.use)
  have U5_2 := hide ((unhide U5_1).but (p := fun k => k < p2 ∨ q2 ≤ k) hz1 (fun k hk h => k_ k hk h) (unhide DJ25).sym.use)
  have U6_2 := hide ((unhide U6_1).but (p := fun k => k < p2 ∨ q2 ≤ k) hz1 (fun k hk h => k_ k hk h) (unhide DJ26).sym.use)
  have U7_2 := hide ((unhide U7_1).but (p := fun k => k < p2 ∨ q2 ≤ k) hz1 (fun k hk h => k_ k hk h) (unhide DJ27).sym.use)
  have HQ1 := hide k_
  clear d_ f_ k_ HX1 U1_1 U2_1 U3_1 U4_1 U5_1 U6_1 U7_1
  have z7 := (unhide HX2).at (i := 7) rfl
  go_wp2_with fail
  clear z7
  refine (unhide C2 _ (unhide U3_2)).mono ?_
  rintro e V3 ⟨rfl, hz2, d_, f_, k_⟩
  have HB3 := hide ((unhide HB2).trans (d_.mono (by omega)))
  have HX3 := hide ((unhide HX2).but (k_ w.heap.size (by omega) (.inr (by omega))))
  have U1_3 := hide ((unhide U1_2).but (p := fun k => k < p3 ∨ q3 ≤ k) hz2 (fun k hk h => k_ k hk h) (unhide DJ13).use)
  have U2_3 := hide ((unhide U2_2).but (p := fun k => k < p3 ∨ q3 ≤ k) hz2 (fun k hk h => k_ k hk h) (unhide DJ23).use)
  have U3_3 := hide f_
  have U4_3 := hide ((unhide U4_2).but (p := fun k => k < p3 ∨ q3 ≤ k) hz2 (fun k hk h => k_ k hk h) (unhide DJ34).sym.use)
  have U5_3 := hide ((unhide U5_2).but (p := fun k => k < p3 ∨ q3 ≤ k) hz2 (fun k hk h => k_ k hk h) (unhide DJ35).sym.use)
  have U6_3 := hide ((unhide U6_2).but (p := fun k => k < p3 ∨ q3 ≤ k) hz2 (fun k hk h => k_ k hk h) (unhide DJ36).sym.use)
  have U7_3 := hide ((unhide U7_2).but (p := fun k => k < p3 ∨ q3 ≤ k) hz2 (fun k hk h => k_ k hk h) (unhide DJ37).sym.use)
  have HQ2 := hide k_
  clear d_ f_ k_ HX2 U1_2 U2_2 U3_2 U4_2 U5_2 U6_2 U7_2
  have z8 := (unhide HX3).at (i := 8) rfl
  go_wp2_with fail
  clear z8
  refine (unhide C3 _ (unhide U4_3)).mono ?_
  rintro e V4 ⟨rfl, hz3, d_, f_, k_⟩
  have HB4 := hide ((unhide HB3).trans (d_.mono (by omega)))
  have HX4 := hide ((unhide HX3).but (k_ w.heap.size (by omega) (.inr (by omega))))
  have U1_4 := hide ((unhide U1_3).but (p := fun k => k < p4 ∨ q4 ≤ k) hz3 (fun k hk h => k_ k hk h) (unhide DJ14).use)
  have U2_4 := hide ((unhide U2_3).but (p := fun k => k < p4 ∨ q4 ≤ k) hz3 (fun k hk h => k_ k hk h) (unhide DJ24).use)
  have U3_4 := hide ((unhide U3_3).but (p := fun k => k < p4 ∨ q4 ≤ k) hz3 (fun k hk h => k_ k hk h) (unhide DJ34).use)
  have U4_4 := hide f_
  have U5_4 := hide ((unhide U5_3).but (p := fun k => k < p4 ∨ q4 ≤ k) hz3 (fun k hk h => k_ k hk h) (unhide DJ45).sym.use)
  have U6_4 := hide ((unhide U6_3).but (p := fun k => k < p4 ∨ q4 ≤ k) hz3 (fun k hk h => k_ k hk h) (unhide DJ46).sym.use)
  have U7_4 := hide ((unhide U7_3).but (p := fun k => k < p4 ∨ q4 ≤ k) hz3 (fun k hk h => k_ k hk h) (unhide DJ47).sym.use)
  have HQ3 := hide k_
  clear d_ f_ k_ HX3 U1_3 U2_3 U3_3 U4_3 U5_3 U6_3 U7_3
  have z9 := (unhide HX4).at (i := 9) rfl
  have z10 := (unhide HX4).at (i := 10) rfl
  go_wp2_with fail
  clear z9 z10
  refine (unhide C4 _ (by omega) (by omega) (unhide DJ56) (unhide U5_4) (unhide U6_4)).mono ?_
  rintro e V5 ⟨rfl, hz4, d_, ⟨f_, g_⟩, k_⟩
  have HB5 := hide ((unhide HB4).trans (d_.mono (by omega)))
  have HX5 := hide ((unhide HX4).but (k_ w.heap.size (by omega) (.inr (by omega)) (.inr (by omega))))
  have U1_5 := hide ((unhide U1_4).but (p := fun k => (k < p5 ∨ q5 ≤ k) ∧ (k < p6 ∨ q6 ≤ k)) hz4 (fun k hk h => k_ k hk h.1 h.2) (fun k h1 h2 => ⟨(unhide DJ15).use k h1 h2, (unhide DJ16).use k h1 h2⟩))
  have U2_5 := hide ((unhide U2_4).but (p := fun k => (k < p5 ∨ q5 ≤ k) ∧ (k < p6 ∨ q6 ≤ k)) hz4 (fun k hk h => k_ k hk h.1 h.2) (fun k h1 h2 => ⟨(unhide DJ25).use k h1 h2, (unhide DJ26).use k h1 h2⟩))
  have U3_5 := hide ((unhide U3_4).but (p := fun k => (k < p5 ∨ q5 ≤ k) ∧ (k < p6 ∨ q6 ≤ k)) hz4 (fun k hk h => k_ k hk h.1 h.2) (fun k h1 h2 => ⟨(unhide DJ35).use k h1 h2, (unhide DJ36).use k h1 h2⟩))
  have U4_5 := hide ((unhide U4_4).but (p := fun k => (k < p5 ∨ q5 ≤ k) ∧ (k < p6 ∨ q6 ≤ k)) hz4 (fun k hk h => k_ k hk h.1 h.2) (fun k h1 h2 => ⟨(unhide DJ45).use k h1 h2, (unhide DJ46).use k h1 h2⟩))
  have U5_5 := hide f_
  have U6_5 := hide g_
  have U7_5 := hide ((unhide U7_4).but (p := fun k => (k < p5 ∨ q5 ≤ k) ∧ (k < p6 ∨ q6 ≤ k)) hz4 (fun k hk h => k_ k hk h.1 h.2) (fun k h1 h2 => ⟨(unhide DJ57).sym.use k h1 h2, (unhide DJ67).sym.use k h1 h2⟩))
  have HQ4 := hide k_
  clear d_ f_ k_ g_ HX4 U1_4 U2_4 U3_4 U4_4 U5_4 U6_4 U7_4
  have z11 := (unhide HX5).at (i := 11) rfl
  go_wp2_with fail
  clear z11
  refine (unhide C5 _ (unhide U7_5)).mono ?_
  rintro e V6 ⟨rfl, hz5, d_, f_, k_⟩
  have HB6 := hide ((unhide HB5).trans (d_.mono (by omega)))
  have HX6 := hide ((unhide HX5).but (k_ w.heap.size (by omega) (.inr (by omega))))
  have U1_6 := hide ((unhide U1_5).but (p := fun k => k < p7 ∨ q7 ≤ k) hz5 (fun k hk h => k_ k hk h) (unhide DJ17).use)
  have U2_6 := hide ((unhide U2_5).but (p := fun k => k < p7 ∨ q7 ≤ k) hz5 (fun k hk h => k_ k hk h) (unhide DJ27).use)
  have U3_6 := hide ((unhide U3_5).but (p := fun k => k < p7 ∨ q7 ≤ k) hz5 (fun k hk h => k_ k hk h) (unhide DJ37).use)
  have U4_6 := hide ((unhide U4_5).but (p := fun k => k < p7 ∨ q7 ≤ k) hz5 (fun k hk h => k_ k hk h) (unhide DJ47).use)
  have U5_6 := hide ((unhide U5_5).but (p := fun k => k < p7 ∨ q7 ≤ k) hz5 (fun k hk h => k_ k hk h) (unhide DJ57).use)
  have U6_6 := hide ((unhide U6_5).but (p := fun k => k < p7 ∨ q7 ≤ k) hz5 (fun k hk h => k_ k hk h) (unhide DJ67).use)
  have U7_6 := hide f_
  have HQ5 := hide k_
  clear d_ f_ k_ HX5 U1_5 U2_5 U3_5 U4_5 U5_5 U6_5 U7_5
  go_wp2_with fail
  go_ret
  refine ⟨rfl, by omega, unhide HB6, ⟨unhide U1_6, unhide U2_6, unhide U3_6, unhide U4_6, unhide U5_6, unhide U6_6, unhide U7_6⟩, fun k hk e1 e2 e3 e4 e5 e6 e7 => ?_⟩
  rw [unhide HQ5 k (by omega) e7, unhide HQ4 k (by omega) e5 e6, unhide HQ3 k (by omega) e4, unhide HQ2 k (by omega) e3, unhide HQ1 k (by omega) e2, unhide HQ0 k (by omega) e1, (unhide HA).block k hk]
set_option maxHeartbeats 16000000 in
theorem heldRtG (x1 x2 x3 x4 x5 x6 : Int) (a1 a2 a3 a4 a5 a6 a7 : Option Addr) (n1 n2 n3 n4 n5 n6 n7 : Nat) (c1 c2 c3 c4 c5 c6 c7 : Nat) (p1 q1 p2 q2 p3 q3 p4 q4 p5 q5 p6 q6 p7 q7 : Nat) (K0 K1 K2 K3 K4 K5 K6 K7 : Int) (w : World) (hK : 0 ≤ K0) (hK1 : K0 ≤ 900000000) (hk1 : K1 = K0 + 6 * (n1 : Int)) (hk2 : K2 = K1 + 3 * (n2 : Int)) (hk3 : K3 = K2 + 3 * (n3 : Int)) (hk4 : K4 = K3 + 3 * (n4 : Int)) (hk5 : K5 = K4 + 3 * (n5 : Int)) (hk6 : K6 = K5 + 3 * (n6 : Int)) (hk7 : K7 = K6 + 2 * (n7 : Int)) (hm1 : n1 ≤ 1048576) (hm2 : n2 ≤ 1048576) (hm3 : n3 ≤ 1048576) (hm4 : n4 ≤ 1048576) (hm5 : n5 ≤ 1048576) (hm6 : n6 ≤ 1048576) (hm7 : n7 ≤ 1048576) (hl1 : Lk.Lst w a1 (Lk.marks K0 n1) p1 q1) (hl2 : Tu.Lst w a2 (Tu.marks K1 n2) p2 q2) (hl3 : Tu.Lst w a3 (Tu.marks K2 n3) p3 q3) (hl4 : Tu.Lst w a4 (Tu.marks K3 n4) p4 q4) (hl5 : So.Lst w a5 (So.marks K4 n5) p5 q5) (hl6 : Tu.Lst w a6 (Tu.marks K5 n6) p6 q6) (hl7 : Ed.Lst w a7 (Ed.marks K6 n7) p7 q7) :
    Calls Tryz.prog 15 #[.agg #[.int .i64 x1, .int .i64 x2, .int .i64 x3, .int .i64 x4, .int .i64 x5, .slice a1 n1 c1, .slice a2 n2 c2, .slice a3 n3 c3, .slice a4 n4 c4, .slice a5 n5 c5, .slice a6 n6 c6, .slice a7 n7 c7, .int .i64 x6], .int .i64 K0] w fun e w' => e = .returned (.int .i64 K7) ∧ Below w.heap.size w w' := by
  have HB0 : Hid (Below w.heap.size w (w.alloc (.cells #[.int .i64 x1, .int .i64 x2, .int .i64 x3, .int .i64 x4, .int .i64 x5, .slice a1 n1 c1, .slice a2 n2 c2, .slice a3 n3 c3, .slice a4 n4 c4, .slice a5 n5 c5, .slice a6 n6 c6, .slice a7 n7 c7, .int .i64 x6] 38))) := hide ((Below.refl _ _).alloc (Nat.le_refl _) _)
  have HX0 : Hid (RA (w.alloc (.cells #[.int .i64 x1, .int .i64 x2, .int .i64 x3, .int .i64 x4, .int .i64 x5, .slice a1 n1 c1, .slice a2 n2 c2, .slice a3 n3 c3, .slice a4 n4 c4, .slice a5 n5 c5, .slice a6 n6 c6, .slice a7 n7 c7, .int .i64 x6] 38)) w.heap.size (rC x1 x2 x3 x4 x5 (.slice a1 n1 c1) (.slice a2 n2 c2) (.slice a3 n3 c3) (.slice a4 n4 c4) (.slice a5 n5 c5) (.slice a6 n6 c6) (.slice a7 n7 c7) x6)) := hide (ra_new w _ rfl _)
  have U1 := hide hl1
  have U2 := hide hl2
  have U3 := hide hl3
  have U4 := hide hl4
  have U5 := hide hl5
  have U6 := hide hl6
  have U7 := hide hl7
  clear hl1 hl2 hl3 hl4 hl5 hl6 hl7
  have C0 := hide (fun W => Lk.heldF a1 c1 n1 p1 q1 K0 W (by omega) (by omega) hm1)
  rw [← hk1] at C0
  have C1 := hide (fun W => Tu.heldF a2 c2 n2 p2 q2 K1 W (by omega) (by omega) hm2)
  rw [← hk2] at C1
  have C2 := hide (fun W => Tu.heldF a3 c3 n3 p3 q3 K2 W (by omega) (by omega) hm3)
  rw [← hk3] at C2
  have C3 := hide (fun W => Tu.heldF a4 c4 n4 p4 q4 K3 W (by omega) (by omega) hm4)
  rw [← hk4] at C3
  have C4 := hide (fun W => heldTopG a5 n5 c5 a6 n6 c6 p5 q5 p6 q6 K4 W (by omega) (by omega) hm5 hm6)
  rw [← hk5, ← hk6] at C4
  have C5 := hide (fun W => Ed.heldF a7 c7 n7 p7 q7 K6 W (by omega) (by omega) hm7)
  rw [← hk7] at C5
  have hn0 : ¬ K1 < 0 := by omega
  have hn1 : ¬ K2 < 0 := by omega
  have hn2 : ¬ K3 < 0 := by omega
  have hn3 : ¬ K4 < 0 := by omega
  have hn4 : ¬ K6 < 0 := by omega
  have hn5 : ¬ K7 < 0 := by omega
  clear hk1 hk2 hk3 hk4 hk5 hk6 hk7
  go_enter Tryz.func15, Tryz.ntmps15
  go_wp2_with fail
  generalize hW : w.alloc (.cells #[.int .i64 x1, .int .i64 x2, .int .i64 x3, .int .i64 x4, .int .i64 x5, .slice a1 n1 c1, .slice a2 n2 c2, .slice a3 n3 c3, .slice a4 n4 c4, .slice a5 n5 c5, .slice a6 n6 c6, .slice a7 n7 c7, .int .i64 x6] 38) = V0 at *
  clear hW
  refine (unhide C0 _ ((unhide U1).below (unhide HB0))).mono ?_
  rintro e V1 ⟨rfl, hw⟩
  rw [hw]
  clear hw
  have z6 := (unhide HX0).at (i := 6) rfl
  go_wp2_with fail
  clear z6
  refine (unhide C1 _ ((unhide U2).below (unhide HB0))).mono ?_
  rintro e V2 ⟨rfl, hw⟩
  rw [hw]
  clear hw
  have z7 := (unhide HX0).at (i := 7) rfl
  go_wp2_with fail
  clear z7
  refine (unhide C2 _ ((unhide U3).below (unhide HB0))).mono ?_
  rintro e V3 ⟨rfl, hw⟩
  rw [hw]
  clear hw
  have z8 := (unhide HX0).at (i := 8) rfl
  go_wp2_with fail
  clear z8
  refine (unhide C3 _ ((unhide U4).below (unhide HB0))).mono ?_
  rintro e V4 ⟨rfl, hw⟩
  rw [hw]
  clear hw
  have z9 := (unhide HX0).at (i := 9) rfl
  have z10 := (unhide HX0).at (i := 10) rfl
  go_wp2_with fail
  clear z9 z10
  refine (unhide C4 _ ((unhide U5).below (unhide HB0)) ((unhide U6).below (unhide HB0))).mono ?_
  rintro e V5 ⟨rfl, d_⟩
  have HB5 := hide ((unhide HB0).trans (d_.mono (unhide HB0).size))
  have HX5 := hide ((unhide HX0).below d_)
  clear d_
  have z11 := (unhide HX5).at (i := 11) rfl
  go_wp2_with fail
  clear z11
  refine (unhide C5 _ ((unhide U7).below (unhide HB5))).mono ?_
  rintro e V6 ⟨rfl, hw⟩
  rw [hw]
  clear hw
  go_wp2_with fail
  go_ret
  exact ⟨rfl, unhide HB5⟩
set_option maxHeartbeats 4000000 in
theorem markSv (x1 x2 x3 x4 x5 x6 : Int) (a1 a2 a3 a4 a5 a6 a7 : Option Addr) (c1 c2 c3 c4 c5 c6 c7 : Nat) (lo hi : Nat) (X : Nat → Prop) (K : Int) (ls : List Lk.R) (tw : List Tu.R) (se : List Tu.R) (du : List Tu.R) (ss : List So.R) (es : List Tu.R) (la : List Ed.R) (w : World) (hK : 0 ≤ K) (hK1 : K ≤ 800000000) (hm1 : ls.length ≤ 1048576) (hm2 : tw.length ≤ 1048576) (hm3 : se.length ≤ 1048576) (hm4 : du.length ≤ 1048576) (hm5 : ss.length ≤ 1048576) (hm6 : es.length ≤ 1048576) (hm7 : la.length ≤ 1048576) (hhi : hi ≤ w.heap.size) (h : Sev w lo hi X a1 a2 a3 a4 a5 a6 a7 ls tw se du ss es la) :
    Calls Tryz.prog 13 #[.agg #[.int .i64 x1, .int .i64 x2, .int .i64 x3, .int .i64 x4, .int .i64 x5, .slice a1 ls.length c1, .slice a2 tw.length c2, .slice a3 se.length c3, .slice a4 du.length c4, .slice a5 ss.length c5, .slice a6 es.length c6, .slice a7 la.length c7, .int .i64 x6], .int .i64 K] w fun e w' => ∃ K7 : Int, e = .returned (.int .i64 K7) ∧ Hid (K7 = (((((((K + 6 * (ls.length : Int)) + 3 * (tw.length : Int)) + 3 * (se.length : Int)) + 3 * (du.length : Int)) + 3 * (ss.length : Int)) + 3 * (es.length : Int)) + 2 * (la.length : Int))) ∧ w.heap.size ≤ w'.heap.size ∧ Below (min lo w.heap.size) w w' ∧ Sev w' lo hi X a1 a2 a3 a4 a5 a6 a7 (Lk.marks K ls.length) (Tu.marks (K + 6 * (ls.length : Int)) tw.length) (Tu.marks ((K + 6 * (ls.length : Int)) + 3 * (tw.length : Int)) se.length) (Tu.marks (((K + 6 * (ls.length : Int)) + 3 * (tw.length : Int)) + 3 * (se.length : Int)) du.length) (So.marks ((((K + 6 * (ls.length : Int)) + 3 * (tw.length : Int)) + 3 * (se.length : Int)) + 3 * (du.length : Int)) ss.length) (Tu.marks (((((K + 6 * (ls.length : Int)) + 3 * (tw.length : Int)) + 3 * (se.length : Int)) + 3 * (du.length : Int)) + 3 * (ss.length : Int)) es.length) (Ed.marks ((((((K + 6 * (ls.length : Int)) + 3 * (tw.length : Int)) + 3 * (se.length : Int)) + 3 * (du.length : Int)) + 3 * (ss.length : Int)) + 3 * (es.length : Int)) la.length) ∧ ∀ k, k < w.heap.size → (k < lo ∨ hi ≤ k ∨ X k) → w'.heap[k]? = w.heap[k]? := by
  obtain ⟨p1, q1, p2, q2, p3, q3, p4, q4, p5, q5, p6, q6, p7, q7, ⟨⟨u1, v1, w1⟩, ⟨u2, v2, w2⟩, ⟨u3, v3, w3⟩, ⟨u4, v4, w4⟩, ⟨u5, v5, w5⟩, ⟨u6, v6, w6⟩, ⟨u7, v7, w7⟩⟩, ⟨d12, d13, d14, d15, d16, d17, d23, d24, d25, d26, d27, d34, d35, d36, d37, d45, d46, d47, d56, d57, d67⟩, ⟨xx1, xx2, xx3, xx4, xx5, xx6, xx7⟩, h1, h2, h3, h4, h5, h6, h7⟩ := h
  refine (markRtG x1 x2 x3 x4 x5 x6 a1 a2 a3 a4 a5 a6 a7 c1 c2 c3 c4 c5 c6 c7 lo p1 q1 p2 q2 p3 q3 p4 q4 p5 q5 p6 q6 p7 q7 K (K + 6 * (ls.length : Int)) ((K + 6 * (ls.length : Int)) + 3 * (tw.length : Int)) (((K + 6 * (ls.length : Int)) + 3 * (tw.length : Int)) + 3 * (se.length : Int)) ((((K + 6 * (ls.length : Int)) + 3 * (tw.length : Int)) + 3 * (se.length : Int)) + 3 * (du.length : Int)) (((((K + 6 * (ls.length : Int)) + 3 * (tw.length : Int)) + 3 * (se.length : Int)) + 3 * (du.length : Int)) + 3 * (ss.length : Int)) ((((((K + 6 * (ls.length : Int)) + 3 * (tw.length : Int)) + 3 * (se.length : Int)) + 3 * (du.length : Int)) + 3 * (ss.length : Int)) + 3 * (es.length : Int)) (((((((K + 6 * (ls.length : Int)) + 3 * (tw.length : Int)) + 3 * (se.length : Int)) + 3 * (du.length : Int)) + 3 * (ss.length : Int)) + 3 * (es.length : Int)) + 2 * (la.length : Int)) ls tw se du ss es la w (by omega) (by omega) rfl rfl rfl rfl rfl rfl rfl hm1 hm2 hm3 hm4 hm5 hm6 hm7 (by omega) (by omega) (by omega) (by omega) (by omega) (by omega) (by omega) (by omega) (by omega) (by omega) (by omega) (by omega) (by omega) (by omega) (by omega) d12 d13 d14 d15 d16 d17 d23 d24 d25 d26 d27 d34 d35 d36 d37 d45 d46 d47 d56 d57 d67 h1 h2 h3 h4 h5 h6 h7).mono ?_
  rintro e w' ⟨rfl, hz, hb, ⟨j1, j2, j3, j4, j5, j6, j7⟩, hk⟩
  refine ⟨_, rfl, hide rfl, hz, hb, ⟨p1, q1, p2, q2, p3, q3, p4, q4, p5, q5, p6, q6, p7, q7, ⟨⟨u1, v1, w1⟩, ⟨u2, v2, w2⟩, ⟨u3, v3, w3⟩, ⟨u4, v4, w4⟩, ⟨u5, v5, w5⟩, ⟨u6, v6, w6⟩, ⟨u7, v7, w7⟩⟩, ⟨d12, d13, d14, d15, d16, d17, d23, d24, d25, d26, d27, d34, d35, d36, d37, d45, d46, d47, d56, d57, d67⟩, ⟨xx1, xx2, xx3, xx4, xx5, xx6, xx7⟩, j1, j2, j3, j4, j5, j6, j7⟩, fun k hk1 h => ?_⟩
  have g : ∀ p q, lo ≤ p → q ≤ hi → Fr p q X → (k < p ∨ q ≤ k) := fun p q h1 h2 h3 => Or.elim h (fun h => by omega) (fun h => Or.elim h (fun h => by omega) (fun h => by by_cases e : p ≤ k ∧ k < q; exact absurd h (h3 k e.1 e.2); omega))
  exact hk k hk1 (g _ _ u1 w1 xx1) (g _ _ u2 w2 xx2) (g _ _ u3 w3 xx3) (g _ _ u4 w4 xx4) (g _ _ u5 w5 xx5) (g _ _ u6 w6 xx6) (g _ _ u7 w7 xx7)
set_option maxHeartbeats 4000000 in
theorem heldSv (x1 x2 x3 x4 x5 x6 : Int) (a1 a2 a3 a4 a5 a6 a7 : Option Addr) (n1 n2 n3 n4 n5 n6 n7 : Nat) (c1 c2 c3 c4 c5 c6 c7 : Nat) (lo hi : Nat) (X : Nat → Prop) (K : Int) (ls : List Lk.R) (tw : List Tu.R) (se : List Tu.R) (du : List Tu.R) (ss : List So.R) (es : List Tu.R) (la : List Ed.R) (w : World) (hK : 0 ≤ K) (hK1 : K ≤ 800000000) (hn1 : n1 = ls.length) (hn2 : n2 = tw.length) (hn3 : n3 = se.length) (hn4 : n4 = du.length) (hn5 : n5 = ss.length) (hn6 : n6 = es.length) (hn7 : n7 = la.length) (hm1 : ls.length ≤ 1048576) (hm2 : tw.length ≤ 1048576) (hm3 : se.length ≤ 1048576) (hm4 : du.length ≤ 1048576) (hm5 : ss.length ≤ 1048576) (hm6 : es.length ≤ 1048576) (hm7 : la.length ≤ 1048576) (h : Sev w lo hi X a1 a2 a3 a4 a5 a6 a7 (Lk.marks K ls.length) (Tu.marks (K + 6 * (ls.length : Int)) tw.length) (Tu.marks ((K + 6 * (ls.length : Int)) + 3 * (tw.length : Int)) se.length) (Tu.marks (((K + 6 * (ls.length : Int)) + 3 * (tw.length : Int)) + 3 * (se.length : Int)) du.length) (So.marks ((((K + 6 * (ls.length : Int)) + 3 * (tw.length : Int)) + 3 * (se.length : Int)) + 3 * (du.length : Int)) ss.length) (Tu.marks (((((K + 6 * (ls.length : Int)) + 3 * (tw.length : Int)) + 3 * (se.length : Int)) + 3 * (du.length : Int)) + 3 * (ss.length : Int)) es.length) (Ed.marks ((((((K + 6 * (ls.length : Int)) + 3 * (tw.length : Int)) + 3 * (se.length : Int)) + 3 * (du.length : Int)) + 3 * (ss.length : Int)) + 3 * (es.length : Int)) la.length)) :
    Calls Tryz.prog 15 #[.agg #[.int .i64 x1, .int .i64 x2, .int .i64 x3, .int .i64 x4, .int .i64 x5, .slice a1 n1 c1, .slice a2 n2 c2, .slice a3 n3 c3, .slice a4 n4 c4, .slice a5 n5 c5, .slice a6 n6 c6, .slice a7 n7 c7, .int .i64 x6], .int .i64 K] w fun e w' => ∃ K7 : Int, e = .returned (.int .i64 K7) ∧ Hid (K7 = (((((((K + 6 * (ls.length : Int)) + 3 * (tw.length : Int)) + 3 * (se.length : Int)) + 3 * (du.length : Int)) + 3 * (ss.length : Int)) + 3 * (es.length : Int)) + 2 * (la.length : Int))) ∧ Below w.heap.size w w' := by
  subst hn1 hn2 hn3 hn4 hn5 hn6 hn7
  obtain ⟨p1, q1, p2, q2, p3, q3, p4, q4, p5, q5, p6, q6, p7, q7, ⟨⟨u1, v1, w1⟩, ⟨u2, v2, w2⟩, ⟨u3, v3, w3⟩, ⟨u4, v4, w4⟩, ⟨u5, v5, w5⟩, ⟨u6, v6, w6⟩, ⟨u7, v7, w7⟩⟩, ⟨d12, d13, d14, d15, d16, d17, d23, d24, d25, d26, d27, d34, d35, d36, d37, d45, d46, d47, d56, d57, d67⟩, ⟨xx1, xx2, xx3, xx4, xx5, xx6, xx7⟩, h1, h2, h3, h4, h5, h6, h7⟩ := h
  refine (heldRtG x1 x2 x3 x4 x5 x6 a1 a2 a3 a4 a5 a6 a7 ls.length tw.length se.length du.length ss.length es.length la.length c1 c2 c3 c4 c5 c6 c7 p1 q1 p2 q2 p3 q3 p4 q4 p5 q5 p6 q6 p7 q7 K (K + 6 * (ls.length : Int)) ((K + 6 * (ls.length : Int)) + 3 * (tw.length : Int)) (((K + 6 * (ls.length : Int)) + 3 * (tw.length : Int)) + 3 * (se.length : Int)) ((((K + 6 * (ls.length : Int)) + 3 * (tw.length : Int)) + 3 * (se.length : Int)) + 3 * (du.length : Int)) (((((K + 6 * (ls.length : Int)) + 3 * (tw.length : Int)) + 3 * (se.length : Int)) + 3 * (du.length : Int)) + 3 * (ss.length : Int)) ((((((K + 6 * (ls.length : Int)) + 3 * (tw.length : Int)) + 3 * (se.length : Int)) + 3 * (du.length : Int)) + 3 * (ss.length : Int)) + 3 * (es.length : Int)) (((((((K + 6 * (ls.length : Int)) + 3 * (tw.length : Int)) + 3 * (se.length : Int)) + 3 * (du.length : Int)) + 3 * (ss.length : Int)) + 3 * (es.length : Int)) + 2 * (la.length : Int)) w (by omega) (by omega) rfl rfl rfl rfl rfl rfl rfl hm1 hm2 hm3 hm4 hm5 hm6 hm7 h1 h2 h3 h4 h5 h6 h7).mono ?_
  rintro e w' ⟨rfl, hb⟩
  exact ⟨_, rfl, hide rfl, hb⟩
end Rt
end Go.Proofs.YtiipppfkpgbpeaaGreat
namespace Go.Proofs.YtiipppfkpgbpeaaGreat
open Go.ChangeShapes Go.WideShapes Go.ChangeAt Go.RowKit
set_option linter.unusedVariables false
set_option linter.unusedSimpArgs false
attribute [local go_sem ↓] Go.wp_at_zero Go.wp_at_succ
namespace Ln
open W1 Lk
def okL (m : R) : Bool := inB m.ad 1 8 && (inB m.hd 0 1073741824 && (inB m.sy 0 1073741824 && (inB m.ci 1 256 && (inB m.co 0 16744448 && inB m.wl 0 7))))
abbrev allL (ms : List R) (j : Nat) : Bool := Ri.all R.zero okL R.ad ms j
/-- Whether links are right. -/
def linksB (ms : List R) : Bool := allL ms ms.length
/-- The code of a list of links: too long, not right, or none. -/
def codeL (ms : List R) : Int := if 4096 < ms.length then 2 else if linksB ms = true then 0 else 1
/-- A link's status at a time. -/
def statusV (m : R) (now : Int) : Int := if m.hd ≤ now then 0 else if now < m.sy then 2 else 1
theorem ok_ad {m : R} (h : okL m = true) : 1 ≤ m.ad ∧ m.ad ≤ 8 := by
  unfold okL inB at h; simp at h; exact h.1
theorem ok_sy {m : R} (h : okL m = true) : 0 ≤ m.sy ∧ m.sy ≤ 1073741824 := by
  unfold okL inB at h; simp at h; exact h.2.2.1
theorem ok_co {m : R} (h : okL m = true) : 0 ≤ m.co ∧ m.co ≤ 16744448 := by
  unfold okL inB at h; simp at h; exact h.2.2.2.2.1
theorem links_len {ms : List R} (h : linksB ms = true) : ms.length ≤ 8 := by
  have := Ri.all_long (lo := 1) (hi := 8) (fun m hm => ok_ad hm) h; omega
theorem code_zero {ms : List R} (h : linksB ms = true) : codeL ms = 0 := by
  have := links_len h
  unfold codeL; rw [if_neg (by omega), if_pos h]
set_option maxHeartbeats 1000000 in
theorem l06Link (ad hd sy ci co wl : Int) (w : World) :
    Calls Tryz.prog 144 #[.agg #[.int .i64 ad, .int .i64 hd, .int .i64 sy, .int .i64 ci, .int .i64 co, .int .i64 wl]] w fun e w' => e = .returned (.bool (okL ⟨ad, hd, sy, ci, co, wl⟩)) ∧ Below w.heap.size w w' := by
  have E : Hid (okL ⟨ad, hd, sy, ci, co, wl⟩ = (inB ad 1 8 && (inB hd 0 1073741824 && (inB sy 0 1073741824 && (inB ci 1 256 && (inB co 0 16744448 && inB wl 0 7)))))) := hide rfl
  cases h1 : inB ad 1 8
  rotate_left
  cases h2 : inB hd 0 1073741824
  rotate_left
  cases h3 : inB sy 0 1073741824
  rotate_left
  cases h4 : inB ci 1 256
  rotate_left
  cases h5 : inB co 0 16744448
  rotate_left
  cases h6 : inB wl 0 7
  all_goals
    go_enter Tryz.func144, Tryz.ntmps144
    go_wp2_with (first | (go_at_call 64; refine (l01In _ _ _ _).mono ?_; rintro e w' ⟨rfl, rfl⟩) | (go_at_call 63; refine (l01Addr _ _).mono ?_; rintro e w' ⟨rfl, rfl⟩))
    go_ret
    exact ⟨ret_bool (by rw [unhide E]; simp [*]), (Below.refl _ _).alloc (Nat.le_refl _) _⟩
set_option maxHeartbeats 1000000 in
theorem l06Status (ad hd sy ci co wl now : Int) (w : World) :
    Calls Tryz.prog 141 #[.agg #[.int .i64 ad, .int .i64 hd, .int .i64 sy, .int .i64 ci, .int .i64 co, .int .i64 wl], .int .i64 now] w fun e w' => e = .returned (.int .i64 (statusV ⟨ad, hd, sy, ci, co, wl⟩ now)) ∧ Below w.heap.size w w' := by
  have E : Hid (statusV ⟨ad, hd, sy, ci, co, wl⟩ now = if hd ≤ now then 0 else if now < sy then 2 else 1) := hide rfl
  by_cases h1 : hd ≤ now
  · go_enter Tryz.func141, Tryz.ntmps141
    go_wp2
    go_ret
    exact ⟨ret_int (by rw [unhide E, if_pos (by omega)]), (Below.refl _ _).alloc (Nat.le_refl _) _⟩
  · by_cases h2 : now < sy
    · go_enter Tryz.func141, Tryz.ntmps141
      go_wp2
      go_ret
      exact ⟨ret_int (by rw [unhide E, if_neg (by omega), if_pos (by omega)]), (Below.refl _ _).alloc (Nat.le_refl _) _⟩
    · go_enter Tryz.func141, Tryz.ntmps141
      go_wp2
      go_ret
      exact ⟨ret_int (by rw [unhide E, if_neg (by omega), if_neg (by omega)]), (Below.refl _ _).alloc (Nat.le_refl _) _⟩
theorem isWill (n : Int) (w : World) : Calls Tryz.prog 97 #[.int .i64 n] w fun e w' => e = .returned (.bool (inB n 0 7)) ∧ w' = w := by
  go_enter Tryz.func97, Tryz.ntmps97
  go_wp2_with (go_at_call 99; refine (within _ _ _ _).mono ?_; rintro e w' ⟨rfl, rfl⟩)
  go_ret
  exact ⟨rfl, rfl⟩
theorem isIn (n : Int) (w : World) : Calls Tryz.prog 136 #[.int .i64 n] w fun e w' => e = .returned (.bool (inB n 1 256)) ∧ w' = w := by
  go_enter Tryz.func136, Tryz.ntmps136
  go_wp2_with (go_at_call 99; refine (within _ _ _ _).mono ?_; rintro e w' ⟨rfl, rfl⟩)
  go_ret
  exact ⟨rfl, rfl⟩
set_option maxHeartbeats 1000000 in
theorem isLink (ad hd sy ci co wl : Int) (w : World) :
    Calls Tryz.prog 220 #[.agg #[.int .i64 ad, .int .i64 hd, .int .i64 sy, .int .i64 ci, .int .i64 co, .int .i64 wl]] w fun e w' => e = .returned (.bool (okL ⟨ad, hd, sy, ci, co, wl⟩)) ∧ Below w.heap.size w w' := by
  have E : Hid (okL ⟨ad, hd, sy, ci, co, wl⟩ = (inB ad 1 8 && (inB hd 0 1073741824 && (inB sy 0 1073741824 && (inB ci 1 256 && (inB co 0 16744448 && inB wl 0 7)))))) := hide rfl
  cases h1 : inB ad 1 8
  rotate_left
  cases h2 : inB hd 0 1073741824
  rotate_left
  cases h3 : inB sy 0 1073741824
  rotate_left
  cases h4 : inB ci 1 256
  rotate_left
  cases h5 : inB co 0 16744448
  rotate_left
  cases h6 : inB wl 0 7
  all_goals
    go_enter Tryz.func220, Tryz.ntmps220
    go_wp2_with (first | (go_at_call 99; refine (within _ _ _ _).mono ?_; rintro e w' ⟨rfl, rfl⟩) | (go_at_call 96; refine (isAddress _ _).mono ?_; rintro e w' ⟨rfl, rfl⟩) | (go_at_call 136; refine (isIn _ _).mono ?_; rintro e w' ⟨rfl, rfl⟩) | (go_at_call 97; refine (isWill _ _).mono ?_; rintro e w' ⟨rfl, rfl⟩))
    go_ret
    exact ⟨ret_bool (by rw [unhide E]; simp [*]), (Below.refl _ _).alloc (Nat.le_refl _) _⟩
set_option maxHeartbeats 1000000 in
theorem implStatus (ad hd sy ci co wl now : Int) (w : World) :
    Calls Tryz.prog 120 #[.agg #[.int .i64 ad, .int .i64 hd, .int .i64 sy, .int .i64 ci, .int .i64 co, .int .i64 wl], .int .i64 now] w fun e w' => e = .returned (.int .i64 (statusV ⟨ad, hd, sy, ci, co, wl⟩ now)) ∧ Below w.heap.size w w' := by
  have E : Hid (statusV ⟨ad, hd, sy, ci, co, wl⟩ now = if hd ≤ now then 0 else if now < sy then 2 else 1) := hide rfl
  by_cases h1 : hd ≤ now
  · go_enter Tryz.func120, Tryz.ntmps120
    go_wp2
    go_ret
    exact ⟨ret_int (by rw [unhide E, if_pos (by omega)]), (Below.refl _ _).alloc (Nat.le_refl _) _⟩
  · by_cases h2 : now < sy
    · go_enter Tryz.func120, Tryz.ntmps120
      go_wp2
      go_ret
      exact ⟨ret_int (by rw [unhide E, if_neg (by omega), if_pos (by omega)]), (Below.refl _ _).alloc (Nat.le_refl _) _⟩
    · go_enter Tryz.func120, Tryz.ntmps120
      go_wp2
      go_ret
      exact ⟨ret_int (by rw [unhide E, if_neg (by omega), if_neg (by omega)]), (Below.refl _ _).alloc (Nat.le_refl _) _⟩
end Ln
end Go.Proofs.YtiipppfkpgbpeaaGreat
namespace Go.Proofs.YtiipppfkpgbpeaaGreat
open Go.ChangeShapes Go.WideShapes Go.ChangeAt Go.RowKit
set_option linter.unusedVariables false
set_option linter.unusedSimpArgs false
attribute [local go_sem ↓] Go.wp_at_zero Go.wp_at_succ
namespace Ln
open W1 Lk
/-- A link in a variable's block. -/
def Bx (w : World) (b : Nat) (m : R) : Prop := w.cell? ⟨b, 0, none⟩ = some (.int .i64 m.ad) ∧ w.cell? ⟨b, 1, none⟩ = some (.int .i64 m.hd) ∧ w.cell? ⟨b, 2, none⟩ = some (.int .i64 m.sy) ∧ w.cell? ⟨b, 3, none⟩ = some (.int .i64 m.ci) ∧ w.cell? ⟨b, 4, none⟩ = some (.int .i64 m.co) ∧ w.cell? ⟨b, 5, none⟩ = some (.int .i64 m.wl)
theorem Bx.below {w w' : World} {b : Nat} {m : R} (h : Bx w b m) (hb : Below w.heap.size w w') : Bx w' b m := by
  have hg : b < w.heap.size := World.block_lt_of_cell? _ _ h.1
  obtain ⟨h0, h1, h2, h3, h4, h5⟩ := h
  refine ⟨?_, ?_, ?_, ?_, ?_, ?_⟩ <;> (rw [hb.cell hg]; assumption)
theorem Bx.lt {w : World} {b : Nat} {m : R} (h : Bx w b m) : b < w.heap.size := World.block_lt_of_cell? _ _ h.1
theorem Bx.drew {w : World} {b : Nat} {m : R} (h : Bx w b m) : Bx w.drew b m := h
theorem bx_new (w : World) (m : R) (t : Nat) : Bx (w.alloc (.cells #[.int .i64 m.ad, .int .i64 m.hd, .int .i64 m.sy, .int .i64 m.ci, .int .i64 m.co, .int .i64 m.wl] t)) w.heap.size m := by
  refine ⟨?_, ?_, ?_, ?_, ?_, ?_⟩ <;> simp [World.cell?_alloc_new]
theorem sBox {w : World} {b : Nat} {ad hd sy ci co wl : Int} (h : Bx w b ⟨ad, hd, sy, ci, co, wl⟩) : Bx w b ⟨ad, hd, sy, ci, co, wl⟩ ∧ w.cell? ⟨b, 0, none⟩ = some (.int .i64 ad) ∧ w.cell? ⟨b, 1, none⟩ = some (.int .i64 hd) ∧ w.cell? ⟨b, 2, none⟩ = some (.int .i64 sy) ∧ w.cell? ⟨b, 3, none⟩ = some (.int .i64 ci) ∧ w.cell? ⟨b, 4, none⟩ = some (.int .i64 co) ∧ w.cell? ⟨b, 5, none⟩ = some (.int .i64 wl) := ⟨h, h⟩
theorem sBox2 {w : World} {b g p : Nat} {m : R} {ad hd sy ci co wl : Int} (h : Bx w b ⟨ad, hd, sy, ci, co, wl⟩) (h' : At w g p m) :
    (Bx w b ⟨ad, hd, sy, ci, co, wl⟩ ∧ At w g p m) ∧ w.cell? ⟨b, 0, none⟩ = some (.int .i64 ad) ∧ w.cell? ⟨b, 1, none⟩ = some (.int .i64 hd) ∧ w.cell? ⟨b, 2, none⟩ = some (.int .i64 sy) ∧ w.cell? ⟨b, 3, none⟩ = some (.int .i64 ci) ∧ w.cell? ⟨b, 4, none⟩ = some (.int .i64 co) ∧ w.cell? ⟨b, 5, none⟩ = some (.int .i64 wl) ∧ w.cell? ⟨g, p, none⟩ = some (.int .i64 m.ad) := ⟨⟨h, h'⟩, h.1, h.2.1, h.2.2.1, h.2.2.2.1, h.2.2.2.2.1, h.2.2.2.2.2, h'.1⟩
set_option maxRecDepth 100000 in
set_option maxHeartbeats 4000000 in
theorem implOK (a : Option Addr) (ms : List R) (cap : Nat) (w : World) (hm : ms.length ≤ 1048576) (hr : RM w a ms) :
    Calls Tryz.prog 157 #[.slice a ms.length cap] w fun e w' => e = .returned (.bool (linksB ms)) ∧ Below w.heap.size w w' := by
  have HR := hide hr
  clear hr
  generalize hN : ms.length = n at *
  have HN := hide hN
  clear hN
  go_enter Tryz.func157, Tryz.ntmps157
  go_wp2
  go_loopw [7] (fun i wr => ∃ j : Nat, j ≤ n ∧ i = .int .i64 j ∧ Hid (allL ms j = true) ∧ Hid (Below w.heap.size w wr)) (fun i _ => n - (intOf i).toNat)
  case atStart => exact ⟨0, by omega, rfl, hide Ri.all_zero, hide (Below.refl _ _)⟩
  case round =>
    obtain ⟨j, hj, rfl, hrl, hbl⟩ := hrel
    by_cases hlt : (j : Int) < (n : Int)
    · have k0 : (0 : Int) ≤ (j : Int) := by omega
      have hlen : j < ms.length := by rw [unhide HN]; omega
      rcases (unhide HR).below (by exact (unhide hbl)) with e0 | ⟨g, off, rfl, hc⟩
      · exfalso; rw [e0] at hlen; simp at hlen
      have HL := hide hlen
      have hA := hc j hlen
      have hsz := (unhide hbl).size
      have HBX := hide (bx_new wr (ms.getD j R.zero) 118)
      have HBL := hide ((unhide hbl).alloc hsz (.cells #[.int .i64 (ms.getD j R.zero).ad, .int .i64 (ms.getD j R.zero).hd, .int .i64 (ms.getD j R.zero).sy, .int .i64 (ms.getD j R.zero).ci, .int .i64 (ms.getD j R.zero).co, .int .i64 (ms.getD j R.zero).wl] 118))
      cases hk : okL (ms.getD j R.zero)
      · clear hc
        have HST := hide (Ri.all_no hlen (Ri.step_bad (key := R.ad) hk))
        have HK := hide hk
        clear hk
        generalize ms.getD j R.zero = m at *
        obtain ⟨ad, hd, sy, ci, co, wl⟩ := m
        obtain ⟨c0, c1, c2, c3, c4, c5⟩ := hA
        dsimp only at c0 c1 c2 c3 c4 c5
        go_wp2_with fail
        generalize hW : wr.alloc (.cells #[.int .i64 ad, .int .i64 hd, .int .i64 sy, .int .i64 ci, .int .i64 co, .int .i64 wl] 118) = W0 at *
        clear hW
        refine wp_region_noPanic ?_
        refine wp_region_held_drew (S := fun w' => Bx w' wr.heap.size ⟨ad, hd, sy, ci, co, wl⟩ ∧ w'.cell? ⟨wr.heap.size, 0, none⟩ = some (.int .i64 ad) ∧ w'.cell? ⟨wr.heap.size, 1, none⟩ = some (.int .i64 hd) ∧ w'.cell? ⟨wr.heap.size, 2, none⟩ = some (.int .i64 sy) ∧ w'.cell? ⟨wr.heap.size, 3, none⟩ = some (.int .i64 ci) ∧ w'.cell? ⟨wr.heap.size, 4, none⟩ = some (.int .i64 co) ∧ w'.cell? ⟨wr.heap.size, 5, none⟩ = some (.int .i64 wl)) (by kernel_rfl) (sBox (unhide HBX).drew) (fun hHeld => ?_)
        (refine Rg.tk (i := 0) (d := 12) (v := ?_) rfl rfl (by kernel_rfl) (by kernel_rfl) (by kernel_rfl) (fun _ _ _ h => h) (by rfl) ?_ (by assumption) ?_; rotate_left; (focus (intro w0 hSw; (try dsimp only at hSw); go_simp; (try with_reducible rfl))); (try simp only [Act.put, List.setIfInBounds_toArray, List.set_cons_zero, List.set_cons_succ]))
        (refine wpAnyH_ready (rs := [1]) (by kernel_rfl) (by simp) ?_; refine AllReadyH.cons (o := _) rfl (fun K hK => ?_) AllReadyH.nil; go_simp)
        refine (isLink ad hd sy ci co wl _).mono ?_
        rintro e w2 ⟨rfl, b2⟩
        rw [unhide HK]
        refine hK.out _ _ (sBox ((unhide HBX).drew.below b2)) (fun hHeld => ?_)
        clear hK K
        (try simp only [Act.put, List.setIfInBounds_toArray, List.set_cons_zero, List.set_cons_succ])
        (refine Rg.tk (i := 2) (d := 14) (v := ?_) rfl rfl (by kernel_rfl) (by kernel_rfl) (by kernel_rfl) (fun _ _ _ h => h) (by rfl) ?_ (by assumption) ?_; rotate_left; (focus (intro w0 hSw; (try dsimp only at hSw); go_simp; (try with_reducible rfl))); (try simp only [Act.put, List.setIfInBounds_toArray, List.set_cons_zero, List.set_cons_succ]))
        (refine Rg.tk (i := 3) (d := 15) (v := ?_) rfl rfl (by kernel_rfl) (by kernel_rfl) (by kernel_rfl) (fun _ _ _ h => h) (by rfl) ?_ (by assumption) ?_; rotate_left; (focus (intro w0 hSw; (try dsimp only at hSw); go_simp; (try with_reducible rfl))); (try simp only [Act.put, List.setIfInBounds_toArray, List.set_cons_zero, List.set_cons_succ]))
        (refine Rg.sk (i := 4) (d := 16) rfl rfl (by kernel_rfl) (by kernel_rfl) (by kernel_rfl) (fun _ _ _ h => h) (by first | kernel_rfl | rfl) (by assumption) ?_; (try simp only [Act.put, List.setIfInBounds_toArray, List.set_cons_zero, List.set_cons_succ]))
        (refine Rg.sk (i := 5) (d := 17) rfl rfl (by kernel_rfl) (by kernel_rfl) (by kernel_rfl) (fun _ _ _ h => h) (by first | kernel_rfl | rfl) (by assumption) ?_; (try simp only [Act.put, List.setIfInBounds_toArray, List.set_cons_zero, List.set_cons_succ]))
        (refine Rg.sk (i := 6) (d := 18) rfl rfl (by kernel_rfl) (by kernel_rfl) (by kernel_rfl) (fun _ _ _ h => h) (by first | kernel_rfl | rfl) (by assumption) ?_; (try simp only [Act.put, List.setIfInBounds_toArray, List.set_cons_zero, List.set_cons_succ]))
        (refine Rg.sk (i := 7) (d := 19) rfl rfl (by kernel_rfl) (by kernel_rfl) (by kernel_rfl) (fun _ _ _ h => h) (by first | kernel_rfl | rfl) (by assumption) ?_; (try simp only [Act.put, List.setIfInBounds_toArray, List.set_cons_zero, List.set_cons_succ]))
        (refine Rg.sk (i := 8) (d := 20) rfl rfl (by kernel_rfl) (by kernel_rfl) (by kernel_rfl) (fun _ _ _ h => h) (by first | kernel_rfl | rfl) (by assumption) ?_; (try simp only [Act.put, List.setIfInBounds_toArray, List.set_cons_zero, List.set_cons_succ]))
        (refine Rg.sk (i := 9) (d := 21) rfl rfl (by kernel_rfl) (by kernel_rfl) (by kernel_rfl) (fun _ _ _ h => h) (by first | kernel_rfl | rfl) (by assumption) ?_; (try simp only [Act.put, List.setIfInBounds_toArray, List.set_cons_zero, List.set_cons_succ]))
        (refine Rg.sk (i := 10) (d := 22) rfl rfl (by kernel_rfl) (by kernel_rfl) (by kernel_rfl) (fun _ _ _ h => h) (by first | kernel_rfl | rfl) (by assumption) ?_; (try simp only [Act.put, List.setIfInBounds_toArray, List.set_cons_zero, List.set_cons_succ]))
        (refine Rg.sk (i := 11) (d := 23) rfl rfl (by kernel_rfl) (by kernel_rfl) (by kernel_rfl) (fun _ _ _ h => h) (by first | kernel_rfl | rfl) (by assumption) ?_; (try simp only [Act.put, List.setIfInBounds_toArray, List.set_cons_zero, List.set_cons_succ]))
        (refine Rg.sk (i := 12) (d := 24) rfl rfl (by kernel_rfl) (by kernel_rfl) (by kernel_rfl) (fun _ _ _ h => h) (by first | kernel_rfl | rfl) (by assumption) ?_; (try simp only [Act.put, List.setIfInBounds_toArray, List.set_cons_zero, List.set_cons_succ]))
        (refine Rg.sk (i := 13) (d := 25) rfl rfl (by kernel_rfl) (by kernel_rfl) (by kernel_rfl) (fun _ _ _ h => h) (by first | kernel_rfl | rfl) (by assumption) ?_; (try simp only [Act.put, List.setIfInBounds_toArray, List.set_cons_zero, List.set_cons_succ]))
        (refine Rg.sk (i := 14) (d := 26) rfl rfl (by kernel_rfl) (by kernel_rfl) (by kernel_rfl) (fun _ _ _ h => h) (by first | kernel_rfl | rfl) (by assumption) ?_; (try simp only [Act.put, List.setIfInBounds_toArray, List.set_cons_zero, List.set_cons_succ]))
        (refine Rg.sk (i := 15) (d := 27) rfl rfl (by kernel_rfl) (by kernel_rfl) (by kernel_rfl) (fun _ _ _ h => h) (by first | kernel_rfl | rfl) (by assumption) ?_; (try simp only [Act.put, List.setIfInBounds_toArray, List.set_cons_zero, List.set_cons_succ]))
        (refine Rg.sk (i := 16) (d := 28) rfl rfl (by kernel_rfl) (by kernel_rfl) (by kernel_rfl) (fun _ _ _ h => h) (by first | kernel_rfl | rfl) (by assumption) ?_; (try simp only [Act.put, List.setIfInBounds_toArray, List.set_cons_zero, List.set_cons_succ]))
        (refine Rg.tk (i := 17) (d := 29) (v := ?_) rfl rfl (by kernel_rfl) (by kernel_rfl) (by kernel_rfl) (fun _ _ _ h => h) (by rfl) ?_ (by assumption) ?_; rotate_left; (focus (intro w0 hSw; (try dsimp only at hSw); go_simp; (try with_reducible rfl))); (try simp only [Act.put, List.setIfInBounds_toArray, List.set_cons_zero, List.set_cons_succ]))
        refine wpAnyH_done (by kernel_rfl) (NoPanic.normal ?_) _
        have hb1 := hide ((unhide HBL).drew.trans (b2.mono (by show w.heap.size ≤ W0.heap.size; exact (unhide HBL).size)))
        go_wp2_with fail
        go_ret
        exact ⟨ret_bool (unhide HST).symm, unhide hb1⟩
      have HK := hide hk
      clear hk
      by_cases hj0 : j = 0
      · subst hj0
        clear hc
        rw [Nat.zero_mul, Nat.add_zero] at hA
        have HST := hide (Ri.all_succ (unhide hrl) (Ri.step_zero (key := R.ad) (unhide HK)))
        generalize ms.getD 0 R.zero = m at *
        obtain ⟨ad, hd, sy, ci, co, wl⟩ := m
        obtain ⟨c0, c1, c2, c3, c4, c5⟩ := hA
        dsimp only at c0 c1 c2 c3 c4 c5
        go_wp2_with fail
        generalize hW : wr.alloc (.cells #[.int .i64 ad, .int .i64 hd, .int .i64 sy, .int .i64 ci, .int .i64 co, .int .i64 wl] 118) = W0 at *
        clear hW
        refine wp_region_noPanic ?_
        refine wp_region_held_drew (S := fun w' => Bx w' wr.heap.size ⟨ad, hd, sy, ci, co, wl⟩ ∧ w'.cell? ⟨wr.heap.size, 0, none⟩ = some (.int .i64 ad) ∧ w'.cell? ⟨wr.heap.size, 1, none⟩ = some (.int .i64 hd) ∧ w'.cell? ⟨wr.heap.size, 2, none⟩ = some (.int .i64 sy) ∧ w'.cell? ⟨wr.heap.size, 3, none⟩ = some (.int .i64 ci) ∧ w'.cell? ⟨wr.heap.size, 4, none⟩ = some (.int .i64 co) ∧ w'.cell? ⟨wr.heap.size, 5, none⟩ = some (.int .i64 wl)) (by kernel_rfl) (sBox (unhide HBX).drew) (fun hHeld => ?_)
        (refine Rg.tk (i := 0) (d := 12) (v := ?_) rfl rfl (by kernel_rfl) (by kernel_rfl) (by kernel_rfl) (fun _ _ _ h => h) (by rfl) ?_ (by assumption) ?_; rotate_left; (focus (intro w0 hSw; (try dsimp only at hSw); go_simp; (try with_reducible rfl))); (try simp only [Act.put, List.setIfInBounds_toArray, List.set_cons_zero, List.set_cons_succ]))
        (refine wpAnyH_ready (rs := [1]) (by kernel_rfl) (by simp) ?_; refine AllReadyH.cons (o := _) rfl (fun K hK => ?_) AllReadyH.nil; go_simp)
        refine (isLink ad hd sy ci co wl _).mono ?_
        rintro e w2 ⟨rfl, b2⟩
        rw [unhide HK]
        refine hK.out _ _ (sBox ((unhide HBX).drew.below b2)) (fun hHeld => ?_)
        clear hK K
        (try simp only [Act.put, List.setIfInBounds_toArray, List.set_cons_zero, List.set_cons_succ])
        (refine Rg.tk (i := 2) (d := 14) (v := ?_) rfl rfl (by kernel_rfl) (by kernel_rfl) (by kernel_rfl) (fun _ _ _ h => h) (by rfl) ?_ (by assumption) ?_; rotate_left; (focus (intro w0 hSw; (try dsimp only at hSw); go_simp; (try with_reducible rfl))); (try simp only [Act.put, List.setIfInBounds_toArray, List.set_cons_zero, List.set_cons_succ]))
        (refine Rg.tk (i := 3) (d := 15) (v := ?_) rfl rfl (by kernel_rfl) (by kernel_rfl) (by kernel_rfl) (fun _ _ _ h => h) (by rfl) ?_ (by assumption) ?_; rotate_left; (focus (intro w0 hSw; (try dsimp only at hSw); go_simp; (try with_reducible rfl))); (try simp only [Act.put, List.setIfInBounds_toArray, List.set_cons_zero, List.set_cons_succ]))
        (refine Rg.tk (i := 4) (d := 16) (v := ?_) rfl rfl (by kernel_rfl) (by kernel_rfl) (by kernel_rfl) (fun _ _ _ h => h) (by rfl) ?_ (by assumption) ?_; rotate_left; (focus (intro w0 hSw; (try dsimp only at hSw); go_simp; (try with_reducible rfl))); (try simp only [Act.put, List.setIfInBounds_toArray, List.set_cons_zero, List.set_cons_succ]))
        (refine Rg.tk (i := 5) (d := 17) (v := ?_) rfl rfl (by kernel_rfl) (by kernel_rfl) (by kernel_rfl) (fun _ _ _ h => h) (by rfl) ?_ (by assumption) ?_; rotate_left; (focus (intro w0 hSw; (try dsimp only at hSw); go_simp; (try with_reducible rfl))); (try simp only [Act.put, List.setIfInBounds_toArray, List.set_cons_zero, List.set_cons_succ]))
        (refine Rg.tk (i := 6) (d := 18) (v := ?_) rfl rfl (by kernel_rfl) (by kernel_rfl) (by kernel_rfl) (fun _ _ _ h => h) (by rfl) ?_ (by assumption) ?_; rotate_left; (focus (intro w0 hSw; (try dsimp only at hSw); go_simp; (try with_reducible rfl))); (try simp only [Act.put, List.setIfInBounds_toArray, List.set_cons_zero, List.set_cons_succ]))
        (refine Rg.sk (i := 7) (d := 19) rfl rfl (by kernel_rfl) (by kernel_rfl) (by kernel_rfl) (fun _ _ _ h => h) (by first | kernel_rfl | rfl) (by assumption) ?_; (try simp only [Act.put, List.setIfInBounds_toArray, List.set_cons_zero, List.set_cons_succ]))
        (refine Rg.sk (i := 8) (d := 20) rfl rfl (by kernel_rfl) (by kernel_rfl) (by kernel_rfl) (fun _ _ _ h => h) (by first | kernel_rfl | rfl) (by assumption) ?_; (try simp only [Act.put, List.setIfInBounds_toArray, List.set_cons_zero, List.set_cons_succ]))
        (refine Rg.sk (i := 9) (d := 21) rfl rfl (by kernel_rfl) (by kernel_rfl) (by kernel_rfl) (fun _ _ _ h => h) (by first | kernel_rfl | rfl) (by assumption) ?_; (try simp only [Act.put, List.setIfInBounds_toArray, List.set_cons_zero, List.set_cons_succ]))
        (refine Rg.sk (i := 10) (d := 22) rfl rfl (by kernel_rfl) (by kernel_rfl) (by kernel_rfl) (fun _ _ _ h => h) (by first | kernel_rfl | rfl) (by assumption) ?_; (try simp only [Act.put, List.setIfInBounds_toArray, List.set_cons_zero, List.set_cons_succ]))
        (refine Rg.sk (i := 11) (d := 23) rfl rfl (by kernel_rfl) (by kernel_rfl) (by kernel_rfl) (fun _ _ _ h => h) (by first | kernel_rfl | rfl) (by assumption) ?_; (try simp only [Act.put, List.setIfInBounds_toArray, List.set_cons_zero, List.set_cons_succ]))
        (refine Rg.sk (i := 12) (d := 24) rfl rfl (by kernel_rfl) (by kernel_rfl) (by kernel_rfl) (fun _ _ _ h => h) (by first | kernel_rfl | rfl) (by assumption) ?_; (try simp only [Act.put, List.setIfInBounds_toArray, List.set_cons_zero, List.set_cons_succ]))
        (refine Rg.sk (i := 13) (d := 25) rfl rfl (by kernel_rfl) (by kernel_rfl) (by kernel_rfl) (fun _ _ _ h => h) (by first | kernel_rfl | rfl) (by assumption) ?_; (try simp only [Act.put, List.setIfInBounds_toArray, List.set_cons_zero, List.set_cons_succ]))
        (refine Rg.sk (i := 14) (d := 26) rfl rfl (by kernel_rfl) (by kernel_rfl) (by kernel_rfl) (fun _ _ _ h => h) (by first | kernel_rfl | rfl) (by assumption) ?_; (try simp only [Act.put, List.setIfInBounds_toArray, List.set_cons_zero, List.set_cons_succ]))
        (refine Rg.sk (i := 15) (d := 27) rfl rfl (by kernel_rfl) (by kernel_rfl) (by kernel_rfl) (fun _ _ _ h => h) (by first | kernel_rfl | rfl) (by assumption) ?_; (try simp only [Act.put, List.setIfInBounds_toArray, List.set_cons_zero, List.set_cons_succ]))
        (refine Rg.tk (i := 16) (d := 28) (v := ?_) rfl rfl (by kernel_rfl) (by kernel_rfl) (by kernel_rfl) (fun _ _ _ h => h) (by rfl) ?_ (by assumption) ?_; rotate_left; (focus (intro w0 hSw; (try dsimp only at hSw); go_simp; (try with_reducible rfl))); (try simp only [Act.put, List.setIfInBounds_toArray, List.set_cons_zero, List.set_cons_succ]))
        (refine Rg.tk (i := 17) (d := 29) (v := ?_) rfl rfl (by kernel_rfl) (by kernel_rfl) (by kernel_rfl) (fun _ _ _ h => h) (by rfl) ?_ (by assumption) ?_; rotate_left; (focus (intro w0 hSw; (try dsimp only at hSw); go_simp; (try with_reducible rfl))); (try simp only [Act.put, List.setIfInBounds_toArray, List.set_cons_zero, List.set_cons_succ]))
        refine wpAnyH_done (by kernel_rfl) (NoPanic.normal ?_) _
        have hb1 := hide ((unhide HBL).drew.trans (b2.mono (by show w.heap.size ≤ W0.heap.size; exact (unhide HBL).size)))
        go_wp2_with fail
        go_roundw
        case rel => exact ⟨0 + 1, by omega, by go_num, HST, hb1⟩
        case measure => simp [intOf]; omega
      · obtain ⟨i, hji⟩ : ∃ i, j = i + 1 := ⟨j - 1, by omega⟩
        have HJ := hide hji
        have e1 : (j : Int) - 1 = (i : Int) := by omega
        have i0 : (0 : Int) ≤ (i : Int) := by omega
        have wi : IntKind.i64.wrap (i : Int) = (i : Int) := by rw [IntKind.wrap_i64]; omega
        have i1 : (i : Int) < (n : Int) := by omega
        have j1 : (0 : Int) < (j : Int) := by omega
        have j2 : 0 < j := by omega
        have hP := hide ((hc i (by omega)).below ((Below.refl _ _).alloc (Nat.le_refl _) (.cells #[.int .i64 (ms.getD j R.zero).ad, .int .i64 (ms.getD j R.zero).hd, .int .i64 (ms.getD j R.zero).sy, .int .i64 (ms.getD j R.zero).ci, .int .i64 (ms.getD j R.zero).co, .int .i64 (ms.getD j R.zero).wl] 118)))
        have EJ : ms.getD j R.zero = ms.getD (i + 1) R.zero := by rw [hji]
        clear hc hji
        by_cases hk : (ms.getD i R.zero).ad < (ms.getD j R.zero).ad
        · have HST : Hid (allL ms (j + 1) = true) := hide (Ri.all_succ (unhide hrl) (by rw [unhide HJ]; exact Ri.step_lt (by rw [← EJ]; exact unhide HK) (by rw [← EJ]; exact hk)))
          clear EJ
          generalize ms.getD i R.zero = m0 at *
          obtain ⟨ad0, hd0, sy0, ci0, co0, wl0⟩ := m0
          dsimp only at hk
          generalize ms.getD j R.zero = m at *
          obtain ⟨ad, hd, sy, ci, co, wl⟩ := m
          obtain ⟨c0, c1, c2, c3, c4, c5⟩ := hA
          dsimp only at hk c0 c1 c2 c3 c4 c5
          go_wp2_with fail
          generalize hW : wr.alloc (.cells #[.int .i64 ad, .int .i64 hd, .int .i64 sy, .int .i64 ci, .int .i64 co, .int .i64 wl] 118) = W0 at *
          clear hW
          refine wp_region_noPanic ?_
          refine wp_region_held_drew (S := fun w' => (Bx w' wr.heap.size ⟨ad, hd, sy, ci, co, wl⟩ ∧ At w' g (off + i * 6) ⟨ad0, hd0, sy0, ci0, co0, wl0⟩) ∧ w'.cell? ⟨wr.heap.size, 0, none⟩ = some (.int .i64 ad) ∧ w'.cell? ⟨wr.heap.size, 1, none⟩ = some (.int .i64 hd) ∧ w'.cell? ⟨wr.heap.size, 2, none⟩ = some (.int .i64 sy) ∧ w'.cell? ⟨wr.heap.size, 3, none⟩ = some (.int .i64 ci) ∧ w'.cell? ⟨wr.heap.size, 4, none⟩ = some (.int .i64 co) ∧ w'.cell? ⟨wr.heap.size, 5, none⟩ = some (.int .i64 wl) ∧ w'.cell? ⟨g, off + i * 6, none⟩ = some (.int .i64 ad0)) (by kernel_rfl) (sBox2 (unhide HBX).drew (unhide hP).drew) (fun hHeld => ?_)
          (refine Rg.tk (i := 0) (d := 12) (v := ?_) rfl rfl (by kernel_rfl) (by kernel_rfl) (by kernel_rfl) (fun _ _ _ h => h) (by rfl) ?_ (by assumption) ?_; rotate_left; (focus (intro w0 hSw; (try dsimp only at hSw); go_simp; (try with_reducible rfl))); (try simp only [Act.put, List.setIfInBounds_toArray, List.set_cons_zero, List.set_cons_succ]))
          (refine wpAnyH_ready (rs := [1]) (by kernel_rfl) (by simp) ?_; refine AllReadyH.cons (o := _) rfl (fun K hK => ?_) AllReadyH.nil; go_simp)
          refine (isLink ad hd sy ci co wl _).mono ?_
          rintro e w2 ⟨rfl, b2⟩
          rw [unhide HK]
          refine hK.out _ _ (sBox2 ((unhide HBX).drew.below b2) ((unhide hP).drew.below b2)) (fun hHeld => ?_)
          clear hK K
          (try simp only [Act.put, List.setIfInBounds_toArray, List.set_cons_zero, List.set_cons_succ])
          (refine Rg.tk (i := 2) (d := 14) (v := ?_) rfl rfl (by kernel_rfl) (by kernel_rfl) (by kernel_rfl) (fun _ _ _ h => h) (by rfl) ?_ (by assumption) ?_; rotate_left; (focus (intro w0 hSw; (try dsimp only at hSw); go_simp; (try with_reducible rfl))); (try simp only [Act.put, List.setIfInBounds_toArray, List.set_cons_zero, List.set_cons_succ]))
          (refine Rg.tk (i := 3) (d := 15) (v := ?_) rfl rfl (by kernel_rfl) (by kernel_rfl) (by kernel_rfl) (fun _ _ _ h => h) (by rfl) ?_ (by assumption) ?_; rotate_left; (focus (intro w0 hSw; (try dsimp only at hSw); go_simp; (try with_reducible rfl))); (try simp only [Act.put, List.setIfInBounds_toArray, List.set_cons_zero, List.set_cons_succ]))
          (refine Rg.tk (i := 4) (d := 16) (v := ?_) rfl rfl (by kernel_rfl) (by kernel_rfl) (by kernel_rfl) (fun _ _ _ h => h) (by rfl) ?_ (by assumption) ?_; rotate_left; (focus (intro w0 hSw; (try dsimp only at hSw); go_simp; (try with_reducible rfl))); (try simp only [Act.put, List.setIfInBounds_toArray, List.set_cons_zero, List.set_cons_succ]))
          (refine Rg.tk (i := 5) (d := 17) (v := ?_) rfl rfl (by kernel_rfl) (by kernel_rfl) (by kernel_rfl) (fun _ _ _ h => h) (by rfl) ?_ (by assumption) ?_; rotate_left; (focus (intro w0 hSw; (try dsimp only at hSw); go_simp; (try with_reducible rfl))); (try simp only [Act.put, List.setIfInBounds_toArray, List.set_cons_zero, List.set_cons_succ]))
          (refine Rg.tk (i := 6) (d := 18) (v := ?_) rfl rfl (by kernel_rfl) (by kernel_rfl) (by kernel_rfl) (fun _ _ _ h => h) (by rfl) ?_ (by assumption) ?_; rotate_left; (focus (intro w0 hSw; (try dsimp only at hSw); go_simp; (try with_reducible rfl))); (try simp only [Act.put, List.setIfInBounds_toArray, List.set_cons_zero, List.set_cons_succ]))
          (refine Rg.tk (i := 7) (d := 19) (v := ?_) rfl rfl (by kernel_rfl) (by kernel_rfl) (by kernel_rfl) (fun _ _ _ h => h) (by rfl) ?_ (by assumption) ?_; rotate_left; (focus (intro w0 hSw; (try dsimp only at hSw); go_simp; (try with_reducible rfl))); (try simp only [Act.put, List.setIfInBounds_toArray, List.set_cons_zero, List.set_cons_succ]))
          (refine Rg.tk (i := 8) (d := 20) (v := ?_) rfl rfl (by kernel_rfl) (by kernel_rfl) (by kernel_rfl) (fun _ _ _ h => h) (by rfl) ?_ (by assumption) ?_; rotate_left; (focus (intro w0 hSw; (try dsimp only at hSw); go_simp; (try with_reducible rfl))); (try simp only [Act.put, List.setIfInBounds_toArray, List.set_cons_zero, List.set_cons_succ]))
          (refine Rg.tk (i := 9) (d := 21) (v := ?_) rfl rfl (by kernel_rfl) (by kernel_rfl) (by kernel_rfl) (fun _ _ _ h => h) (by rfl) ?_ (by assumption) ?_; rotate_left; (focus (intro w0 hSw; (try dsimp only at hSw); go_simp; (try with_reducible rfl))); (try simp only [Act.put, List.setIfInBounds_toArray, List.set_cons_zero, List.set_cons_succ]))
          (refine Rg.tk (i := 10) (d := 22) (v := ?_) rfl rfl (by kernel_rfl) (by kernel_rfl) (by kernel_rfl) (fun _ _ _ h => h) (by rfl) ?_ (by assumption) ?_; rotate_left; (focus (intro w0 hSw; (try dsimp only at hSw); go_simp; (try with_reducible rfl))); (try simp only [Act.put, List.setIfInBounds_toArray, List.set_cons_zero, List.set_cons_succ]))
          (refine Rg.tk (i := 11) (d := 23) (v := ?_) rfl rfl (by kernel_rfl) (by kernel_rfl) (by kernel_rfl) (fun _ _ _ h => h) (by rfl) ?_ (by assumption) ?_; rotate_left; (focus (intro w0 hSw; (try dsimp only at hSw); go_simp; (try with_reducible rfl))); (try simp only [Act.put, List.setIfInBounds_toArray, List.set_cons_zero, List.set_cons_succ]))
          (refine Rg.tk (i := 12) (d := 24) (v := ?_) rfl rfl (by kernel_rfl) (by kernel_rfl) (by kernel_rfl) (fun _ _ _ h => h) (by rfl) ?_ (by assumption) ?_; rotate_left; (focus (intro w0 hSw; (try dsimp only at hSw); go_simp; (try with_reducible rfl))); (try simp only [Act.put, List.setIfInBounds_toArray, List.set_cons_zero, List.set_cons_succ]))
          (refine Rg.tk (i := 13) (d := 25) (v := ?_) rfl rfl (by kernel_rfl) (by kernel_rfl) (by kernel_rfl) (fun _ _ _ h => h) (by rfl) ?_ (by assumption) ?_; rotate_left; (focus (intro w0 hSw; (try dsimp only at hSw); go_simp; (try with_reducible rfl))); (try simp only [Act.put, List.setIfInBounds_toArray, List.set_cons_zero, List.set_cons_succ]))
          (refine Rg.tk (i := 14) (d := 26) (v := ?_) rfl rfl (by kernel_rfl) (by kernel_rfl) (by kernel_rfl) (fun _ _ _ h => h) (by rfl) ?_ (by assumption) ?_; rotate_left; (focus (intro w0 hSw; (try dsimp only at hSw); go_simp; (try with_reducible rfl))); (try simp only [Act.put, List.setIfInBounds_toArray, List.set_cons_zero, List.set_cons_succ]))
          (refine Rg.tk (i := 15) (d := 27) (v := ?_) rfl rfl (by kernel_rfl) (by kernel_rfl) (by kernel_rfl) (fun _ _ _ h => h) (by rfl) ?_ (by assumption) ?_; rotate_left; (focus (intro w0 hSw; (try dsimp only at hSw); go_simp; (try with_reducible rfl))); (try simp only [Act.put, List.setIfInBounds_toArray, List.set_cons_zero, List.set_cons_succ]))
          (refine Rg.tk (i := 16) (d := 28) (v := ?_) rfl rfl (by kernel_rfl) (by kernel_rfl) (by kernel_rfl) (fun _ _ _ h => h) (by rfl) ?_ (by assumption) ?_; rotate_left; (focus (intro w0 hSw; (try dsimp only at hSw); go_simp; (try with_reducible rfl))); (try simp only [Act.put, List.setIfInBounds_toArray, List.set_cons_zero, List.set_cons_succ]))
          (refine Rg.tk (i := 17) (d := 29) (v := ?_) rfl rfl (by kernel_rfl) (by kernel_rfl) (by kernel_rfl) (fun _ _ _ h => h) (by rfl) ?_ (by assumption) ?_; rotate_left; (focus (intro w0 hSw; (try dsimp only at hSw); go_simp; (try with_reducible rfl))); (try simp only [Act.put, List.setIfInBounds_toArray, List.set_cons_zero, List.set_cons_succ]))
          refine wpAnyH_done (by kernel_rfl) (NoPanic.normal ?_) _
          have hb1 := hide ((unhide HBL).drew.trans (b2.mono (by show w.heap.size ≤ W0.heap.size; exact (unhide HBL).size)))
          go_wp2_with fail
          go_roundw
          case rel => exact ⟨j + 1, by omega, by go_num, HST, hb1⟩
          case measure => simp [intOf]; omega
        · have HST : Hid (linksB ms = false) := hide (Ri.all_no (unhide HL) (show Ri.step R.zero okL R.ad ms j = false by rw [unhide HJ]; exact Ri.step_ge (by rw [← EJ]; omega)))
          clear EJ
          generalize ms.getD i R.zero = m0 at *
          obtain ⟨ad0, hd0, sy0, ci0, co0, wl0⟩ := m0
          dsimp only at hk
          generalize ms.getD j R.zero = m at *
          obtain ⟨ad, hd, sy, ci, co, wl⟩ := m
          obtain ⟨c0, c1, c2, c3, c4, c5⟩ := hA
          dsimp only at hk c0 c1 c2 c3 c4 c5
          go_wp2_with fail
          generalize hW : wr.alloc (.cells #[.int .i64 ad, .int .i64 hd, .int .i64 sy, .int .i64 ci, .int .i64 co, .int .i64 wl] 118) = W0 at *
          clear hW
          refine wp_region_noPanic ?_
          refine wp_region_held_drew (S := fun w' => (Bx w' wr.heap.size ⟨ad, hd, sy, ci, co, wl⟩ ∧ At w' g (off + i * 6) ⟨ad0, hd0, sy0, ci0, co0, wl0⟩) ∧ w'.cell? ⟨wr.heap.size, 0, none⟩ = some (.int .i64 ad) ∧ w'.cell? ⟨wr.heap.size, 1, none⟩ = some (.int .i64 hd) ∧ w'.cell? ⟨wr.heap.size, 2, none⟩ = some (.int .i64 sy) ∧ w'.cell? ⟨wr.heap.size, 3, none⟩ = some (.int .i64 ci) ∧ w'.cell? ⟨wr.heap.size, 4, none⟩ = some (.int .i64 co) ∧ w'.cell? ⟨wr.heap.size, 5, none⟩ = some (.int .i64 wl) ∧ w'.cell? ⟨g, off + i * 6, none⟩ = some (.int .i64 ad0)) (by kernel_rfl) (sBox2 (unhide HBX).drew (unhide hP).drew) (fun hHeld => ?_)
          (refine Rg.tk (i := 0) (d := 12) (v := ?_) rfl rfl (by kernel_rfl) (by kernel_rfl) (by kernel_rfl) (fun _ _ _ h => h) (by rfl) ?_ (by assumption) ?_; rotate_left; (focus (intro w0 hSw; (try dsimp only at hSw); go_simp; (try with_reducible rfl))); (try simp only [Act.put, List.setIfInBounds_toArray, List.set_cons_zero, List.set_cons_succ]))
          (refine wpAnyH_ready (rs := [1]) (by kernel_rfl) (by simp) ?_; refine AllReadyH.cons (o := _) rfl (fun K hK => ?_) AllReadyH.nil; go_simp)
          refine (isLink ad hd sy ci co wl _).mono ?_
          rintro e w2 ⟨rfl, b2⟩
          rw [unhide HK]
          refine hK.out _ _ (sBox2 ((unhide HBX).drew.below b2) ((unhide hP).drew.below b2)) (fun hHeld => ?_)
          clear hK K
          (try simp only [Act.put, List.setIfInBounds_toArray, List.set_cons_zero, List.set_cons_succ])
          (refine Rg.tk (i := 2) (d := 14) (v := ?_) rfl rfl (by kernel_rfl) (by kernel_rfl) (by kernel_rfl) (fun _ _ _ h => h) (by rfl) ?_ (by assumption) ?_; rotate_left; (focus (intro w0 hSw; (try dsimp only at hSw); go_simp; (try with_reducible rfl))); (try simp only [Act.put, List.setIfInBounds_toArray, List.set_cons_zero, List.set_cons_succ]))
          (refine Rg.tk (i := 3) (d := 15) (v := ?_) rfl rfl (by kernel_rfl) (by kernel_rfl) (by kernel_rfl) (fun _ _ _ h => h) (by rfl) ?_ (by assumption) ?_; rotate_left; (focus (intro w0 hSw; (try dsimp only at hSw); go_simp; (try with_reducible rfl))); (try simp only [Act.put, List.setIfInBounds_toArray, List.set_cons_zero, List.set_cons_succ]))
          (refine Rg.tk (i := 4) (d := 16) (v := ?_) rfl rfl (by kernel_rfl) (by kernel_rfl) (by kernel_rfl) (fun _ _ _ h => h) (by rfl) ?_ (by assumption) ?_; rotate_left; (focus (intro w0 hSw; (try dsimp only at hSw); go_simp; (try with_reducible rfl))); (try simp only [Act.put, List.setIfInBounds_toArray, List.set_cons_zero, List.set_cons_succ]))
          (refine Rg.tk (i := 5) (d := 17) (v := ?_) rfl rfl (by kernel_rfl) (by kernel_rfl) (by kernel_rfl) (fun _ _ _ h => h) (by rfl) ?_ (by assumption) ?_; rotate_left; (focus (intro w0 hSw; (try dsimp only at hSw); go_simp; (try with_reducible rfl))); (try simp only [Act.put, List.setIfInBounds_toArray, List.set_cons_zero, List.set_cons_succ]))
          (refine Rg.tk (i := 6) (d := 18) (v := ?_) rfl rfl (by kernel_rfl) (by kernel_rfl) (by kernel_rfl) (fun _ _ _ h => h) (by rfl) ?_ (by assumption) ?_; rotate_left; (focus (intro w0 hSw; (try dsimp only at hSw); go_simp; (try with_reducible rfl))); (try simp only [Act.put, List.setIfInBounds_toArray, List.set_cons_zero, List.set_cons_succ]))
          (refine Rg.tk (i := 7) (d := 19) (v := ?_) rfl rfl (by kernel_rfl) (by kernel_rfl) (by kernel_rfl) (fun _ _ _ h => h) (by rfl) ?_ (by assumption) ?_; rotate_left; (focus (intro w0 hSw; (try dsimp only at hSw); go_simp; (try with_reducible rfl))); (try simp only [Act.put, List.setIfInBounds_toArray, List.set_cons_zero, List.set_cons_succ]))
          (refine Rg.tk (i := 8) (d := 20) (v := ?_) rfl rfl (by kernel_rfl) (by kernel_rfl) (by kernel_rfl) (fun _ _ _ h => h) (by rfl) ?_ (by assumption) ?_; rotate_left; (focus (intro w0 hSw; (try dsimp only at hSw); go_simp; (try with_reducible rfl))); (try simp only [Act.put, List.setIfInBounds_toArray, List.set_cons_zero, List.set_cons_succ]))
          (refine Rg.tk (i := 9) (d := 21) (v := ?_) rfl rfl (by kernel_rfl) (by kernel_rfl) (by kernel_rfl) (fun _ _ _ h => h) (by rfl) ?_ (by assumption) ?_; rotate_left; (focus (intro w0 hSw; (try dsimp only at hSw); go_simp; (try with_reducible rfl))); (try simp only [Act.put, List.setIfInBounds_toArray, List.set_cons_zero, List.set_cons_succ]))
          (refine Rg.tk (i := 10) (d := 22) (v := ?_) rfl rfl (by kernel_rfl) (by kernel_rfl) (by kernel_rfl) (fun _ _ _ h => h) (by rfl) ?_ (by assumption) ?_; rotate_left; (focus (intro w0 hSw; (try dsimp only at hSw); go_simp; (try with_reducible rfl))); (try simp only [Act.put, List.setIfInBounds_toArray, List.set_cons_zero, List.set_cons_succ]))
          (refine Rg.tk (i := 11) (d := 23) (v := ?_) rfl rfl (by kernel_rfl) (by kernel_rfl) (by kernel_rfl) (fun _ _ _ h => h) (by rfl) ?_ (by assumption) ?_; rotate_left; (focus (intro w0 hSw; (try dsimp only at hSw); go_simp; (try with_reducible rfl))); (try simp only [Act.put, List.setIfInBounds_toArray, List.set_cons_zero, List.set_cons_succ]))
          (refine Rg.tk (i := 12) (d := 24) (v := ?_) rfl rfl (by kernel_rfl) (by kernel_rfl) (by kernel_rfl) (fun _ _ _ h => h) (by rfl) ?_ (by assumption) ?_; rotate_left; (focus (intro w0 hSw; (try dsimp only at hSw); go_simp; (try with_reducible rfl))); (try simp only [Act.put, List.setIfInBounds_toArray, List.set_cons_zero, List.set_cons_succ]))
          (refine Rg.tk (i := 13) (d := 25) (v := ?_) rfl rfl (by kernel_rfl) (by kernel_rfl) (by kernel_rfl) (fun _ _ _ h => h) (by rfl) ?_ (by assumption) ?_; rotate_left; (focus (intro w0 hSw; (try dsimp only at hSw); go_simp; (try with_reducible rfl))); (try simp only [Act.put, List.setIfInBounds_toArray, List.set_cons_zero, List.set_cons_succ]))
          (refine Rg.tk (i := 14) (d := 26) (v := ?_) rfl rfl (by kernel_rfl) (by kernel_rfl) (by kernel_rfl) (fun _ _ _ h => h) (by rfl) ?_ (by assumption) ?_; rotate_left; (focus (intro w0 hSw; (try dsimp only at hSw); go_simp; (try with_reducible rfl))); (try simp only [Act.put, List.setIfInBounds_toArray, List.set_cons_zero, List.set_cons_succ]))
          (refine Rg.tk (i := 15) (d := 27) (v := ?_) rfl rfl (by kernel_rfl) (by kernel_rfl) (by kernel_rfl) (fun _ _ _ h => h) (by rfl) ?_ (by assumption) ?_; rotate_left; (focus (intro w0 hSw; (try dsimp only at hSw); go_simp; (try with_reducible rfl))); (try simp only [Act.put, List.setIfInBounds_toArray, List.set_cons_zero, List.set_cons_succ]))
          (refine Rg.tk (i := 16) (d := 28) (v := ?_) rfl rfl (by kernel_rfl) (by kernel_rfl) (by kernel_rfl) (fun _ _ _ h => h) (by rfl) ?_ (by assumption) ?_; rotate_left; (focus (intro w0 hSw; (try dsimp only at hSw); go_simp; (try with_reducible rfl))); (try simp only [Act.put, List.setIfInBounds_toArray, List.set_cons_zero, List.set_cons_succ]))
          (refine Rg.tk (i := 17) (d := 29) (v := ?_) rfl rfl (by kernel_rfl) (by kernel_rfl) (by kernel_rfl) (fun _ _ _ h => h) (by rfl) ?_ (by assumption) ?_; rotate_left; (focus (intro w0 hSw; (try dsimp only at hSw); go_simp; (try with_reducible rfl))); (try simp only [Act.put, List.setIfInBounds_toArray, List.set_cons_zero, List.set_cons_succ]))
          refine wpAnyH_done (by kernel_rfl) (NoPanic.normal ?_) _
          have hb1 := hide ((unhide HBL).drew.trans (b2.mono (by show w.heap.size ≤ W0.heap.size; exact (unhide HBL).size)))
          go_wp2_with fail
          go_ret
          exact ⟨ret_bool (unhide HST).symm, unhide hb1⟩
    · obtain rfl : j = n := by omega
      have HO : Hid (linksB ms = true) := hide (by unfold linksB; rw [unhide HN]; exact unhide hrl)
      go_wp2
      go_ret
      exact ⟨ret_bool (unhide HO).symm, unhide hbl⟩
end Ln
end Go.Proofs.YtiipppfkpgbpeaaGreat
namespace Go.Proofs.YtiipppfkpgbpeaaGreat
open Go.ChangeShapes Go.WideShapes Go.ChangeAt Go.RowKit
set_option linter.unusedVariables false
set_option maxRecDepth 100000
set_option linter.unusedSimpArgs false
namespace Mp
open W1 Lk Go.Maps
/-- How an element reads. -/
def rdR (v : Value) : Option (DataW R × List MemPlace) :=
  match v with
  | .agg cs => (match cs.toList with
    | [.int .i64 a, .int .i64 b, .int .i64 c, .int .i64 d, .int .i64 e, .int .i64 f] => some (.held ⟨a, b, c, d, e, f⟩, [])
    | _ => none)
  | _ => none
theorem rdR_mk (m : R) : rdR m.value = some (.held m, []) := rfl
/-- A key. -/
def kv (a : Int) : Value := .agg #[.int .i64 a]
theorem kv_inj {a b : Int} (h : kv a = kv b) : a = b := by unfold kv at h; simpa using h
theorem laidOut : laidOutB Tryz.prog = true := by kernel_rfl
theorem rowK : (286 : TypeId) < Tryz.prog.types.size := of_decide_eq_true (by kernel_rfl)
theorem wideK : (match Tryz.prog.underlying 286 with | some (.array _ _) | some (.struct _) => true | _ => false) = true := by kernel_rfl
theorem law : Keyed Tryz.prog 286 := Keyed.of_law (deep_law_laid laidOut (m := 2) (by omega) rowK (by kernel_rfl) wideK)
theorem keyT : Tryz.prog.keyType 286 = true := by kernel_rfl
theorem cellsK : Tryz.prog.cellsOf 286 = 1 := by kernel_rfl
theorem cellsI : Tryz.prog.cellsOf 3 = 1 := by kernel_rfl
theorem kv_key {a : Int} (hw : (Lit.int .i64 a).wf = true) : ∃ l, keyOf Tryz.prog 286 (kv a) = some l := by
  obtain ⟨d, hd⟩ : ∃ d, Tryz.prog.types.size = d + 1 := ⟨Tryz.prog.types.size - 1, (Nat.sub_add_cancel (Nat.lt_of_le_of_lt (Nat.zero_le _) rowK)).symm⟩
  have hf : (kv a).formed Tryz.prog 286 = true := by simp [kv, Value.formed, Tryz.underlying286, cellsK]
  unfold keyOf
  rw [Tryz.underlying286]
  simp only [keyT, hf, Bool.and_self, if_true, hd]
  simp [kv, Value.cells, Program.keyLits, Tryz.underlying286, cellsK, cellsI, Tryz.underlying3, hw]
/-- Block b is a map of at most n entries that holds just what f says. -/
def OM (w : World) (b n : Nat) (f : Int → Option R) : Prop :=
  ∃ D : DataW R, w.ownsMap Tryz.prog 286 rdR b n D ∧ ∀ a l, keyOf Tryz.prog 286 (kv a) = some l → has D l = (f a).isSome ∧ ∀ m, f a = some m → ∀ z, D.atKey l z = .held m
theorem OM.lt {w : World} {b n : Nat} {f : Int → Option R} (h : OM w b n f) : b < w.heap.size := let ⟨_, h, _⟩ := h; h.lt
theorem OM.drew {w : World} {b n : Nat} {f : Int → Option R} (h : OM w b n f) : OM w.drew b n f := h
theorem OM.below {w w' : World} {b n : Nat} {f : Int → Option R} (h : OM w b n f) (hb : Below w.heap.size w w') : OM w' b n f := by
  obtain ⟨D, h, hf⟩ := h
  exact ⟨D, h.kept (row := none) ⟨hb.os, hb.tape, hb.output, hb.size, fun k hk _ => hb.block k hk⟩ (by simp), hf⟩
theorem OM.setCell {w : World} {b n : Nat} {f : Int → Option R} (h : OM w b n f) {a : Addr} (ha : b ≠ a.block) (u : Value) : OM (w.setCell a u) b n f := by
  obtain ⟨D, h, hf⟩ := h
  exact ⟨D, h.setCell ha u, hf⟩
theorem OM.mono {w : World} {b n n' : Nat} {f : Int → Option R} (h : OM w b n f) (hn : n ≤ n') : OM w b n' f := by
  obtain ⟨D, h, hf⟩ := h
  exact ⟨D, h.mono hn, hf⟩
/-- What is behind one put. -/
def upd (f : Int → Option R) (a : Int) (m : R) : Int → Option R := fun x => if x = a then some m else f x
theorem OM.size {w : World} {b n : Nat} {f : Int → Option R} (h : OM w b n f) : ∃ q : Nat, q ≤ n ∧ ∀ ty, (Builtin.len_ #[283] ty #[.map (some b)]).run Tryz.prog w = .ok (.int .i64 q) w := by
  obtain ⟨D, h, _⟩ := h
  exact ⟨_, h.size_le, fun ty => h.len Tryz.underlying283 ty⟩
theorem OM.store {w : World} {b n : Nat} {f : Int → Option R} (h : OM w b n f) (hn : n < maxLen) {a : Int} (hw : (Lit.int .i64 a).wf = true) (m : R) :
    ∃ w', (Instr.mapUpdate 283 (.map (some b)) (kv a) m.value).run Tryz.prog w = .ok () w' ∧ OM w' b (n + 1) (upd f a m) ∧ w.grownBy w' (some b) := by
  obtain ⟨D, h, hf⟩ := h
  obtain ⟨l, hl⟩ := kv_key hw
  obtain ⟨w', hrun, hown, hg⟩ := h.update law Tryz.underlying283 hn hl (rdR_mk m)
  refine ⟨w', hrun, ⟨_, hown, fun x lx hx => ?_⟩, hg⟩
  unfold upd
  by_cases e : x = a
  · subst e
    rw [hl] at hx; cases hx
    rw [if_pos rfl]
    refine ⟨has_put_same h.isMap (law.key hl) _, fun m' hm' z => ?_⟩
    cases hm'
    exact atKey_put_same h.isMap (law.key hl) _ z
  · have hne : lx ≠ l := fun el => e (kv_inj (law.inj (el ▸ hx) hl))
    rw [if_neg e]
    obtain ⟨q1, q2⟩ := hf x lx hx
    exact ⟨by rw [has_put_other hne]; exact q1, fun m' hm' z => by rw [atKey_put_other hne]; exact q2 m' hm' z⟩
section
variable {ops : Array Oper} {rest : List Oper} {o : Oper} {a : Act} {Q : Exit → Act → World → Prop}
end
end Mp
end Go.Proofs.YtiipppfkpgbpeaaGreat
namespace Go.Proofs.YtiipppfkpgbpeaaGreat
open Go.ChangeShapes Go.WideShapes Go.ChangeAt Go.RowKit
set_option linter.unusedVariables false
set_option linter.unusedSimpArgs false
attribute [local go_sem ↓] Go.wp_at_zero Go.wp_at_succ
namespace Ln
open W1 Lk
def isAd (k : Int) (m : R) : Bool := m.ad == k
def lkF (ms : List R) (k : Int) : R := (ms.find? (isAd k)).getD R.zero
/-- A link's block that may be written. -/
def LV (w : World) (b : Nat) (m : R) : Prop := w.heap[b]? = some (.cells #[.int .i64 m.ad, .int .i64 m.hd, .int .i64 m.sy, .int .i64 m.ci, .int .i64 m.co, .int .i64 m.wl] 118 (0, 0))
theorem LV.cells {w : World} {b : Nat} {m : R} (h : LV w b m) : At w b 0 m := by
  unfold LV at h; refine ⟨?_, ?_, ?_, ?_, ?_, ?_⟩ <;> simp [World.cell?, h]
theorem LV.free {w : World} {b : Nat} {m : R} (h : LV w b m) (i : Nat) : w.frozen? ⟨b, i, none⟩ = false := by unfold LV at h; simp [World.frozen?, h]
theorem LV.lt {w : World} {b : Nat} {m : R} (h : LV w b m) : b < w.heap.size := by
  rcases Nat.lt_or_ge b w.heap.size with hlt | hge
  · exact hlt
  · unfold LV at h; rw [Array.getElem?_eq_none hge] at h; cases h
theorem LV.below {w w' : World} {b : Nat} {m : R} (h : LV w b m) (hb : Below w.heap.size w w') : LV w' b m := (hb.block b h.lt).trans h
theorem lv_new (w : World) (m : R) : LV (w.alloc (.cells #[.int .i64 m.ad, .int .i64 m.hd, .int .i64 m.sy, .int .i64 m.ci, .int .i64 m.co, .int .i64 m.wl] 118)) w.heap.size m := heap_alloc_new w _
end Ln
end Go.Proofs.YtiipppfkpgbpeaaGreat
namespace Go.Proofs.YtiipppfkpgbpeaaGreat
open Go.ChangeShapes Go.WideShapes Go.ChangeAt Go.RowKit
set_option linter.unusedVariables false
set_option linter.unusedSimpArgs false
attribute [local go_sem ↓] Go.wp_at_zero Go.wp_at_succ
namespace Ln
open W1 Lk
open Mp
end Ln
end Go.Proofs.YtiipppfkpgbpeaaGreat
namespace Go.Proofs.YtiipppfkpgbpeaaGreat
set_option linter.unusedVariables false
namespace Ln
open W1 Lk Mp
abbrev Up (L : List R) : Prop := L.Pairwise (fun a b => a.ad < b.ad)
theorem getD_get {ms : List R} {i : Nat} (h : i < ms.length) : ms.getD i R.zero = ms[i] := by rw [List.getD_eq_getElem?_getD, List.getElem?_eq_getElem h]; rfl
theorem up_of {ms : List R} (h : linksB ms = true) : Up ms := by
  rw [Up, List.pairwise_iff_getElem]
  intro i j hi hj hij
  have := Ri.rises h j i hij hj
  rw [getD_get hi, getD_get hj] at this; exact this
theorem isAd_iff {k : Int} {m : R} : isAd k m = true ↔ m.ad = k := by unfold isAd; exact beq_iff_eq
theorem filter_none {p : R → Bool} : ∀ {L : List R}, (∀ m ∈ L, p m = false) → L.filter p = []
  | [], _ => rfl
  | m :: t, h => by rw [List.filter_cons_of_neg (by rw [h m (List.mem_cons_self ..)]; simp), filter_none (fun x hx => h x (List.mem_cons_of_mem _ hx))]
theorem le_succ (n : Int) : ∀ (L : List R), Up L → L.filter (fun m => decide (m.ad ≤ n + 1)) = L.filter (fun m => decide (m.ad ≤ n)) ++ (L.find? (isAd (n + 1))).toList
  | [], _ => rfl
  | m :: t, h => by
    obtain ⟨h1, h2⟩ := List.pairwise_cons.1 h
    rcases Int.lt_trichotomy m.ad (n + 1) with hk | hk | hk
    · rw [List.filter_cons_of_pos (by simp; omega), List.filter_cons_of_pos (by simp; omega), List.find?_cons_of_neg (by rw [isAd_iff]; omega), le_succ n t h2]; rfl
    · rw [List.filter_cons_of_pos (by simp; omega), List.filter_cons_of_neg (by simp; omega), List.find?_cons_of_pos (by rw [isAd_iff]; exact hk), filter_none (fun x hx => by have := h1 x hx; simp; omega), filter_none (fun x hx => by have := h1 x hx; simp; omega)]; rfl
    · rw [List.filter_cons_of_neg (by simp; omega), List.filter_cons_of_neg (by simp; omega), List.find?_cons_of_neg (by rw [isAd_iff]; omega), le_succ n t h2]
theorem take_one {ms : List R} {j : Nat} (h : j < ms.length) : ms.take (j + 1) = ms.take j ++ [ms.getD j R.zero] := by
  rw [List.take_add_one, List.getElem?_eq_getElem h, List.getD_eq_getElem?_getD, List.getElem?_eq_getElem h]; rfl
end Ln
end Go.Proofs.YtiipppfkpgbpeaaGreat
namespace Go.Proofs.YtiipppfkpgbpeaaGreat
open Go.ChangeShapes Go.WideShapes Go.ChangeAt Go.RowKit
set_option linter.unusedVariables false
set_option linter.unusedSimpArgs false
attribute [local go_sem ↓] Go.wp_at_zero Go.wp_at_succ
namespace Ln
open W1 Lk Mp
theorem below_drewN {B : Nat} {w w' : World} (h : Below B w w') (q : Nat) : Below B w (w'.drewN q) := ⟨h.os, h.tape, h.output, h.size, h.block⟩
theorem l06Own (g off : Nat) (ms : List R) (cap n : Nat) (w : World) (hn : ms.length = n) (hm : ms.length ≤ 4096) (hr : RM w (some ⟨g, off, none⟩) ms) :
    Calls Tryz.prog 89 #[.slice (some ⟨g, off, none⟩) n cap] w fun e w' => ∃ v, e = .returned v ∧ Below w.heap.size w w' ∧ LstV w' v ms w.heap.size w'.heap.size := by
  have HR := hide (hr.below ((Below.refl _ _).alloc (Nat.le_refl _) (.cells #[] 118)))
  have O0 := hide (own_empty w w.heap.size (Nat.le_refl _))
  clear hr
  go_enter Tryz.func89, Tryz.ntmps89
  go_wp2_with (at_builtin; refine wpList_apS (unhide O0) g off n cap ms hn (unhide HR) (by simp; omega) (by simp) rfl _ _ rfl rfl rfl ?_; intro v' w' ho hg; have HL := hide (lst_own rfl ho); have HB := hide (below_own ((Below.refl _ _).alloc (Nat.le_refl _) _) (unhide O0) hg (Nat.le_refl _) (by simp)); clear ho hg)
  go_ret
  exact ⟨_, rfl, unhide HB, unhide HL⟩
theorem copied (g off : Nat) (ms : List R) (cap n : Nat) (w : World) (hn : ms.length = n) (hm : ms.length ≤ 4096) (hr : RM w (some ⟨g, off, none⟩) ms) :
    Calls Tryz.prog 106 #[.slice (some ⟨g, off, none⟩) n cap] w fun e w' => ∃ v, e = .returned v ∧ Below w.heap.size w w' ∧ LstV w' v ms w.heap.size w'.heap.size := by
  have HR := hide hr
  have O0 := hide (own_nil w w.heap.size)
  clear hr
  go_enter Tryz.func106, Tryz.ntmps106
  go_wp2_with (at_builtin; refine wpList_apS (unhide O0) g off n cap ms hn (unhide HR) (by simp; omega) (by simp) rfl _ _ rfl rfl rfl ?_; intro v' w' ho hg; have HL := hide (lst_own rfl ho); have HB := hide (below_own (Below.refl _ _) (unhide O0) hg (Nat.le_refl _) (Nat.le_refl _)); clear ho hg)
  go_ret
  exact ⟨_, rfl, unhide HB, unhide HL⟩
end Ln
end Go.Proofs.YtiipppfkpgbpeaaGreat
namespace Go.Proofs.YtiipppfkpgbpeaaGreat
open Go.ChangeShapes Go.WideShapes Go.ChangeAt Go.RowKit
set_option linter.unusedVariables false
set_option linter.unusedSimpArgs false
attribute [local go_sem ↓] Go.wp_at_zero Go.wp_at_succ
namespace St
open W1 Tu
theorem l03Own (g off : Nat) (ms : List R) (cap n : Nat) (w : World) (hn : ms.length = n) (hm : ms.length ≤ 4096) (hr : RM w (some ⟨g, off, none⟩) ms) :
    Calls Tryz.prog 90 #[.slice (some ⟨g, off, none⟩) n cap] w fun e w' => ∃ v, e = .returned v ∧ Below w.heap.size w w' ∧ LstV w' v ms w.heap.size w'.heap.size := by
  have HR := hide (hr.below ((Below.refl _ _).alloc (Nat.le_refl _) (.cells #[] 126)))
  have O0 := hide (own_empty w w.heap.size (Nat.le_refl _))
  clear hr
  go_enter Tryz.func90, Tryz.ntmps90
  go_wp2_with (at_builtin; refine wpList_apS (unhide O0) g off n cap ms hn (unhide HR) (by simp; omega) (by simp) rfl _ _ rfl rfl rfl ?_; intro v' w' ho hg; have HL := hide (lst_own rfl ho); have HB := hide (below_own ((Below.refl _ _).alloc (Nat.le_refl _) _) (unhide O0) hg (Nat.le_refl _) (by simp)); clear ho hg)
  go_ret
  exact ⟨_, rfl, unhide HB, unhide HL⟩
theorem copied (g off : Nat) (ms : List R) (cap n : Nat) (w : World) (hn : ms.length = n) (hm : ms.length ≤ 4096) (hr : RM w (some ⟨g, off, none⟩) ms) :
    Calls Tryz.prog 107 #[.slice (some ⟨g, off, none⟩) n cap] w fun e w' => ∃ v, e = .returned v ∧ Below w.heap.size w w' ∧ LstV w' v ms w.heap.size w'.heap.size := by
  have HR := hide hr
  have O0 := hide (own_nil w w.heap.size)
  clear hr
  go_enter Tryz.func107, Tryz.ntmps107
  go_wp2_with (at_builtin; refine wpList_apS (unhide O0) g off n cap ms hn (unhide HR) (by simp; omega) (by simp) rfl _ _ rfl rfl rfl ?_; intro v' w' ho hg; have HL := hide (lst_own rfl ho); have HB := hide (below_own (Below.refl _ _) (unhide O0) hg (Nat.le_refl _) (Nat.le_refl _)); clear ho hg)
  go_ret
  exact ⟨_, rfl, unhide HB, unhide HL⟩
/-- One of the lists that are put together. -/
structure Seg where
  g : Nat
  off : Nat
  cap : Nat
  ms : List R
def Seg.zero : Seg := ⟨0, 0, 0, []⟩
/-- The lists stand in block h, and read so. -/
def Segs (w : World) (h : Nat) (ss : List Seg) : Prop := ∀ i, i < ss.length → w.cell? ⟨h, i, none⟩ = some (.slice (some ⟨(ss.getD i Seg.zero).g, (ss.getD i Seg.zero).off, none⟩) (ss.getD i Seg.zero).ms.length (ss.getD i Seg.zero).cap) ∧ RM w (some ⟨(ss.getD i Seg.zero).g, (ss.getD i Seg.zero).off, none⟩) (ss.getD i Seg.zero).ms
theorem Segs.below {w w' : World} {h : Nat} {ss : List Seg} (hs : Segs w h ss) (hb : Below w.heap.size w w') : Segs w' h ss := fun i hi => by
  obtain ⟨h1, h2⟩ := hs i hi
  exact ⟨(hb.cell (p := ⟨h, i, none⟩) (World.block_lt_of_cell? _ _ h1)).trans h1, h2.below hb⟩
end St
end Go.Proofs.YtiipppfkpgbpeaaGreat
namespace Go.Proofs.YtiipppfkpgbpeaaGreat
open Go.ChangeShapes Go.WideShapes Go.ChangeAt Go.RowKit
set_option linter.unusedVariables false
set_option linter.unusedSimpArgs false
set_option maxRecDepth 100000
attribute [local go_sem ↓] Go.wp_at_zero Go.wp_at_succ
namespace Tp
open W1 Tu St Tw
theorem sS1 {w : World} {g o B : Nat} {ad an til : Int} {x y : Value} (h : So.At w g o ⟨ad, an, til⟩) (hB : Bx2 w B x y) : (So.At w g o ⟨ad, an, til⟩ ∧ Bx2 w B x y) ∧ w.cell? ⟨g, o, none⟩ = some (.int .i64 ad) ∧ w.cell? ⟨g, o + 1, none⟩ = some (.int .i64 an) ∧ w.cell? ⟨g, o + 2, none⟩ = some (.int .i64 til) ∧ w.cell? ⟨B, 0, none⟩ = some x := ⟨⟨h, hB⟩, h.1, h.2.1, h.2.2, hB.1⟩
theorem sS2 {w : World} {g o p B : Nat} {ad an til : Int} {m : So.R} {x y : Value} (h : So.At w g o ⟨ad, an, til⟩) (h' : So.At w g p m) (hB : Bx2 w B x y) : ((So.At w g o ⟨ad, an, til⟩ ∧ So.At w g p m) ∧ Bx2 w B x y) ∧ w.cell? ⟨g, o, none⟩ = some (.int .i64 ad) ∧ w.cell? ⟨g, o + 1, none⟩ = some (.int .i64 an) ∧ w.cell? ⟨g, o + 2, none⟩ = some (.int .i64 til) ∧ w.cell? ⟨g, p, none⟩ = some (.int .i64 m.ad) ∧ w.cell? ⟨B, 0, none⟩ = some x := ⟨⟨⟨h, h'⟩, hB⟩, h.1, h.2.1, h.2.2, h'.1, hB.1⟩
theorem sE1 {w : World} {g o B : Nat} {m : R} {x y : Value} (h : Tu.At w g o m) (hB : Bx2 w B x y) : (Tu.At w g o m ∧ Bx2 w B x y) ∧ w.cell? ⟨g, o, none⟩ = some (.int .i64 m.key) ∧ w.cell? ⟨B, 0, none⟩ = some x ∧ w.cell? ⟨B, 1, none⟩ = some y := ⟨⟨h, hB⟩, h.1, hB.1, hB.2⟩
set_option maxHeartbeats 8000000 in
theorem specOK (a : Option Addr) (ss : List So.R) (ca : Nat) (b : Option Addr) (es : List R) (cb : Nat) (w : World) (hm : ss.length ≤ 1048576) (hl : es.length ≤ 1048576) (hr : So.RM w a ss) (hr' : RM w b es) :
    Calls Tryz.prog 79 #[.agg #[.slice a ss.length ca, .slice b es.length cb]] w fun e w' => e = .returned (.bool (topB ss es)) ∧ Below w.heap.size w w' := by
  obtain ⟨A, hA⟩ : ∃ A, topB ss es = A := ⟨_, rfl⟩
  have HTA := hide hA
  rw [hA]
  clear hA
  obtain ⟨n, hN⟩ : ∃ n, es.length = n := ⟨_, rfl⟩
  have HN := hide hN
  obtain ⟨k, hK⟩ : ∃ k, ss.length = k := ⟨_, rfl⟩
  have HK := hide hK
  rw [hN, hK]
  rw [hN] at hl
  rw [hK] at hm
  clear hN hK
  have HA : Hid (Below w.heap.size w (w.alloc (.cells #[.slice a k ca, .slice b n cb] 35))) := hide ((Below.refl _ _).alloc (Nat.le_refl _) _)
  have HX : Hid (Bx2 (w.alloc (.cells #[.slice a k ca, .slice b n cb] 35)) w.heap.size (.slice a k ca) (.slice b n cb)) := hide (bx2_new w _ _ _)
  have HR := hide (hr.below (unhide HA))
  have HE := hide (hr'.below (unhide HA))
  have hxw : w.heap.size < (w.alloc (.cells #[.slice a k ca, .slice b n cb] 35)).heap.size := by simp
  clear hr hr'
  go_enter Tryz.func79, Tryz.ntmps79
  go_wp2_with fail
  generalize hW : w.alloc (.cells #[.slice a k ca, .slice b n cb] 35) = W0 at *
  clear hW
  go_loopw [3] (fun i wr => ∃ j : Nat, j ≤ k ∧ i = .int .i64 j ∧ Hid (allS ss j = true) ∧ Hid (Below W0.heap.size W0 wr)) (fun i _ => k - (intOf i).toNat)
  case atStart => exact ⟨0, by omega, rfl, hide Ri.all_zero, hide (Below.refl _ _)⟩
  case round =>
    obtain ⟨j, hj, rfl, hrl, hbl⟩ := hrel
    have HXr := hide ((unhide HX).below (unhide hbl))
    obtain ⟨z0, z1⟩ := unhide HXr
    by_cases hlt : (j : Int) < (k : Int)
    · have k0 : (0 : Int) ≤ (j : Int) := by omega
      have hlen : j < ss.length := by rw [unhide HK]; omega
      obtain ⟨g, off, rfl⟩ := (unhide HR).form (by omega)
      have hc := fun i (hi : i < ss.length) => ((unhide HR).below (unhide hbl)).at hi
      have HL := hide hlen
      have hA := hc j hlen
      cases hk : okS (ss.getD j So.R.zero)
      · clear hc
        have HST : Hid (A = false) := hide (by rw [← unhide HTA]; exact top_nosrc (Ri.all_no hlen (Ri.step_bad (key := So.R.ad) hk)))
        have HKK := hide hk
        clear hk
        generalize ss.getD j So.R.zero = m at *
        obtain ⟨ad, an, til⟩ := m
        go_wp2_with fail
        refine wp_region_noPanic ?_
        refine wp_region_held_drew (S := fun w' => (So.At w' g (off + j * 3) ⟨ad, an, til⟩ ∧ Bx2 w' w.heap.size (.slice (some ⟨g, off, none⟩) k ca) (.slice b n cb)) ∧ w'.cell? ⟨g, off + j * 3, none⟩ = some (.int .i64 ad) ∧ w'.cell? ⟨g, off + j * 3 + 1, none⟩ = some (.int .i64 an) ∧ w'.cell? ⟨g, off + j * 3 + 2, none⟩ = some (.int .i64 til) ∧ w'.cell? ⟨w.heap.size, 0, none⟩ = some (.slice (some ⟨g, off, none⟩) k ca)) (by kernel_rfl) (sS1 (hA.drew) ((unhide HXr).drew)) (fun hHeld => ?_)
        (refine Rg.tk (i := 0) (d := 14) (v := ?_) rfl rfl (by kernel_rfl) (by kernel_rfl) (by kernel_rfl) (fun _ _ _ h => h) (by rfl) ?_ (by assumption) ?_; rotate_left; (focus (intro w0 hSw; (try dsimp only at hSw); go_simp; (try with_reducible rfl))); (try simp only [Act.put, List.setIfInBounds_toArray, List.set_cons_zero, List.set_cons_succ]))
        (refine Rg.tk (i := 1) (d := 15) (v := ?_) rfl rfl (by kernel_rfl) (by kernel_rfl) (by kernel_rfl) (fun _ _ _ h => h) (by rfl) ?_ (by assumption) ?_; rotate_left; (focus (intro w0 hSw; (try dsimp only at hSw); go_simp; (try with_reducible rfl))); (try simp only [Act.put, List.setIfInBounds_toArray, List.set_cons_zero, List.set_cons_succ]))
        (refine Rg.tk (i := 2) (d := 16) (v := ?_) rfl rfl (by kernel_rfl) (by kernel_rfl) (by kernel_rfl) (fun _ _ _ h => h) (by rfl) ?_ (by assumption) ?_; rotate_left; (focus (intro w0 hSw; (try dsimp only at hSw); go_simp; (try with_reducible rfl))); (try simp only [Act.put, List.setIfInBounds_toArray, List.set_cons_zero, List.set_cons_succ]))
        (refine Rg.tk (i := 3) (d := 17) (v := ?_) rfl rfl (by kernel_rfl) (by kernel_rfl) (by kernel_rfl) (fun _ _ _ h => h) (by rfl) ?_ (by assumption) ?_; rotate_left; (focus (intro w0 hSw; (try dsimp only at hSw); go_simp; (try with_reducible rfl))); (try simp only [Act.put, List.setIfInBounds_toArray, List.set_cons_zero, List.set_cons_succ]))
        (refine Rg.tk (i := 4) (d := 18) (v := ?_) rfl rfl (by kernel_rfl) (by kernel_rfl) (by kernel_rfl) (fun _ _ _ h => h) (by rfl) ?_ (by assumption) ?_; rotate_left; (focus (intro w0 hSw; (try dsimp only at hSw); go_simp; (try with_reducible rfl))); (try simp only [Act.put, List.setIfInBounds_toArray, List.set_cons_zero, List.set_cons_succ]))
        (refine wpAnyH_ready (rs := [5]) (by kernel_rfl) (by simp) ?_; refine AllReadyH.cons (o := _) rfl (fun K hK => ?_) AllReadyH.nil; go_simp)
        refine (l09Source ad an til _).mono ?_
        rintro e w4 ⟨rfl, b4⟩
        rw [unhide HKK]
        refine hK.out _ _ (sS1 (hA.drew.below b4) ((unhide HXr).drew.below b4)) (fun hHeld => ?_)
        clear hK K
        (try simp only [Act.put, List.setIfInBounds_toArray, List.set_cons_zero, List.set_cons_succ])
        (refine Rg.tk (i := 6) (d := 20) (v := ?_) rfl rfl (by kernel_rfl) (by kernel_rfl) (by kernel_rfl) (fun _ _ _ h => h) (by rfl) ?_ (by assumption) ?_; rotate_left; (focus (intro w0 hSw; (try dsimp only at hSw); go_simp; (try with_reducible rfl))); (try simp only [Act.put, List.setIfInBounds_toArray, List.set_cons_zero, List.set_cons_succ]))
        (refine Rg.tk (i := 7) (d := 21) (v := ?_) rfl rfl (by kernel_rfl) (by kernel_rfl) (by kernel_rfl) (fun _ _ _ h => h) (by rfl) ?_ (by assumption) ?_; rotate_left; (focus (intro w0 hSw; (try dsimp only at hSw); go_simp; (try with_reducible rfl))); (try simp only [Act.put, List.setIfInBounds_toArray, List.set_cons_zero, List.set_cons_succ]))
        (refine Rg.sk (i := 8) (d := 22) rfl rfl (by kernel_rfl) (by kernel_rfl) (by kernel_rfl) (fun _ _ _ h => h) (by first | kernel_rfl | rfl) (by assumption) ?_; (try simp only [Act.put, List.setIfInBounds_toArray, List.set_cons_zero, List.set_cons_succ]))
        (refine Rg.sk (i := 9) (d := 23) rfl rfl (by kernel_rfl) (by kernel_rfl) (by kernel_rfl) (fun _ _ _ h => h) (by first | kernel_rfl | rfl) (by assumption) ?_; (try simp only [Act.put, List.setIfInBounds_toArray, List.set_cons_zero, List.set_cons_succ]))
        (refine Rg.sk (i := 10) (d := 24) rfl rfl (by kernel_rfl) (by kernel_rfl) (by kernel_rfl) (fun _ _ _ h => h) (by first | kernel_rfl | rfl) (by assumption) ?_; (try simp only [Act.put, List.setIfInBounds_toArray, List.set_cons_zero, List.set_cons_succ]))
        (refine Rg.sk (i := 11) (d := 25) rfl rfl (by kernel_rfl) (by kernel_rfl) (by kernel_rfl) (fun _ _ _ h => h) (by first | kernel_rfl | rfl) (by assumption) ?_; (try simp only [Act.put, List.setIfInBounds_toArray, List.set_cons_zero, List.set_cons_succ]))
        (refine Rg.sk (i := 12) (d := 26) rfl rfl (by kernel_rfl) (by kernel_rfl) (by kernel_rfl) (fun _ _ _ h => h) (by first | kernel_rfl | rfl) (by assumption) ?_; (try simp only [Act.put, List.setIfInBounds_toArray, List.set_cons_zero, List.set_cons_succ]))
        (refine Rg.sk (i := 13) (d := 27) rfl rfl (by kernel_rfl) (by kernel_rfl) (by kernel_rfl) (fun _ _ _ h => h) (by first | kernel_rfl | rfl) (by assumption) ?_; (try simp only [Act.put, List.setIfInBounds_toArray, List.set_cons_zero, List.set_cons_succ]))
        (refine Rg.sk (i := 14) (d := 28) rfl rfl (by kernel_rfl) (by kernel_rfl) (by kernel_rfl) (fun _ _ _ h => h) (by first | kernel_rfl | rfl) (by assumption) ?_; (try simp only [Act.put, List.setIfInBounds_toArray, List.set_cons_zero, List.set_cons_succ]))
        (refine Rg.sk (i := 15) (d := 29) rfl rfl (by kernel_rfl) (by kernel_rfl) (by kernel_rfl) (fun _ _ _ h => h) (by first | kernel_rfl | rfl) (by assumption) ?_; (try simp only [Act.put, List.setIfInBounds_toArray, List.set_cons_zero, List.set_cons_succ]))
        (refine Rg.sk (i := 16) (d := 30) rfl rfl (by kernel_rfl) (by kernel_rfl) (by kernel_rfl) (fun _ _ _ h => h) (by first | kernel_rfl | rfl) (by assumption) ?_; (try simp only [Act.put, List.setIfInBounds_toArray, List.set_cons_zero, List.set_cons_succ]))
        (refine Rg.sk (i := 17) (d := 31) rfl rfl (by kernel_rfl) (by kernel_rfl) (by kernel_rfl) (fun _ _ _ h => h) (by first | kernel_rfl | rfl) (by assumption) ?_; (try simp only [Act.put, List.setIfInBounds_toArray, List.set_cons_zero, List.set_cons_succ]))
        (refine Rg.sk (i := 18) (d := 32) rfl rfl (by kernel_rfl) (by kernel_rfl) (by kernel_rfl) (fun _ _ _ h => h) (by first | kernel_rfl | rfl) (by assumption) ?_; (try simp only [Act.put, List.setIfInBounds_toArray, List.set_cons_zero, List.set_cons_succ]))
        (refine Rg.sk (i := 19) (d := 33) rfl rfl (by kernel_rfl) (by kernel_rfl) (by kernel_rfl) (fun _ _ _ h => h) (by first | kernel_rfl | rfl) (by assumption) ?_; (try simp only [Act.put, List.setIfInBounds_toArray, List.set_cons_zero, List.set_cons_succ]))
        (refine Rg.sk (i := 20) (d := 34) rfl rfl (by kernel_rfl) (by kernel_rfl) (by kernel_rfl) (fun _ _ _ h => h) (by first | kernel_rfl | rfl) (by assumption) ?_; (try simp only [Act.put, List.setIfInBounds_toArray, List.set_cons_zero, List.set_cons_succ]))
        (refine Rg.sk (i := 21) (d := 35) rfl rfl (by kernel_rfl) (by kernel_rfl) (by kernel_rfl) (fun _ _ _ h => h) (by first | kernel_rfl | rfl) (by assumption) ?_; (try simp only [Act.put, List.setIfInBounds_toArray, List.set_cons_zero, List.set_cons_succ]))
        (refine Rg.sk (i := 22) (d := 36) rfl rfl (by kernel_rfl) (by kernel_rfl) (by kernel_rfl) (fun _ _ _ h => h) (by first | kernel_rfl | rfl) (by assumption) ?_; (try simp only [Act.put, List.setIfInBounds_toArray, List.set_cons_zero, List.set_cons_succ]))
        (refine Rg.sk (i := 23) (d := 37) rfl rfl (by kernel_rfl) (by kernel_rfl) (by kernel_rfl) (fun _ _ _ h => h) (by first | kernel_rfl | rfl) (by assumption) ?_; (try simp only [Act.put, List.setIfInBounds_toArray, List.set_cons_zero, List.set_cons_succ]))
        (refine Rg.sk (i := 24) (d := 38) rfl rfl (by kernel_rfl) (by kernel_rfl) (by kernel_rfl) (fun _ _ _ h => h) (by first | kernel_rfl | rfl) (by assumption) ?_; (try simp only [Act.put, List.setIfInBounds_toArray, List.set_cons_zero, List.set_cons_succ]))
        (refine Rg.sk (i := 25) (d := 39) rfl rfl (by kernel_rfl) (by kernel_rfl) (by kernel_rfl) (fun _ _ _ h => h) (by first | kernel_rfl | rfl) (by assumption) ?_; (try simp only [Act.put, List.setIfInBounds_toArray, List.set_cons_zero, List.set_cons_succ]))
        (refine Rg.tk (i := 26) (d := 40) (v := ?_) rfl rfl (by kernel_rfl) (by kernel_rfl) (by kernel_rfl) (fun _ _ _ h => h) (by rfl) ?_ (by assumption) ?_; rotate_left; (focus (intro w0 hSw; (try dsimp only at hSw); go_simp; (try with_reducible rfl))); (try simp only [Act.put, List.setIfInBounds_toArray, List.set_cons_zero, List.set_cons_succ]))
        refine wpAnyH_done (by kernel_rfl) (NoPanic.normal ?_) _
        have hb4 := hide ((unhide hbl).drew.trans (b4.mono (by show W0.heap.size ≤ wr.heap.size; exact (unhide hbl).size)))
        clear b4 hHeld
        obtain ⟨z0, z1⟩ := (unhide HX).below (unhide hb4)
        go_wp2_with fail
        go_ret
        exact ⟨ret_bool (unhide HST).symm, (unhide HA).trans ((unhide hb4).mono (unhide HA).size)⟩
      have HKK := hide hk
      clear hk
      by_cases hj0 : j = 0
      · subst hj0
        clear hc
        rw [Nat.zero_mul, Nat.add_zero] at hA
        have HST := hide (Ri.all_succ (unhide hrl) (Ri.step_zero (key := So.R.ad) (unhide HKK)))
        generalize ss.getD 0 So.R.zero = m at *
        obtain ⟨ad, an, til⟩ := m
        go_wp2_with fail
        refine wp_region_noPanic ?_
        refine wp_region_held_drew (S := fun w' => (So.At w' g off ⟨ad, an, til⟩ ∧ Bx2 w' w.heap.size (.slice (some ⟨g, off, none⟩) k ca) (.slice b n cb)) ∧ w'.cell? ⟨g, off, none⟩ = some (.int .i64 ad) ∧ w'.cell? ⟨g, off + 1, none⟩ = some (.int .i64 an) ∧ w'.cell? ⟨g, off + 2, none⟩ = some (.int .i64 til) ∧ w'.cell? ⟨w.heap.size, 0, none⟩ = some (.slice (some ⟨g, off, none⟩) k ca)) (by kernel_rfl) (sS1 (hA.drew) ((unhide HXr).drew)) (fun hHeld => ?_)
        (refine Rg.tk (i := 0) (d := 14) (v := ?_) rfl rfl (by kernel_rfl) (by kernel_rfl) (by kernel_rfl) (fun _ _ _ h => h) (by rfl) ?_ (by assumption) ?_; rotate_left; (focus (intro w0 hSw; (try dsimp only at hSw); go_simp; (try with_reducible rfl))); (try simp only [Act.put, List.setIfInBounds_toArray, List.set_cons_zero, List.set_cons_succ]))
        (refine Rg.tk (i := 1) (d := 15) (v := ?_) rfl rfl (by kernel_rfl) (by kernel_rfl) (by kernel_rfl) (fun _ _ _ h => h) (by rfl) ?_ (by assumption) ?_; rotate_left; (focus (intro w0 hSw; (try dsimp only at hSw); go_simp; (try with_reducible rfl))); (try simp only [Act.put, List.setIfInBounds_toArray, List.set_cons_zero, List.set_cons_succ]))
        (refine Rg.tk (i := 2) (d := 16) (v := ?_) rfl rfl (by kernel_rfl) (by kernel_rfl) (by kernel_rfl) (fun _ _ _ h => h) (by rfl) ?_ (by assumption) ?_; rotate_left; (focus (intro w0 hSw; (try dsimp only at hSw); go_simp; (try with_reducible rfl))); (try simp only [Act.put, List.setIfInBounds_toArray, List.set_cons_zero, List.set_cons_succ]))
        (refine Rg.tk (i := 3) (d := 17) (v := ?_) rfl rfl (by kernel_rfl) (by kernel_rfl) (by kernel_rfl) (fun _ _ _ h => h) (by rfl) ?_ (by assumption) ?_; rotate_left; (focus (intro w0 hSw; (try dsimp only at hSw); go_simp; (try with_reducible rfl))); (try simp only [Act.put, List.setIfInBounds_toArray, List.set_cons_zero, List.set_cons_succ]))
        (refine Rg.tk (i := 4) (d := 18) (v := ?_) rfl rfl (by kernel_rfl) (by kernel_rfl) (by kernel_rfl) (fun _ _ _ h => h) (by rfl) ?_ (by assumption) ?_; rotate_left; (focus (intro w0 hSw; (try dsimp only at hSw); go_simp; (try with_reducible rfl))); (try simp only [Act.put, List.setIfInBounds_toArray, List.set_cons_zero, List.set_cons_succ]))
        (refine wpAnyH_ready (rs := [5]) (by kernel_rfl) (by simp) ?_; refine AllReadyH.cons (o := _) rfl (fun K hK => ?_) AllReadyH.nil; go_simp)
        refine (l09Source ad an til _).mono ?_
        rintro e w4 ⟨rfl, b4⟩
        rw [unhide HKK]
        refine hK.out _ _ (sS1 (hA.drew.below b4) ((unhide HXr).drew.below b4)) (fun hHeld => ?_)
        clear hK K
        (try simp only [Act.put, List.setIfInBounds_toArray, List.set_cons_zero, List.set_cons_succ])
        (refine Rg.tk (i := 6) (d := 20) (v := ?_) rfl rfl (by kernel_rfl) (by kernel_rfl) (by kernel_rfl) (fun _ _ _ h => h) (by rfl) ?_ (by assumption) ?_; rotate_left; (focus (intro w0 hSw; (try dsimp only at hSw); go_simp; (try with_reducible rfl))); (try simp only [Act.put, List.setIfInBounds_toArray, List.set_cons_zero, List.set_cons_succ]))
        (refine Rg.tk (i := 7) (d := 21) (v := ?_) rfl rfl (by kernel_rfl) (by kernel_rfl) (by kernel_rfl) (fun _ _ _ h => h) (by rfl) ?_ (by assumption) ?_; rotate_left; (focus (intro w0 hSw; (try dsimp only at hSw); go_simp; (try with_reducible rfl))); (try simp only [Act.put, List.setIfInBounds_toArray, List.set_cons_zero, List.set_cons_succ]))
        (refine Rg.tk (i := 8) (d := 22) (v := ?_) rfl rfl (by kernel_rfl) (by kernel_rfl) (by kernel_rfl) (fun _ _ _ h => h) (by rfl) ?_ (by assumption) ?_; rotate_left; (focus (intro w0 hSw; (try dsimp only at hSw); go_simp; (try with_reducible rfl))); (try simp only [Act.put, List.setIfInBounds_toArray, List.set_cons_zero, List.set_cons_succ]))
        (refine Rg.tk (i := 9) (d := 23) (v := ?_) rfl rfl (by kernel_rfl) (by kernel_rfl) (by kernel_rfl) (fun _ _ _ h => h) (by rfl) ?_ (by assumption) ?_; rotate_left; (focus (intro w0 hSw; (try dsimp only at hSw); go_simp; (try with_reducible rfl))); (try simp only [Act.put, List.setIfInBounds_toArray, List.set_cons_zero, List.set_cons_succ]))
        (refine Rg.tk (i := 10) (d := 24) (v := ?_) rfl rfl (by kernel_rfl) (by kernel_rfl) (by kernel_rfl) (fun _ _ _ h => h) (by rfl) ?_ (by assumption) ?_; rotate_left; (focus (intro w0 hSw; (try dsimp only at hSw); go_simp; (try with_reducible rfl))); (try simp only [Act.put, List.setIfInBounds_toArray, List.set_cons_zero, List.set_cons_succ]))
        (refine Rg.sk (i := 11) (d := 25) rfl rfl (by kernel_rfl) (by kernel_rfl) (by kernel_rfl) (fun _ _ _ h => h) (by first | kernel_rfl | rfl) (by assumption) ?_; (try simp only [Act.put, List.setIfInBounds_toArray, List.set_cons_zero, List.set_cons_succ]))
        (refine Rg.sk (i := 12) (d := 26) rfl rfl (by kernel_rfl) (by kernel_rfl) (by kernel_rfl) (fun _ _ _ h => h) (by first | kernel_rfl | rfl) (by assumption) ?_; (try simp only [Act.put, List.setIfInBounds_toArray, List.set_cons_zero, List.set_cons_succ]))
        (refine Rg.sk (i := 13) (d := 27) rfl rfl (by kernel_rfl) (by kernel_rfl) (by kernel_rfl) (fun _ _ _ h => h) (by first | kernel_rfl | rfl) (by assumption) ?_; (try simp only [Act.put, List.setIfInBounds_toArray, List.set_cons_zero, List.set_cons_succ]))
        (refine Rg.sk (i := 14) (d := 28) rfl rfl (by kernel_rfl) (by kernel_rfl) (by kernel_rfl) (fun _ _ _ h => h) (by first | kernel_rfl | rfl) (by assumption) ?_; (try simp only [Act.put, List.setIfInBounds_toArray, List.set_cons_zero, List.set_cons_succ]))
        (refine Rg.sk (i := 15) (d := 29) rfl rfl (by kernel_rfl) (by kernel_rfl) (by kernel_rfl) (fun _ _ _ h => h) (by first | kernel_rfl | rfl) (by assumption) ?_; (try simp only [Act.put, List.setIfInBounds_toArray, List.set_cons_zero, List.set_cons_succ]))
        (refine Rg.sk (i := 16) (d := 30) rfl rfl (by kernel_rfl) (by kernel_rfl) (by kernel_rfl) (fun _ _ _ h => h) (by first | kernel_rfl | rfl) (by assumption) ?_; (try simp only [Act.put, List.setIfInBounds_toArray, List.set_cons_zero, List.set_cons_succ]))
        (refine Rg.sk (i := 17) (d := 31) rfl rfl (by kernel_rfl) (by kernel_rfl) (by kernel_rfl) (fun _ _ _ h => h) (by first | kernel_rfl | rfl) (by assumption) ?_; (try simp only [Act.put, List.setIfInBounds_toArray, List.set_cons_zero, List.set_cons_succ]))
        (refine Rg.sk (i := 18) (d := 32) rfl rfl (by kernel_rfl) (by kernel_rfl) (by kernel_rfl) (fun _ _ _ h => h) (by first | kernel_rfl | rfl) (by assumption) ?_; (try simp only [Act.put, List.setIfInBounds_toArray, List.set_cons_zero, List.set_cons_succ]))
        (refine Rg.sk (i := 19) (d := 33) rfl rfl (by kernel_rfl) (by kernel_rfl) (by kernel_rfl) (fun _ _ _ h => h) (by first | kernel_rfl | rfl) (by assumption) ?_; (try simp only [Act.put, List.setIfInBounds_toArray, List.set_cons_zero, List.set_cons_succ]))
        (refine Rg.sk (i := 20) (d := 34) rfl rfl (by kernel_rfl) (by kernel_rfl) (by kernel_rfl) (fun _ _ _ h => h) (by first | kernel_rfl | rfl) (by assumption) ?_; (try simp only [Act.put, List.setIfInBounds_toArray, List.set_cons_zero, List.set_cons_succ]))
        (refine Rg.sk (i := 21) (d := 35) rfl rfl (by kernel_rfl) (by kernel_rfl) (by kernel_rfl) (fun _ _ _ h => h) (by first | kernel_rfl | rfl) (by assumption) ?_; (try simp only [Act.put, List.setIfInBounds_toArray, List.set_cons_zero, List.set_cons_succ]))
        (refine Rg.sk (i := 22) (d := 36) rfl rfl (by kernel_rfl) (by kernel_rfl) (by kernel_rfl) (fun _ _ _ h => h) (by first | kernel_rfl | rfl) (by assumption) ?_; (try simp only [Act.put, List.setIfInBounds_toArray, List.set_cons_zero, List.set_cons_succ]))
        (refine Rg.sk (i := 23) (d := 37) rfl rfl (by kernel_rfl) (by kernel_rfl) (by kernel_rfl) (fun _ _ _ h => h) (by first | kernel_rfl | rfl) (by assumption) ?_; (try simp only [Act.put, List.setIfInBounds_toArray, List.set_cons_zero, List.set_cons_succ]))
        (refine Rg.sk (i := 24) (d := 38) rfl rfl (by kernel_rfl) (by kernel_rfl) (by kernel_rfl) (fun _ _ _ h => h) (by first | kernel_rfl | rfl) (by assumption) ?_; (try simp only [Act.put, List.setIfInBounds_toArray, List.set_cons_zero, List.set_cons_succ]))
        (refine Rg.tk (i := 25) (d := 39) (v := ?_) rfl rfl (by kernel_rfl) (by kernel_rfl) (by kernel_rfl) (fun _ _ _ h => h) (by rfl) ?_ (by assumption) ?_; rotate_left; (focus (intro w0 hSw; (try dsimp only at hSw); go_simp; (try with_reducible rfl))); (try simp only [Act.put, List.setIfInBounds_toArray, List.set_cons_zero, List.set_cons_succ]))
        (refine Rg.tk (i := 26) (d := 40) (v := ?_) rfl rfl (by kernel_rfl) (by kernel_rfl) (by kernel_rfl) (fun _ _ _ h => h) (by rfl) ?_ (by assumption) ?_; rotate_left; (focus (intro w0 hSw; (try dsimp only at hSw); go_simp; (try with_reducible rfl))); (try simp only [Act.put, List.setIfInBounds_toArray, List.set_cons_zero, List.set_cons_succ]))
        refine wpAnyH_done (by kernel_rfl) (NoPanic.normal ?_) _
        have hb4 := hide ((unhide hbl).drew.trans (b4.mono (by show W0.heap.size ≤ wr.heap.size; exact (unhide hbl).size)))
        clear b4 hHeld
        obtain ⟨z0, z1⟩ := (unhide HX).below (unhide hb4)
        go_wp2_with fail
        go_roundw
        case rel => exact ⟨0 + 1, by omega, by go_num, HST, hb4⟩
        case measure => simp [intOf]; omega
      · obtain ⟨i, hji⟩ : ∃ i, j = i + 1 := ⟨j - 1, by omega⟩
        have HJ := hide hji
        have e1 : (j : Int) - 1 = (i : Int) := by omega
        have i0 : (0 : Int) ≤ (i : Int) := by omega
        have wi : IntKind.i64.wrap (i : Int) = (i : Int) := by rw [IntKind.wrap_i64]; omega
        have i1 : (i : Int) < (k : Int) := by omega
        have j1 : (0 : Int) < (j : Int) := by omega
        have j2 : 0 < j := by omega
        have hP := hc i (by have := unhide HL; omega)
        have EJ : ss.getD j So.R.zero = ss.getD (i + 1) So.R.zero := by rw [hji]
        clear hc hji
        by_cases hk : (ss.getD i So.R.zero).ad < (ss.getD j So.R.zero).ad
        · have HST : Hid (allS ss (j + 1) = true) := hide (Ri.all_succ (unhide hrl) (by rw [unhide HJ]; exact Ri.step_lt (by rw [← EJ]; exact unhide HKK) (by rw [← EJ]; exact hk)))
          clear EJ
          generalize ss.getD j So.R.zero = m at *
          generalize ss.getD i So.R.zero = m0 at *
          obtain ⟨ad, an, til⟩ := m
          obtain ⟨ad0, an0, til0⟩ := m0
          dsimp only at hk
          go_wp2_with fail
          refine wp_region_noPanic ?_
          refine wp_region_held_drew (S := fun w' => ((So.At w' g (off + j * 3) ⟨ad, an, til⟩ ∧ So.At w' g (off + i * 3) ⟨ad0, an0, til0⟩) ∧ Bx2 w' w.heap.size (.slice (some ⟨g, off, none⟩) k ca) (.slice b n cb)) ∧ w'.cell? ⟨g, off + j * 3, none⟩ = some (.int .i64 ad) ∧ w'.cell? ⟨g, off + j * 3 + 1, none⟩ = some (.int .i64 an) ∧ w'.cell? ⟨g, off + j * 3 + 2, none⟩ = some (.int .i64 til) ∧ w'.cell? ⟨g, off + i * 3, none⟩ = some (.int .i64 ad0) ∧ w'.cell? ⟨w.heap.size, 0, none⟩ = some (.slice (some ⟨g, off, none⟩) k ca)) (by kernel_rfl) (sS2 (hA.drew) (hP.drew) ((unhide HXr).drew)) (fun hHeld => ?_)
          (refine Rg.tk (i := 0) (d := 14) (v := ?_) rfl rfl (by kernel_rfl) (by kernel_rfl) (by kernel_rfl) (fun _ _ _ h => h) (by rfl) ?_ (by assumption) ?_; rotate_left; (focus (intro w0 hSw; (try dsimp only at hSw); go_simp; (try with_reducible rfl))); (try simp only [Act.put, List.setIfInBounds_toArray, List.set_cons_zero, List.set_cons_succ]))
          (refine Rg.tk (i := 1) (d := 15) (v := ?_) rfl rfl (by kernel_rfl) (by kernel_rfl) (by kernel_rfl) (fun _ _ _ h => h) (by rfl) ?_ (by assumption) ?_; rotate_left; (focus (intro w0 hSw; (try dsimp only at hSw); go_simp; (try with_reducible rfl))); (try simp only [Act.put, List.setIfInBounds_toArray, List.set_cons_zero, List.set_cons_succ]))
          (refine Rg.tk (i := 2) (d := 16) (v := ?_) rfl rfl (by kernel_rfl) (by kernel_rfl) (by kernel_rfl) (fun _ _ _ h => h) (by rfl) ?_ (by assumption) ?_; rotate_left; (focus (intro w0 hSw; (try dsimp only at hSw); go_simp; (try with_reducible rfl))); (try simp only [Act.put, List.setIfInBounds_toArray, List.set_cons_zero, List.set_cons_succ]))
          (refine Rg.tk (i := 3) (d := 17) (v := ?_) rfl rfl (by kernel_rfl) (by kernel_rfl) (by kernel_rfl) (fun _ _ _ h => h) (by rfl) ?_ (by assumption) ?_; rotate_left; (focus (intro w0 hSw; (try dsimp only at hSw); go_simp; (try with_reducible rfl))); (try simp only [Act.put, List.setIfInBounds_toArray, List.set_cons_zero, List.set_cons_succ]))
          (refine Rg.tk (i := 4) (d := 18) (v := ?_) rfl rfl (by kernel_rfl) (by kernel_rfl) (by kernel_rfl) (fun _ _ _ h => h) (by rfl) ?_ (by assumption) ?_; rotate_left; (focus (intro w0 hSw; (try dsimp only at hSw); go_simp; (try with_reducible rfl))); (try simp only [Act.put, List.setIfInBounds_toArray, List.set_cons_zero, List.set_cons_succ]))
          (refine wpAnyH_ready (rs := [5]) (by kernel_rfl) (by simp) ?_; refine AllReadyH.cons (o := _) rfl (fun K hK => ?_) AllReadyH.nil; go_simp)
          refine (l09Source ad an til _).mono ?_
          rintro e w4 ⟨rfl, b4⟩
          rw [unhide HKK]
          refine hK.out _ _ (sS2 (hA.drew.below b4) (hP.drew.below b4) ((unhide HXr).drew.below b4)) (fun hHeld => ?_)
          clear hK K
          (try simp only [Act.put, List.setIfInBounds_toArray, List.set_cons_zero, List.set_cons_succ])
          (refine Rg.tk (i := 6) (d := 20) (v := ?_) rfl rfl (by kernel_rfl) (by kernel_rfl) (by kernel_rfl) (fun _ _ _ h => h) (by rfl) ?_ (by assumption) ?_; rotate_left; (focus (intro w0 hSw; (try dsimp only at hSw); go_simp; (try with_reducible rfl))); (try simp only [Act.put, List.setIfInBounds_toArray, List.set_cons_zero, List.set_cons_succ]))
          (refine Rg.tk (i := 7) (d := 21) (v := ?_) rfl rfl (by kernel_rfl) (by kernel_rfl) (by kernel_rfl) (fun _ _ _ h => h) (by rfl) ?_ (by assumption) ?_; rotate_left; (focus (intro w0 hSw; (try dsimp only at hSw); go_simp; (try with_reducible rfl))); (try simp only [Act.put, List.setIfInBounds_toArray, List.set_cons_zero, List.set_cons_succ]))
          (refine Rg.tk (i := 8) (d := 22) (v := ?_) rfl rfl (by kernel_rfl) (by kernel_rfl) (by kernel_rfl) (fun _ _ _ h => h) (by rfl) ?_ (by assumption) ?_; rotate_left; (focus (intro w0 hSw; (try dsimp only at hSw); go_simp; (try with_reducible rfl))); (try simp only [Act.put, List.setIfInBounds_toArray, List.set_cons_zero, List.set_cons_succ]))
          (refine Rg.tk (i := 9) (d := 23) (v := ?_) rfl rfl (by kernel_rfl) (by kernel_rfl) (by kernel_rfl) (fun _ _ _ h => h) (by rfl) ?_ (by assumption) ?_; rotate_left; (focus (intro w0 hSw; (try dsimp only at hSw); go_simp; (try with_reducible rfl))); (try simp only [Act.put, List.setIfInBounds_toArray, List.set_cons_zero, List.set_cons_succ]))
          (refine Rg.tk (i := 10) (d := 24) (v := ?_) rfl rfl (by kernel_rfl) (by kernel_rfl) (by kernel_rfl) (fun _ _ _ h => h) (by rfl) ?_ (by assumption) ?_; rotate_left; (focus (intro w0 hSw; (try dsimp only at hSw); go_simp; (try with_reducible rfl))); (try simp only [Act.put, List.setIfInBounds_toArray, List.set_cons_zero, List.set_cons_succ]))
          (refine Rg.tk (i := 11) (d := 25) (v := ?_) rfl rfl (by kernel_rfl) (by kernel_rfl) (by kernel_rfl) (fun _ _ _ h => h) (by rfl) ?_ (by assumption) ?_; rotate_left; (focus (intro w0 hSw; (try dsimp only at hSw); go_simp; (try with_reducible rfl))); (try simp only [Act.put, List.setIfInBounds_toArray, List.set_cons_zero, List.set_cons_succ]))
          (refine Rg.tk (i := 12) (d := 26) (v := ?_) rfl rfl (by kernel_rfl) (by kernel_rfl) (by kernel_rfl) (fun _ _ _ h => h) (by rfl) ?_ (by assumption) ?_; rotate_left; (focus (intro w0 hSw; (try dsimp only at hSw); go_simp; (try with_reducible rfl))); (try simp only [Act.put, List.setIfInBounds_toArray, List.set_cons_zero, List.set_cons_succ]))
          (refine Rg.tk (i := 13) (d := 27) (v := ?_) rfl rfl (by kernel_rfl) (by kernel_rfl) (by kernel_rfl) (fun _ _ _ h => h) (by rfl) ?_ (by assumption) ?_; rotate_left; (focus (intro w0 hSw; (try dsimp only at hSw); go_simp; (try with_reducible rfl))); (try simp only [Act.put, List.setIfInBounds_toArray, List.set_cons_zero, List.set_cons_succ]))
          (refine Rg.tk (i := 14) (d := 28) (v := ?_) rfl rfl (by kernel_rfl) (by kernel_rfl) (by kernel_rfl) (fun _ _ _ h => h) (by rfl) ?_ (by assumption) ?_; rotate_left; (focus (intro w0 hSw; (try dsimp only at hSw); go_simp; (try with_reducible rfl))); (try simp only [Act.put, List.setIfInBounds_toArray, List.set_cons_zero, List.set_cons_succ]))
          (refine Rg.tk (i := 15) (d := 29) (v := ?_) rfl rfl (by kernel_rfl) (by kernel_rfl) (by kernel_rfl) (fun _ _ _ h => h) (by rfl) ?_ (by assumption) ?_; rotate_left; (focus (intro w0 hSw; (try dsimp only at hSw); go_simp; (try with_reducible rfl))); (try simp only [Act.put, List.setIfInBounds_toArray, List.set_cons_zero, List.set_cons_succ]))
          (refine Rg.tk (i := 16) (d := 30) (v := ?_) rfl rfl (by kernel_rfl) (by kernel_rfl) (by kernel_rfl) (fun _ _ _ h => h) (by rfl) ?_ (by assumption) ?_; rotate_left; (focus (intro w0 hSw; (try dsimp only at hSw); go_simp; (try with_reducible rfl))); (try simp only [Act.put, List.setIfInBounds_toArray, List.set_cons_zero, List.set_cons_succ]))
          (refine Rg.tk (i := 17) (d := 31) (v := ?_) rfl rfl (by kernel_rfl) (by kernel_rfl) (by kernel_rfl) (fun _ _ _ h => h) (by rfl) ?_ (by assumption) ?_; rotate_left; (focus (intro w0 hSw; (try dsimp only at hSw); go_simp; (try with_reducible rfl))); (try simp only [Act.put, List.setIfInBounds_toArray, List.set_cons_zero, List.set_cons_succ]))
          (refine Rg.tk (i := 18) (d := 32) (v := ?_) rfl rfl (by kernel_rfl) (by kernel_rfl) (by kernel_rfl) (fun _ _ _ h => h) (by rfl) ?_ (by assumption) ?_; rotate_left; (focus (intro w0 hSw; (try dsimp only at hSw); go_simp; (try with_reducible rfl))); (try simp only [Act.put, List.setIfInBounds_toArray, List.set_cons_zero, List.set_cons_succ]))
          (refine Rg.tk (i := 19) (d := 33) (v := ?_) rfl rfl (by kernel_rfl) (by kernel_rfl) (by kernel_rfl) (fun _ _ _ h => h) (by rfl) ?_ (by assumption) ?_; rotate_left; (focus (intro w0 hSw; (try dsimp only at hSw); go_simp; (try with_reducible rfl))); (try simp only [Act.put, List.setIfInBounds_toArray, List.set_cons_zero, List.set_cons_succ]))
          (refine Rg.tk (i := 20) (d := 34) (v := ?_) rfl rfl (by kernel_rfl) (by kernel_rfl) (by kernel_rfl) (fun _ _ _ h => h) (by rfl) ?_ (by assumption) ?_; rotate_left; (focus (intro w0 hSw; (try dsimp only at hSw); go_simp; (try with_reducible rfl))); (try simp only [Act.put, List.setIfInBounds_toArray, List.set_cons_zero, List.set_cons_succ]))
          (refine Rg.tk (i := 21) (d := 35) (v := ?_) rfl rfl (by kernel_rfl) (by kernel_rfl) (by kernel_rfl) (fun _ _ _ h => h) (by rfl) ?_ (by assumption) ?_; rotate_left; (focus (intro w0 hSw; (try dsimp only at hSw); go_simp; (try with_reducible rfl))); (try simp only [Act.put, List.setIfInBounds_toArray, List.set_cons_zero, List.set_cons_succ]))
          (refine Rg.tk (i := 22) (d := 36) (v := ?_) rfl rfl (by kernel_rfl) (by kernel_rfl) (by kernel_rfl) (fun _ _ _ h => h) (by rfl) ?_ (by assumption) ?_; rotate_left; (focus (intro w0 hSw; (try dsimp only at hSw); go_simp; (try with_reducible rfl))); (try simp only [Act.put, List.setIfInBounds_toArray, List.set_cons_zero, List.set_cons_succ]))
          (refine Rg.tk (i := 23) (d := 37) (v := ?_) rfl rfl (by kernel_rfl) (by kernel_rfl) (by kernel_rfl) (fun _ _ _ h => h) (by rfl) ?_ (by assumption) ?_; rotate_left; (focus (intro w0 hSw; (try dsimp only at hSw); go_simp; (try with_reducible rfl))); (try simp only [Act.put, List.setIfInBounds_toArray, List.set_cons_zero, List.set_cons_succ]))
          (refine Rg.tk (i := 24) (d := 38) (v := ?_) rfl rfl (by kernel_rfl) (by kernel_rfl) (by kernel_rfl) (fun _ _ _ h => h) (by rfl) ?_ (by assumption) ?_; rotate_left; (focus (intro w0 hSw; (try dsimp only at hSw); go_simp; (try with_reducible rfl))); (try simp only [Act.put, List.setIfInBounds_toArray, List.set_cons_zero, List.set_cons_succ]))
          (refine Rg.tk (i := 25) (d := 39) (v := ?_) rfl rfl (by kernel_rfl) (by kernel_rfl) (by kernel_rfl) (fun _ _ _ h => h) (by rfl) ?_ (by assumption) ?_; rotate_left; (focus (intro w0 hSw; (try dsimp only at hSw); go_simp; (try with_reducible rfl))); (try simp only [Act.put, List.setIfInBounds_toArray, List.set_cons_zero, List.set_cons_succ]))
          (refine Rg.tk (i := 26) (d := 40) (v := ?_) rfl rfl (by kernel_rfl) (by kernel_rfl) (by kernel_rfl) (fun _ _ _ h => h) (by rfl) ?_ (by assumption) ?_; rotate_left; (focus (intro w0 hSw; (try dsimp only at hSw); go_simp; (try with_reducible rfl))); (try simp only [Act.put, List.setIfInBounds_toArray, List.set_cons_zero, List.set_cons_succ]))
          refine wpAnyH_done (by kernel_rfl) (NoPanic.normal ?_) _
          have hb4 := hide ((unhide hbl).drew.trans (b4.mono (by show W0.heap.size ≤ wr.heap.size; exact (unhide hbl).size)))
          clear b4 hHeld
          obtain ⟨z0, z1⟩ := (unhide HX).below (unhide hb4)
          go_wp2_with fail
          go_roundw
          case rel => exact ⟨j + 1, by omega, by go_num, HST, hb4⟩
          case measure => simp [intOf]; omega
        · have HST : Hid (A = false) := hide (by rw [← unhide HTA]; exact top_nosrc (Ri.all_no (unhide HL) (show Ri.step So.R.zero okS So.R.ad ss j = false by rw [unhide HJ]; exact Ri.step_ge (by rw [← EJ]; omega))))
          clear EJ
          generalize ss.getD j So.R.zero = m at *
          generalize ss.getD i So.R.zero = m0 at *
          obtain ⟨ad, an, til⟩ := m
          obtain ⟨ad0, an0, til0⟩ := m0
          dsimp only at hk
          go_wp2_with fail
          refine wp_region_noPanic ?_
          refine wp_region_held_drew (S := fun w' => ((So.At w' g (off + j * 3) ⟨ad, an, til⟩ ∧ So.At w' g (off + i * 3) ⟨ad0, an0, til0⟩) ∧ Bx2 w' w.heap.size (.slice (some ⟨g, off, none⟩) k ca) (.slice b n cb)) ∧ w'.cell? ⟨g, off + j * 3, none⟩ = some (.int .i64 ad) ∧ w'.cell? ⟨g, off + j * 3 + 1, none⟩ = some (.int .i64 an) ∧ w'.cell? ⟨g, off + j * 3 + 2, none⟩ = some (.int .i64 til) ∧ w'.cell? ⟨g, off + i * 3, none⟩ = some (.int .i64 ad0) ∧ w'.cell? ⟨w.heap.size, 0, none⟩ = some (.slice (some ⟨g, off, none⟩) k ca)) (by kernel_rfl) (sS2 (hA.drew) (hP.drew) ((unhide HXr).drew)) (fun hHeld => ?_)
          (refine Rg.tk (i := 0) (d := 14) (v := ?_) rfl rfl (by kernel_rfl) (by kernel_rfl) (by kernel_rfl) (fun _ _ _ h => h) (by rfl) ?_ (by assumption) ?_; rotate_left; (focus (intro w0 hSw; (try dsimp only at hSw); go_simp; (try with_reducible rfl))); (try simp only [Act.put, List.setIfInBounds_toArray, List.set_cons_zero, List.set_cons_succ]))
          (refine Rg.tk (i := 1) (d := 15) (v := ?_) rfl rfl (by kernel_rfl) (by kernel_rfl) (by kernel_rfl) (fun _ _ _ h => h) (by rfl) ?_ (by assumption) ?_; rotate_left; (focus (intro w0 hSw; (try dsimp only at hSw); go_simp; (try with_reducible rfl))); (try simp only [Act.put, List.setIfInBounds_toArray, List.set_cons_zero, List.set_cons_succ]))
          (refine Rg.tk (i := 2) (d := 16) (v := ?_) rfl rfl (by kernel_rfl) (by kernel_rfl) (by kernel_rfl) (fun _ _ _ h => h) (by rfl) ?_ (by assumption) ?_; rotate_left; (focus (intro w0 hSw; (try dsimp only at hSw); go_simp; (try with_reducible rfl))); (try simp only [Act.put, List.setIfInBounds_toArray, List.set_cons_zero, List.set_cons_succ]))
          (refine Rg.tk (i := 3) (d := 17) (v := ?_) rfl rfl (by kernel_rfl) (by kernel_rfl) (by kernel_rfl) (fun _ _ _ h => h) (by rfl) ?_ (by assumption) ?_; rotate_left; (focus (intro w0 hSw; (try dsimp only at hSw); go_simp; (try with_reducible rfl))); (try simp only [Act.put, List.setIfInBounds_toArray, List.set_cons_zero, List.set_cons_succ]))
          (refine Rg.tk (i := 4) (d := 18) (v := ?_) rfl rfl (by kernel_rfl) (by kernel_rfl) (by kernel_rfl) (fun _ _ _ h => h) (by rfl) ?_ (by assumption) ?_; rotate_left; (focus (intro w0 hSw; (try dsimp only at hSw); go_simp; (try with_reducible rfl))); (try simp only [Act.put, List.setIfInBounds_toArray, List.set_cons_zero, List.set_cons_succ]))
          (refine wpAnyH_ready (rs := [5]) (by kernel_rfl) (by simp) ?_; refine AllReadyH.cons (o := _) rfl (fun K hK => ?_) AllReadyH.nil; go_simp)
          refine (l09Source ad an til _).mono ?_
          rintro e w4 ⟨rfl, b4⟩
          rw [unhide HKK]
          refine hK.out _ _ (sS2 (hA.drew.below b4) (hP.drew.below b4) ((unhide HXr).drew.below b4)) (fun hHeld => ?_)
          clear hK K
          (try simp only [Act.put, List.setIfInBounds_toArray, List.set_cons_zero, List.set_cons_succ])
          (refine Rg.tk (i := 6) (d := 20) (v := ?_) rfl rfl (by kernel_rfl) (by kernel_rfl) (by kernel_rfl) (fun _ _ _ h => h) (by rfl) ?_ (by assumption) ?_; rotate_left; (focus (intro w0 hSw; (try dsimp only at hSw); go_simp; (try with_reducible rfl))); (try simp only [Act.put, List.setIfInBounds_toArray, List.set_cons_zero, List.set_cons_succ]))
          (refine Rg.tk (i := 7) (d := 21) (v := ?_) rfl rfl (by kernel_rfl) (by kernel_rfl) (by kernel_rfl) (fun _ _ _ h => h) (by rfl) ?_ (by assumption) ?_; rotate_left; (focus (intro w0 hSw; (try dsimp only at hSw); go_simp; (try with_reducible rfl))); (try simp only [Act.put, List.setIfInBounds_toArray, List.set_cons_zero, List.set_cons_succ]))
          (refine Rg.tk (i := 8) (d := 22) (v := ?_) rfl rfl (by kernel_rfl) (by kernel_rfl) (by kernel_rfl) (fun _ _ _ h => h) (by rfl) ?_ (by assumption) ?_; rotate_left; (focus (intro w0 hSw; (try dsimp only at hSw); go_simp; (try with_reducible rfl))); (try simp only [Act.put, List.setIfInBounds_toArray, List.set_cons_zero, List.set_cons_succ]))
          (refine Rg.tk (i := 9) (d := 23) (v := ?_) rfl rfl (by kernel_rfl) (by kernel_rfl) (by kernel_rfl) (fun _ _ _ h => h) (by rfl) ?_ (by assumption) ?_; rotate_left; (focus (intro w0 hSw; (try dsimp only at hSw); go_simp; (try with_reducible rfl))); (try simp only [Act.put, List.setIfInBounds_toArray, List.set_cons_zero, List.set_cons_succ]))
          (refine Rg.tk (i := 10) (d := 24) (v := ?_) rfl rfl (by kernel_rfl) (by kernel_rfl) (by kernel_rfl) (fun _ _ _ h => h) (by rfl) ?_ (by assumption) ?_; rotate_left; (focus (intro w0 hSw; (try dsimp only at hSw); go_simp; (try with_reducible rfl))); (try simp only [Act.put, List.setIfInBounds_toArray, List.set_cons_zero, List.set_cons_succ]))
          (refine Rg.tk (i := 11) (d := 25) (v := ?_) rfl rfl (by kernel_rfl) (by kernel_rfl) (by kernel_rfl) (fun _ _ _ h => h) (by rfl) ?_ (by assumption) ?_; rotate_left; (focus (intro w0 hSw; (try dsimp only at hSw); go_simp; (try with_reducible rfl))); (try simp only [Act.put, List.setIfInBounds_toArray, List.set_cons_zero, List.set_cons_succ]))
          (refine Rg.tk (i := 12) (d := 26) (v := ?_) rfl rfl (by kernel_rfl) (by kernel_rfl) (by kernel_rfl) (fun _ _ _ h => h) (by rfl) ?_ (by assumption) ?_; rotate_left; (focus (intro w0 hSw; (try dsimp only at hSw); go_simp; (try with_reducible rfl))); (try simp only [Act.put, List.setIfInBounds_toArray, List.set_cons_zero, List.set_cons_succ]))
          (refine Rg.tk (i := 13) (d := 27) (v := ?_) rfl rfl (by kernel_rfl) (by kernel_rfl) (by kernel_rfl) (fun _ _ _ h => h) (by rfl) ?_ (by assumption) ?_; rotate_left; (focus (intro w0 hSw; (try dsimp only at hSw); go_simp; (try with_reducible rfl))); (try simp only [Act.put, List.setIfInBounds_toArray, List.set_cons_zero, List.set_cons_succ]))
          (refine Rg.tk (i := 14) (d := 28) (v := ?_) rfl rfl (by kernel_rfl) (by kernel_rfl) (by kernel_rfl) (fun _ _ _ h => h) (by rfl) ?_ (by assumption) ?_; rotate_left; (focus (intro w0 hSw; (try dsimp only at hSw); go_simp; (try with_reducible rfl))); (try simp only [Act.put, List.setIfInBounds_toArray, List.set_cons_zero, List.set_cons_succ]))
          (refine Rg.tk (i := 15) (d := 29) (v := ?_) rfl rfl (by kernel_rfl) (by kernel_rfl) (by kernel_rfl) (fun _ _ _ h => h) (by rfl) ?_ (by assumption) ?_; rotate_left; (focus (intro w0 hSw; (try dsimp only at hSw); go_simp; (try with_reducible rfl))); (try simp only [Act.put, List.setIfInBounds_toArray, List.set_cons_zero, List.set_cons_succ]))
          (refine Rg.tk (i := 16) (d := 30) (v := ?_) rfl rfl (by kernel_rfl) (by kernel_rfl) (by kernel_rfl) (fun _ _ _ h => h) (by rfl) ?_ (by assumption) ?_; rotate_left; (focus (intro w0 hSw; (try dsimp only at hSw); go_simp; (try with_reducible rfl))); (try simp only [Act.put, List.setIfInBounds_toArray, List.set_cons_zero, List.set_cons_succ]))
          (refine Rg.tk (i := 17) (d := 31) (v := ?_) rfl rfl (by kernel_rfl) (by kernel_rfl) (by kernel_rfl) (fun _ _ _ h => h) (by rfl) ?_ (by assumption) ?_; rotate_left; (focus (intro w0 hSw; (try dsimp only at hSw); go_simp; (try with_reducible rfl))); (try simp only [Act.put, List.setIfInBounds_toArray, List.set_cons_zero, List.set_cons_succ]))
          (refine Rg.tk (i := 18) (d := 32) (v := ?_) rfl rfl (by kernel_rfl) (by kernel_rfl) (by kernel_rfl) (fun _ _ _ h => h) (by rfl) ?_ (by assumption) ?_; rotate_left; (focus (intro w0 hSw; (try dsimp only at hSw); go_simp; (try with_reducible rfl))); (try simp only [Act.put, List.setIfInBounds_toArray, List.set_cons_zero, List.set_cons_succ]))
          (refine Rg.tk (i := 19) (d := 33) (v := ?_) rfl rfl (by kernel_rfl) (by kernel_rfl) (by kernel_rfl) (fun _ _ _ h => h) (by rfl) ?_ (by assumption) ?_; rotate_left; (focus (intro w0 hSw; (try dsimp only at hSw); go_simp; (try with_reducible rfl))); (try simp only [Act.put, List.setIfInBounds_toArray, List.set_cons_zero, List.set_cons_succ]))
          (refine Rg.tk (i := 20) (d := 34) (v := ?_) rfl rfl (by kernel_rfl) (by kernel_rfl) (by kernel_rfl) (fun _ _ _ h => h) (by rfl) ?_ (by assumption) ?_; rotate_left; (focus (intro w0 hSw; (try dsimp only at hSw); go_simp; (try with_reducible rfl))); (try simp only [Act.put, List.setIfInBounds_toArray, List.set_cons_zero, List.set_cons_succ]))
          (refine Rg.tk (i := 21) (d := 35) (v := ?_) rfl rfl (by kernel_rfl) (by kernel_rfl) (by kernel_rfl) (fun _ _ _ h => h) (by rfl) ?_ (by assumption) ?_; rotate_left; (focus (intro w0 hSw; (try dsimp only at hSw); go_simp; (try with_reducible rfl))); (try simp only [Act.put, List.setIfInBounds_toArray, List.set_cons_zero, List.set_cons_succ]))
          (refine Rg.tk (i := 22) (d := 36) (v := ?_) rfl rfl (by kernel_rfl) (by kernel_rfl) (by kernel_rfl) (fun _ _ _ h => h) (by rfl) ?_ (by assumption) ?_; rotate_left; (focus (intro w0 hSw; (try dsimp only at hSw); go_simp; (try with_reducible rfl))); (try simp only [Act.put, List.setIfInBounds_toArray, List.set_cons_zero, List.set_cons_succ]))
          (refine Rg.tk (i := 23) (d := 37) (v := ?_) rfl rfl (by kernel_rfl) (by kernel_rfl) (by kernel_rfl) (fun _ _ _ h => h) (by rfl) ?_ (by assumption) ?_; rotate_left; (focus (intro w0 hSw; (try dsimp only at hSw); go_simp; (try with_reducible rfl))); (try simp only [Act.put, List.setIfInBounds_toArray, List.set_cons_zero, List.set_cons_succ]))
          (refine Rg.tk (i := 24) (d := 38) (v := ?_) rfl rfl (by kernel_rfl) (by kernel_rfl) (by kernel_rfl) (fun _ _ _ h => h) (by rfl) ?_ (by assumption) ?_; rotate_left; (focus (intro w0 hSw; (try dsimp only at hSw); go_simp; (try with_reducible rfl))); (try simp only [Act.put, List.setIfInBounds_toArray, List.set_cons_zero, List.set_cons_succ]))
          (refine Rg.tk (i := 25) (d := 39) (v := ?_) rfl rfl (by kernel_rfl) (by kernel_rfl) (by kernel_rfl) (fun _ _ _ h => h) (by rfl) ?_ (by assumption) ?_; rotate_left; (focus (intro w0 hSw; (try dsimp only at hSw); go_simp; (try with_reducible rfl))); (try simp only [Act.put, List.setIfInBounds_toArray, List.set_cons_zero, List.set_cons_succ]))
          (refine Rg.tk (i := 26) (d := 40) (v := ?_) rfl rfl (by kernel_rfl) (by kernel_rfl) (by kernel_rfl) (fun _ _ _ h => h) (by rfl) ?_ (by assumption) ?_; rotate_left; (focus (intro w0 hSw; (try dsimp only at hSw); go_simp; (try with_reducible rfl))); (try simp only [Act.put, List.setIfInBounds_toArray, List.set_cons_zero, List.set_cons_succ]))
          refine wpAnyH_done (by kernel_rfl) (NoPanic.normal ?_) _
          have hb4 := hide ((unhide hbl).drew.trans (b4.mono (by show W0.heap.size ≤ wr.heap.size; exact (unhide hbl).size)))
          clear b4 hHeld
          obtain ⟨z0, z1⟩ := (unhide HX).below (unhide hb4)
          go_wp2_with fail
          go_ret
          exact ⟨ret_bool (unhide HST).symm, (unhide HA).trans ((unhide hb4).mono (unhide HA).size)⟩
    · obtain rfl : j = k := by omega
      have hok : srcB ss = true := by unfold srcB; rw [unhide HK]; exact unhide hrl
      have h8 := src_len hok
      have h8' : (j : Int) ≤ 8 := by have := unhide HK; omega
      have HS := hide hok
      clear hok h8 hrl
      have HBX := hide ((unhide HA).trans ((unhide hbl).mono (unhide HA).size))
      have HR1 := hide ((unhide HR).below (unhide hbl))
      have HE1 := hide ((unhide HE).below (unhide hbl))
      clear HR HE HX HA hbl
      generalize hwq : wr = wq at *
      clear hwq
      go_wp2_with fail
      clear z0 z1
      go_loopw [4] (fun i wr => ∃ t : Nat, t ≤ n ∧ i = .int .i64 t ∧ Hid (edgB ss es t = true ∨ twoB es = false) ∧ Hid (Below wq.heap.size wq wr)) (fun i _ => n - (intOf i).toNat)
      case atStart => exact ⟨0, by omega, rfl, hide (.inl (edg_zero ss es)), hide (Below.refl _ _)⟩
      case round =>
        obtain ⟨t, ht, rfl, hed, hbl⟩ := hrel
        have HXr2 := hide ((unhide HXr).below (unhide hbl))
        obtain ⟨z0, z1⟩ := unhide HXr2
        have HBW := hide ((unhide HBX).trans ((unhide hbl).mono (unhide HBX).size))
        by_cases hlt : (t : Int) < (n : Int)
        · have k0 : (0 : Int) ≤ (t : Int) := by omega
          have hlen : t < es.length := by rw [unhide HN]; omega
          obtain ⟨g, off, rfl⟩ := (unhide HE1).form (by omega)
          have hA := ((unhide HE1).below (unhide hbl)).at hlen
          have HAt := hide hA
          have HR2 := hide ((unhide HR1).below (unhide hbl))
          obtain ⟨v, hv'⟩ : ∃ v, IntKind.i64.wrap ((es.getD t R.zero).key.tdiv 100) = v := ⟨_, rfl⟩
          obtain ⟨HF, HC⟩ := edge_check (ss := ss) hlen hv' (unhide hed)
          rw [unhide HTA] at HF
          have HF := hide HF
          have HC := hide HC
          generalize es.getD t R.zero = m at *
          obtain ⟨key, til, val⟩ := m
          obtain ⟨c0, c1, c2⟩ := hA
          dsimp only at c0 c1 c2 hv' HF HC
          obtain ⟨E, hE⟩ : ∃ E, hasS ss v = E := ⟨_, rfl⟩
          have HE2 := hide hE
          rw [hE] at HF HC
          clear hE
          obtain ⟨qa, qn, qt, hq⟩ : ∃ qa qn qt, fS ss v = ⟨qa, qn, qt⟩ := ⟨_, _, _, rfl⟩
          have HQV : Hid ((fS ss v).value = .agg #[.int .i64 qa, .int .i64 qn, .int .i64 qt]) := hide (by rw [hq]; rfl)
          clear hq
          go_wp2_with fail
          go_cut [6] (fun q wx => q = .bool E ∧ Hid (Below wr.heap.size wr wx))
          case first =>
            refine wp_region_noPanic ?_
            refine wp_region_held_drew (S := fun w' => (Tu.At w' g (off + t * 3) ⟨key, til, val⟩ ∧ Bx2 w' w.heap.size (.slice a j ca) (.slice (some ⟨g, off, none⟩) n cb)) ∧ w'.cell? ⟨g, off + t * 3, none⟩ = some (.int .i64 key) ∧ w'.cell? ⟨w.heap.size, 0, none⟩ = some (.slice a j ca) ∧ w'.cell? ⟨w.heap.size, 1, none⟩ = some (.slice (some ⟨g, off, none⟩) n cb)) (by kernel_rfl) (sE1 (unhide HAt).drew (unhide HXr2).drew) (fun hHeld => ?_)
            (refine Rg.tk (i := 0) (d := 49) (v := ?_) rfl rfl (by kernel_rfl) (by kernel_rfl) (by kernel_rfl) (fun _ _ _ h => h) (by rfl) ?_ (by assumption) ?_; rotate_left; (focus (intro w0 hSw; (try dsimp only at hSw); go_simp; (try with_reducible rfl))); (try simp only [Act.put, List.setIfInBounds_toArray, List.set_cons_zero, List.set_cons_succ]))
            (refine Rg.tk (i := 1) (d := 50) (v := ?_) rfl rfl (by kernel_rfl) (by kernel_rfl) (by kernel_rfl) (fun _ _ _ h => h) (by rfl) ?_ (by assumption) ?_; rotate_left; (focus (intro w0 hSw; (try dsimp only at hSw); go_simp; (try with_reducible rfl))); (try simp only [Act.put, List.setIfInBounds_toArray, List.set_cons_zero, List.set_cons_succ]))
            (refine Rg.tk (i := 2) (d := 51) (v := ?_) rfl rfl (by kernel_rfl) (by kernel_rfl) (by kernel_rfl) (fun _ _ _ h => h) (by rfl) ?_ (by assumption) ?_; rotate_left; (focus (intro w0 hSw; (try dsimp only at hSw); go_simp; (try with_reducible rfl))); (try simp only [Act.put, List.setIfInBounds_toArray, List.set_cons_zero, List.set_cons_succ]))
            (refine Rg.tk (i := 3) (d := 52) (v := ?_) rfl rfl (by kernel_rfl) (by kernel_rfl) (by kernel_rfl) (fun _ _ _ h => h) (by rfl) ?_ (by assumption) ?_; rotate_left; (focus (intro w0 hSw; (try dsimp only at hSw); go_simp; (try with_reducible rfl))); (try simp only [Act.put, List.setIfInBounds_toArray, List.set_cons_zero, List.set_cons_succ]))
            (refine Rg.tk (i := 4) (d := 53) (v := ?_) rfl rfl (by kernel_rfl) (by kernel_rfl) (by kernel_rfl) (fun _ _ _ h => h) (by rfl) ?_ (by assumption) ?_; rotate_left; (focus (intro w0 hSw; (try dsimp only at hSw); go_simp; (try with_reducible rfl))); (try simp only [Act.put, List.setIfInBounds_toArray, List.set_cons_zero, List.set_cons_succ]))
            (refine Rg.tk (i := 5) (d := 54) (v := ?_) rfl rfl (by kernel_rfl) (by kernel_rfl) (by kernel_rfl) (fun _ _ _ h => h) (by rfl) ?_ (by assumption) ?_; rotate_left; (focus (intro w0 hSw; (try dsimp only at hSw); go_simp; (try with_reducible rfl))); (try simp only [Act.put, List.setIfInBounds_toArray, List.set_cons_zero, List.set_cons_succ]))
            (refine Rg.tk (i := 6) (d := 55) (v := ?_) rfl rfl (by kernel_rfl) (by kernel_rfl) (by kernel_rfl) (fun _ _ _ h => h) (by rfl) ?_ (by assumption) ?_; rotate_left; (focus (intro w0 hSw; (try dsimp only at hSw); go_simp; (try with_reducible rfl))); (try simp only [Act.put, List.setIfInBounds_toArray, List.set_cons_zero, List.set_cons_succ]))
            (refine Rg.tk (i := 7) (d := 56) (v := .int .i64 v) rfl rfl (by kernel_rfl) (by kernel_rfl) (by kernel_rfl) (fun _ _ _ h => h) (by rfl) ?_ (by assumption) ?_; (focus (intro w0 hSw; (try dsimp only at hSw); go_simp)); (try simp only [Act.put, List.setIfInBounds_toArray, List.set_cons_zero, List.set_cons_succ]))
            (refine wpAnyH_ready (rs := [8, 12]) (by kernel_rfl) (by simp) ?_; refine AllReadyH.cons (o := _) rfl (fun K hK => ?_) (AllReadyH.cons (o := _) rfl (fun K hK => ?_) AllReadyH.nil))
            · go_simp
              refine (l09FindL _ ss j ca _ v _ (unhide HK) (by omega) (unhide HR2).drew).mono ?_
              rintro e w4 ⟨rfl, b4_⟩
              rw [unhide HE2, unhide HQV]
              have b4 : Below wr.heap.size wr w4 := (Below.refl _ _).drew.trans b4_
              clear b4_ hHeld
              refine hK.out _ _ (sE1 ((unhide HAt).below b4) ((unhide HXr2).below b4)) (fun hHeld => ?_)
              clear hK K
              (try simp only [Act.put, List.setIfInBounds_toArray, List.set_cons_zero, List.set_cons_succ])
              (refine Rg.tk (i := 9) (d := 48) (v := ?_) rfl rfl (by kernel_rfl) (by kernel_rfl) (by kernel_rfl) (fun _ _ _ h => h) (by rfl) ?_ (by assumption) ?_; rotate_left; (focus (intro w0 hSw; (try dsimp only at hSw); go_simp; (try with_reducible rfl))); (try simp only [Act.put, List.setIfInBounds_toArray, List.set_cons_zero, List.set_cons_succ]))
              (refine Rg.tk (i := 10) (d := 58) (v := ?_) rfl rfl (by kernel_rfl) (by kernel_rfl) (by kernel_rfl) (fun _ _ _ h => h) (by rfl) ?_ (by assumption) ?_; rotate_left; (focus (intro w0 hSw; (try dsimp only at hSw); go_simp; (try with_reducible rfl))); (try simp only [Act.put, List.setIfInBounds_toArray, List.set_cons_zero, List.set_cons_succ]))
              (refine Rg.tk (i := 11) (d := 59) (v := ?_) rfl rfl (by kernel_rfl) (by kernel_rfl) (by kernel_rfl) (fun _ _ _ h => h) (by rfl) ?_ (by assumption) ?_; rotate_left; (focus (intro w0 hSw; (try dsimp only at hSw); go_simp; (try with_reducible rfl))); (try simp only [Act.put, List.setIfInBounds_toArray, List.set_cons_zero, List.set_cons_succ]))
              (refine wpAnyH_ready (rs := [12]) (by kernel_rfl) (by simp) ?_; refine AllReadyH.cons (o := _) rfl (fun K hK => ?_) AllReadyH.nil; go_simp)
              have b5 := b4.alloc b4.size (.cells #[.int .i64 0, .int .i64 0, .int .i64 0] 122)
              clear hHeld
              refine hK.out _ _ (sE1 ((unhide HAt).below b5) ((unhide HXr2).below b5)) (fun hHeld => ?_)
              clear hK K
              (try simp only [Act.put, List.setIfInBounds_toArray, List.set_cons_zero, List.set_cons_succ])
              (refine wpAnyH_ready (rs := [13]) (by kernel_rfl) (by simp) ?_; refine AllReadyH.cons (o := _) rfl (fun K hK => ?_) AllReadyH.nil; go_simp)
              have b6 := b4.alloc b4.size (.cells #[.int .i64 qa, .int .i64 qn, .int .i64 qt] 122)
              clear hHeld
              refine hK.out _ _ (sE1 ((unhide HAt).below b6) ((unhide HXr2).below b6)) (fun hHeld => ?_)
              clear hK K
              (try simp only [Act.put, List.setIfInBounds_toArray, List.set_cons_zero, List.set_cons_succ])
              (refine Rg.tk (i := 14) (d := 6) (v := ?_) rfl rfl (by kernel_rfl) (by kernel_rfl) (by kernel_rfl) (fun _ _ _ h => h) (by rfl) ?_ (by assumption) ?_; rotate_left; (focus (intro w0 hSw; (try dsimp only at hSw); go_simp; (try with_reducible rfl))); (try simp only [Act.put, List.setIfInBounds_toArray, List.set_cons_zero, List.set_cons_succ]))
              refine wpAnyH_done (by kernel_rfl) (NoPanic.normal ?_) _
              clear hHeld
              go_wp2_with fail
              go_meet
              case rel => exact ⟨rfl, hide b6⟩
            · go_simp
              have b4 : Below wr.heap.size wr (wr.drew.alloc (.cells #[.int .i64 0, .int .i64 0, .int .i64 0] 122)) := (Below.refl _ _).drew.alloc (Nat.le_refl _) _
              have HV4 : Hid (SV (wr.drew.alloc (.cells #[.int .i64 0, .int .i64 0, .int .i64 0] 122)) wr.heap.size So.R.zero) := hide (sv_new wr.drew So.R.zero)
              clear hHeld
              refine hK.out _ _ (sE1 ((unhide HAt).below b4) ((unhide HXr2).below b4)) (fun hHeld => ?_)
              clear hK K
              (try simp only [Act.put, List.setIfInBounds_toArray, List.set_cons_zero, List.set_cons_succ])
              (refine wpAnyH_ready (rs := [8]) (by kernel_rfl) (by simp) ?_; refine AllReadyH.cons (o := _) rfl (fun K hK => ?_) AllReadyH.nil; go_simp)
              refine (l09FindL _ ss j ca _ v _ (unhide HK) (by omega) ((unhide HR2).below b4)).mono ?_
              rintro e w5 ⟨rfl, b5_⟩
              rw [unhide HE2, unhide HQV]
              have b5 := b4.trans (b5_.mono b4.size)
              have HV5 := hide ((unhide HV4).below b5_)
              clear b5_ hHeld
              refine hK.out _ _ (sE1 ((unhide HAt).below b5) ((unhide HXr2).below b5)) (fun hHeld => ?_)
              clear hK K
              (try simp only [Act.put, List.setIfInBounds_toArray, List.set_cons_zero, List.set_cons_succ])
              (refine Rg.tk (i := 9) (d := 48) (v := ?_) rfl rfl (by kernel_rfl) (by kernel_rfl) (by kernel_rfl) (fun _ _ _ h => h) (by rfl) ?_ (by assumption) ?_; rotate_left; (focus (intro w0 hSw; (try dsimp only at hSw); go_simp; (try with_reducible rfl))); (try simp only [Act.put, List.setIfInBounds_toArray, List.set_cons_zero, List.set_cons_succ]))
              (refine Rg.tk (i := 10) (d := 58) (v := ?_) rfl rfl (by kernel_rfl) (by kernel_rfl) (by kernel_rfl) (fun _ _ _ h => h) (by rfl) ?_ (by assumption) ?_; rotate_left; (focus (intro w0 hSw; (try dsimp only at hSw); go_simp; (try with_reducible rfl))); (try simp only [Act.put, List.setIfInBounds_toArray, List.set_cons_zero, List.set_cons_succ]))
              (refine Rg.tk (i := 11) (d := 59) (v := ?_) rfl rfl (by kernel_rfl) (by kernel_rfl) (by kernel_rfl) (fun _ _ _ h => h) (by rfl) ?_ (by assumption) ?_; rotate_left; (focus (intro w0 hSw; (try dsimp only at hSw); go_simp; (try with_reducible rfl))); (try simp only [Act.put, List.setIfInBounds_toArray, List.set_cons_zero, List.set_cons_succ]))
              obtain ⟨x0, x1, x2⟩ := (unhide HV5).cells
              simp only [Nat.zero_add] at x1 x2
              have y0 := (unhide HV5).free 0
              have y1 := (unhide HV5).free 1
              have y2 := (unhide HV5).free 2
              unfold So.R.zero at x0 x1 x2
              dsimp only at x0 x1 x2
              (refine wpAnyH_ready (rs := [13]) (by kernel_rfl) (by simp) ?_; refine AllReadyH.cons (o := _) rfl (fun K hK => ?_) AllReadyH.nil; go_simp)
              have b6 := ((b5.setCell (p := ⟨wr.heap.size, 0, none⟩) (Nat.le_refl _) (.int .i64 qa)).setCell (p := ⟨wr.heap.size, 1, none⟩) (Nat.le_refl _) (.int .i64 qn)).setCell (p := ⟨wr.heap.size, 2, none⟩) (Nat.le_refl _) (.int .i64 qt)
              clear hHeld
              refine hK.out _ _ (sE1 ((unhide HAt).below b6) ((unhide HXr2).below b6)) (fun hHeld => ?_)
              clear hK K
              (try simp only [Act.put, List.setIfInBounds_toArray, List.set_cons_zero, List.set_cons_succ])
              (refine Rg.tk (i := 14) (d := 6) (v := ?_) rfl rfl (by kernel_rfl) (by kernel_rfl) (by kernel_rfl) (fun _ _ _ h => h) (by rfl) ?_ (by assumption) ?_; rotate_left; (focus (intro w0 hSw; (try dsimp only at hSw); go_simp; (try with_reducible rfl))); (try simp only [Act.put, List.setIfInBounds_toArray, List.set_cons_zero, List.set_cons_succ]))
              refine wpAnyH_done (by kernel_rfl) (NoPanic.normal ?_) _
              clear hHeld x0 x1 x2 y0 y1 y2
              go_wp2_with fail
              go_meet
              case rel => exact ⟨rfl, hide b6⟩
          case rest =>
            obtain ⟨rfl, hbx⟩ := hcut
            rename World => wx
            have HXx := hide ((unhide HXr2).below (unhide hbx))
            obtain ⟨z0, z1⟩ := unhide HXx
            obtain ⟨c0, c1, c2⟩ := (unhide HAt).below (unhide hbx)
            dsimp only at c0 c1 c2
            have HBx := hide ((unhide HBW).trans ((unhide hbx).mono (unhide HBW).size))
            have HBq := hide ((unhide hbl).trans ((unhide hbx).mono (unhide hbl).size))
            cases E
            · have HF0 := hide (unhide HF rfl)
              go_wp2_with fail
              go_ret
              exact ⟨ret_bool (unhide HF0).symm, unhide HBx⟩
            · by_cases hv1 : val < 1
              · have HF0 := hide (unhide HF (by rw [decide_eq_false (by omega)]; rfl))
                go_wp2_with fail
                go_ret
                exact ⟨ret_bool (unhide HF0).symm, unhide HBx⟩
              · have HC0 := hide (unhide HC (by rw [decide_eq_true (by omega)]; rfl))
                go_wp2_with fail
                go_roundw
                case rel => exact ⟨t + 1, by omega, by go_num, HC0, HBq⟩
                case measure => simp [intOf]; omega
        · obtain rfl : t = n := by omega
          have HF : Hid (twoB es = A) := hide (by
            rw [← unhide HTA]
            rcases unhide hed with h | h
            · exact (edg_all (unhide HS) (by rw [unhide HN]; exact h)).symm
            · rw [h, top_notwo h])
          have HE3 := hide ((unhide HE1).below (unhide hbl))
          go_wp2_with fail
          rw [← unhide HN]
          refine (l07OK _ es cb _ (by rw [unhide HN]; omega) (unhide HE3)).mono ?_
          rintro e w4 ⟨rfl, b4⟩
          rw [unhide HF]
          have HB4 := hide ((unhide HBW).trans (b4.mono (unhide HBW).size))
          clear b4
          go_wp2_with fail
          go_ret
          exact ⟨rfl, unhide HB4⟩
end Tp
end Go.Proofs.YtiipppfkpgbpeaaGreat
namespace Go.Proofs.YtiipppfkpgbpeaaGreat
open Go.ChangeShapes Go.WideShapes Go.ChangeAt Go.RowKit
set_option linter.unusedVariables false
set_option linter.unusedSimpArgs false
set_option maxRecDepth 100000
attribute [local go_sem ↓] Go.wp_at_zero Go.wp_at_succ
namespace Tp
open W1 Tu St Tw
theorem fm_of {w : World} {base e size n : Nat} {v : Value} {xs : List Value} (h : w.ownsRow base e size v n xs) (hne : v ≠ .slice none 0 0) : ∃ g c, v = .slice (some ⟨g, 0, none⟩) n c ∧ n ≤ c := by
  obtain ⟨_, ⟨rfl, h0⟩ | ⟨g, cap, cur, rfl, _, _, h1, h2, _, _⟩⟩ := h
  · exact absurd rfl hne
  · exact ⟨g, cap, rfl, h1⟩
/-- append onto a row of one's own that lies somewhere: so does the answer. -/
theorem apFSo {ops : Array Oper} {rest : List Oper} {o : Oper} {a : Act} {Q : Exit → Act → World → Prop} {w : World} {base : Nat} {v : Value} {xs : List So.R} (hown : w.ownsRow base 122 3 v xs.length (So.flat xs)) (hv : v ≠ .slice none 0 0) (g off m c : Nat) (ms : List So.R) (hm : ms.length = m) (hr : So.RM w (some ⟨g, off, none⟩) ms) (hlen : xs.length + ms.length ≤ 4194304) (hbase : base ≤ w.heap.size)
    (hgd : o.guard = none) (s x : Operand) (ho : o.op = .call { callee := .builtin .append, args := #[s, x], argTypes := #[33, 33] }) (hs : a.eval s = v) (hx : a.eval x = .slice (some ⟨g, off, none⟩) m c)
    (h : ∀ b' c' w', w'.ownsRow base 122 3 (.slice (some ⟨b', 0, none⟩) (xs ++ ms).length c') (xs ++ ms).length (So.flat (xs ++ ms)) → (xs ++ ms).length ≤ c' → w.grownBy w' v.ownBlock → wpList Tryz.prog ops Q rest (a.put o.dst (.slice (some ⟨b', 0, none⟩) (xs ++ ms).length c')) w') : wpList Tryz.prog ops Q (o :: rest) a w := by
  subst hm
  obtain ⟨i0, hi, hz0, hz1, hz2⟩ := So.infoR
  refine wpList_append_own w hgd s x _ ho base 122 i0 _ 3 24 Tryz.underlying33 hi hz0 hz1 hz2 rfl (by decide) v xs.length (So.flat xs) hs hown ⟨g, off, none⟩ ms.length c (So.flat ms) hx (So.flat_len ms) hr.cells (fun u hu => So.flat_one_cell hu) (by unfold maxLen; omega) (by omega) hbase (fun v' w' h1 h2 h3 => ?_)
  have hne : v' ≠ .slice none 0 0 := fun e => hv (h3.1 e).1
  obtain ⟨b', c', rfl, hc⟩ := fm_of h1 hne
  have h1' := h1
  rw [← So.flat_append] at h1'
  have e : xs.length + ms.length = (xs ++ ms).length := (List.length_append ..).symm
  rw [e] at h1' hc ⊢
  exact h b' c' w' h1' hc h2
/-- append onto a row of one's own that lies somewhere: so does the answer. -/
theorem apFTu {ops : Array Oper} {rest : List Oper} {o : Oper} {a : Act} {Q : Exit → Act → World → Prop} {w : World} {base : Nat} {v : Value} {xs : List Tu.R} (hown : w.ownsRow base 126 3 v xs.length (Tu.flat xs)) (hv : v ≠ .slice none 0 0) (g off m c : Nat) (ms : List Tu.R) (hm : ms.length = m) (hr : Tu.RM w (some ⟨g, off, none⟩) ms) (hlen : xs.length + ms.length ≤ 4194304) (hbase : base ≤ w.heap.size)
    (hgd : o.guard = none) (s x : Operand) (ho : o.op = .call { callee := .builtin .append, args := #[s, x], argTypes := #[32, 32] }) (hs : a.eval s = v) (hx : a.eval x = .slice (some ⟨g, off, none⟩) m c)
    (h : ∀ b' c' w', w'.ownsRow base 126 3 (.slice (some ⟨b', 0, none⟩) (xs ++ ms).length c') (xs ++ ms).length (Tu.flat (xs ++ ms)) → (xs ++ ms).length ≤ c' → w.grownBy w' v.ownBlock → wpList Tryz.prog ops Q rest (a.put o.dst (.slice (some ⟨b', 0, none⟩) (xs ++ ms).length c')) w') : wpList Tryz.prog ops Q (o :: rest) a w := by
  subst hm
  obtain ⟨i0, hi, hz0, hz1, hz2⟩ := Tu.infoR
  refine wpList_append_own w hgd s x _ ho base 126 i0 _ 3 24 Tryz.underlying32 hi hz0 hz1 hz2 rfl (by decide) v xs.length (Tu.flat xs) hs hown ⟨g, off, none⟩ ms.length c (Tu.flat ms) hx (Tu.flat_len ms) hr.cells (fun u hu => Tu.flat_one_cell hu) (by unfold maxLen; omega) (by omega) hbase (fun v' w' h1 h2 h3 => ?_)
  have hne : v' ≠ .slice none 0 0 := fun e => hv (h3.1 e).1
  obtain ⟨b', c', rfl, hc⟩ := fm_of h1 hne
  have h1' := h1
  rw [← Tu.flat_append] at h1'
  have e : xs.length + ms.length = (xs ++ ms).length := (List.length_append ..).symm
  rw [e] at h1' hc ⊢
  exact h b' c' w' h1' hc h2
theorem lst_fm {w : World} {base g n c : Nat} {ms : List So.R} (hn : n = ms.length) (h : w.ownsRow base 122 3 (.slice (some ⟨g, 0, none⟩) n c) n (So.flat ms)) : So.Lst w (some ⟨g, 0, none⟩) ms base w.heap.size := by
  obtain ⟨a, c', e, hl⟩ := So.lst_own hn h
  cases e; exact hl
theorem lst_fmT {w : World} {base g n c : Nat} {ms : List R} (hn : n = ms.length) (h : w.ownsRow base 126 3 (.slice (some ⟨g, 0, none⟩) n c) n (Tu.flat ms)) : Tu.Lst w (some ⟨g, 0, none⟩) ms base w.heap.size := by
  obtain ⟨a, c', e, hl⟩ := Tu.lst_own hn h
  cases e; exact hl
set_option maxHeartbeats 1000000 in
theorem l03OwnF (g off : Nat) (ms : List R) (cap n : Nat) (w : World) (hn : ms.length = n) (hm : ms.length ≤ 4096) (hr : Tu.RM w (some ⟨g, off, none⟩) ms) :
    Calls Tryz.prog 90 #[.slice (some ⟨g, off, none⟩) n cap] w fun e w' => ∃ b c, e = .returned (.slice (some ⟨b, 0, none⟩) n c) ∧ Below w.heap.size w w' ∧ ms.length ≤ c ∧ Tu.Lst w' (some ⟨b, 0, none⟩) ms w.heap.size w'.heap.size := by
  have HR := hide (hr.below ((Below.refl _ _).alloc (Nat.le_refl _) (.cells #[] 126)))
  have O0 := hide (Tu.own_empty w w.heap.size (Nat.le_refl _))
  clear hr
  go_enter Tryz.func90, Tryz.ntmps90
  go_wp2_with (at_builtin; refine apFTu (unhide O0) (by simp) g off n cap ms hn (unhide HR) (by simp; omega) (by simp) rfl _ _ rfl rfl rfl ?_; intro b' c' w' ho hc hg; have HL := hide (lst_fmT rfl ho); have HB := hide (Tu.below_own ((Below.refl _ _).alloc (Nat.le_refl _) _) (unhide O0) hg (Nat.le_refl _) (by simp)); have HC := hide hc; clear ho hg hc)
  go_ret
  exact ⟨_, _, rfl, unhide HB, unhide HC, unhide HL⟩
/-- A topology that can be read: both lists lie somewhere. -/
def RdT (w : World) (v : Value) (S : List So.R) (E : List R) : Prop := ∃ g o c h p d, v = .agg #[.slice (some ⟨g, o, none⟩) S.length c, .slice (some ⟨h, p, none⟩) E.length d] ∧ S.length ≤ c ∧ So.RM w (some ⟨g, o, none⟩) S ∧ Tu.RM w (some ⟨h, p, none⟩) E
theorem RdT.below {w w' : World} {v : Value} {S : List So.R} {E : List R} (h : RdT w v S E) (hb : Below w.heap.size w w') : RdT w' v S E := by
  obtain ⟨g, o, c, h, p, d, rfl, h1, h2, h3⟩ := h
  exact ⟨g, o, c, h, p, d, rfl, h1, h2.below hb, h3.below hb⟩
/-- A topology in memory of its own, that lies somewhere. -/
def OwT (w : World) (v : Value) (S : List So.R) (E : List R) (lo hi : Nat) : Prop := ∃ g c h d mid, v = .agg #[.slice (some ⟨g, 0, none⟩) S.length c, .slice (some ⟨h, 0, none⟩) E.length d] ∧ S.length ≤ c ∧ So.Lst w (some ⟨g, 0, none⟩) S lo mid ∧ Tu.Lst w (some ⟨h, 0, none⟩) E mid hi ∧ lo ≤ mid ∧ mid ≤ hi
theorem OwT.below {w w' : World} {v : Value} {S : List So.R} {E : List R} {lo hi : Nat} (h : OwT w v S E lo hi) (hb : Below w.heap.size w w') : OwT w' v S E lo hi := by
  obtain ⟨g, c, h, d, mid, rfl, h1, h2, h3, h4⟩ := h
  exact ⟨g, c, h, d, mid, rfl, h1, h2.below hb, h3.below hb, h4⟩
theorem OwT.mono {w : World} {v : Value} {S : List So.R} {E : List R} {lo hi lo' hi' : Nat} (h : OwT w v S E lo hi) (h1 : lo' ≤ lo) (h2 : hi ≤ hi') : OwT w v S E lo' hi' := by
  obtain ⟨g, c, h, d, mid, rfl, q1, q2, q3, q4⟩ := h
  exact ⟨g, c, h, d, mid, rfl, q1, q2.mono h1 (Nat.le_refl _), q3.mono (Nat.le_refl _) h2, by omega⟩
theorem lsS_set {w : World} {a : Option Addr} {ms : List So.R} {lo hi b i : Nat} {u : Value} (h : So.Lst w a ms lo hi) (hb : b < lo ∨ hi ≤ b) : So.Lst (w.setCell ⟨b, i, none⟩ u) a ms lo hi :=
  h.but (p := fun k => k ≠ b) (by simp [World.setCell]) (fun k hk hne => Below.heap_setCell _ _ _ _ hne) (fun k h1 h2 => by omega)
theorem lsT_set {w : World} {a : Option Addr} {ms : List R} {lo hi b i : Nat} {u : Value} (h : Tu.Lst w a ms lo hi) (hb : b < lo ∨ hi ≤ b) : Tu.Lst (w.setCell ⟨b, i, none⟩ u) a ms lo hi :=
  h.but (p := fun k => k ≠ b) (by simp [World.setCell]) (fun k hk hne => Below.heap_setCell _ _ _ _ hne) (fun k h1 h2 => by omega)
set_option maxHeartbeats 4000000 in
theorem l09Own (g off : Nat) (ss : List So.R) (ca h ofe : Nat) (es : List R) (cb : Nat) (w : World) (hm : ss.length ≤ 4096) (hl : es.length ≤ 4096) (hr : So.RM w (some ⟨g, off, none⟩) ss) (hr' : RM w (some ⟨h, ofe, none⟩) es) :
    Calls Tryz.prog 91 #[.agg #[.slice (some ⟨g, off, none⟩) ss.length ca, .slice (some ⟨h, ofe, none⟩) es.length cb]] w fun e w' => ∃ v, e = .returned v ∧ Below w.heap.size w w' ∧ OwT w' v ss es w.heap.size w'.heap.size := by
  have HA0 : Hid (Below w.heap.size w (w.alloc (.cells #[.slice (some ⟨g, off, none⟩) ss.length ca, .slice (some ⟨h, ofe, none⟩) es.length cb] 35))) := hide ((Below.refl _ _).alloc (Nat.le_refl _) _)
  have HA : Hid (Below w.heap.size w ((w.alloc (.cells #[.slice (some ⟨g, off, none⟩) ss.length ca, .slice (some ⟨h, ofe, none⟩) es.length cb] 35)).alloc (.cells #[.slice none 0 0, .slice none 0 0] 35))) := hide ((unhide HA0).alloc (unhide HA0).size _)
  have HX : Hid (TV ((w.alloc (.cells #[.slice (some ⟨g, off, none⟩) ss.length ca, .slice (some ⟨h, ofe, none⟩) es.length cb] 35)).alloc (.cells #[.slice none 0 0, .slice none 0 0] 35)) w.heap.size (.slice (some ⟨g, off, none⟩) ss.length ca) (.slice (some ⟨h, ofe, none⟩) es.length cb)) := hide ((tv_new w _ _).below ((Below.refl _ _).alloc (Nat.le_refl _) _))
  have HZ : Hid (TV ((w.alloc (.cells #[.slice (some ⟨g, off, none⟩) ss.length ca, .slice (some ⟨h, ofe, none⟩) es.length cb] 35)).alloc (.cells #[.slice none 0 0, .slice none 0 0] 35)) (w.heap.size + 1) (.slice none 0 0) (.slice none 0 0)) := hide (by have := tv_new (w.alloc (.cells #[.slice (some ⟨g, off, none⟩) ss.length ca, .slice (some ⟨h, ofe, none⟩) es.length cb] 35)) (.slice none 0 0) (.slice none 0 0); rw [show (w.alloc (.cells #[.slice (some ⟨g, off, none⟩) ss.length ca, .slice (some ⟨h, ofe, none⟩) es.length cb] 35)).heap.size = w.heap.size + 1 by simp] at this; exact this)
  have hsz : (((w.alloc (.cells #[.slice (some ⟨g, off, none⟩) ss.length ca, .slice (some ⟨h, ofe, none⟩) es.length cb] 35)).alloc (.cells #[.slice none 0 0, .slice none 0 0] 35))).heap.size = w.heap.size + 2 := by simp
  have HR := hide hr
  have HE := hide hr'
  clear hr hr' HA0
  have hp1 : w.heap.size ≤ w.heap.size + 1 := by omega
  have O0 : Hid (((((w.alloc (.cells #[.slice (some ⟨g, off, none⟩) ss.length ca, .slice (some ⟨h, ofe, none⟩) es.length cb] 35)).alloc (.cells #[.slice none 0 0, .slice none 0 0] 35))).alloc (.cells #[] 122)).ownsRow (w.heap.size + 2) 122 3 (.slice (some ⟨w.heap.size + 2, 0, none⟩) 0 0) ([] : List So.R).length (So.flat [])) := hide (by have := So.own_empty ((w.alloc (.cells #[.slice (some ⟨g, off, none⟩) ss.length ca, .slice (some ⟨h, ofe, none⟩) es.length cb] 35)).alloc (.cells #[.slice none 0 0, .slice none 0 0] 35)) (w.heap.size + 2) (by rw [hsz]; exact Nat.le_refl _); rw [hsz] at this; exact this)
  have HA3 : Hid (Below w.heap.size w ((((w.alloc (.cells #[.slice (some ⟨g, off, none⟩) ss.length ca, .slice (some ⟨h, ofe, none⟩) es.length cb] 35)).alloc (.cells #[.slice none 0 0, .slice none 0 0] 35))).alloc (.cells #[] 122))) := hide ((unhide HA).alloc (unhide HA).size _)
  have HX3 : Hid (TV ((((w.alloc (.cells #[.slice (some ⟨g, off, none⟩) ss.length ca, .slice (some ⟨h, ofe, none⟩) es.length cb] 35)).alloc (.cells #[.slice none 0 0, .slice none 0 0] 35))).alloc (.cells #[] 122)) w.heap.size (.slice (some ⟨g, off, none⟩) ss.length ca) (.slice (some ⟨h, ofe, none⟩) es.length cb)) := hide ((unhide HX).below ((Below.refl _ _).alloc (Nat.le_refl _) _))
  have HZ3 : Hid (TV ((((w.alloc (.cells #[.slice (some ⟨g, off, none⟩) ss.length ca, .slice (some ⟨h, ofe, none⟩) es.length cb] 35)).alloc (.cells #[.slice none 0 0, .slice none 0 0] 35))).alloc (.cells #[] 122)) (w.heap.size + 1) (.slice none 0 0) (.slice none 0 0)) := hide ((unhide HZ).below ((Below.refl _ _).alloc (Nat.le_refl _) _))
  have hsz3 : ((((w.alloc (.cells #[.slice (some ⟨g, off, none⟩) ss.length ca, .slice (some ⟨h, ofe, none⟩) es.length cb] 35)).alloc (.cells #[.slice none 0 0, .slice none 0 0] 35))).alloc (.cells #[] 122)).heap.size = w.heap.size + 3 := by simp
  have HR3 := hide ((unhide HR).below (unhide HA3))
  clear HA HX HZ hsz
  go_enter Tryz.func91, Tryz.ntmps91
  go_wp2_with (at_builtin; refine apFSo (unhide O0) (by simp) g off ss.length ca ss rfl (unhide HR3) (by simp; omega) (by omega) rfl _ _ rfl rfl rfl ?_; intro b' c' w4 ho hc hg; simp only [List.nil_append] at ho hc ⊢; have HL4 := hide (lst_fm rfl ho); have HB4 := hide (So.below_own (unhide HA3) (unhide O0) hg (by omega) (by omega)); have HX4 := hide ((unhide HX3).grown hg (by simp [Value.ownBlock])); have HZ4 := hide ((unhide HZ3).grown hg (by simp [Value.ownBlock])); have HC4 := hide hc; have hs4 := hg.size; clear ho hg hc; obtain ⟨x0, x1⟩ := (unhide HX4).bx; have f0 := (unhide HX4).free 0)
  clear x0 x1 f0
  obtain ⟨w5, hw5⟩ : ∃ w5, w4.setCell ⟨w.heap.size, 0, none⟩ (.slice (some ⟨b', 0, none⟩) ss.length c') = w5 := ⟨_, rfl⟩
  rw [hw5]
  have HB5 : Hid (Below w.heap.size w w5) := hide (by rw [← hw5]; exact (unhide HB4).setCell (p := ⟨w.heap.size, 0, none⟩) (Nat.le_refl _) _)
  have HX5 : Hid (TV w5 w.heap.size (.slice (some ⟨b', 0, none⟩) ss.length c') (.slice (some ⟨h, ofe, none⟩) es.length cb)) := hide (by rw [← hw5]; exact (unhide HX4).set0 _)
  have HZ5 : Hid (TV w5 (w.heap.size + 1) (.slice none 0 0) (.slice none 0 0)) := hide (by rw [← hw5]; exact (unhide HZ4).other (p := ⟨w.heap.size, 0, none⟩) (by show w.heap.size + 1 ≠ w.heap.size; omega) _)
  have HL5 : Hid (So.Lst w5 (some ⟨b', 0, none⟩) ss (w.heap.size + 2) w5.heap.size) := hide (by rw [← hw5]; exact lsS_set ((unhide HL4).mono (Nat.le_refl _) (by simp [World.setCell])) (.inl (by omega)))
  have hs5 : w5.heap.size = w4.heap.size := by rw [← hw5]; simp [World.setCell]
  clear hw5 HB4 HX4 HZ4 HL4 HX3 HZ3 HR3 O0 HA3
  have HE5 := hide ((unhide HE).below (unhide HB5))
  refine (l03OwnF h ofe es cb _ _ rfl hl (unhide HE5)).mono ?_
  rintro e w6 ⟨q, d, rfl, b6, hd, l6⟩
  have HB6 := hide ((unhide HB5).trans (b6.mono (unhide HB5).size))
  have HX6 := hide ((unhide HX5).below b6)
  have HZ6 := hide ((unhide HZ5).below b6)
  have HL6 := hide ((unhide HL5).below b6)
  have HM6 := hide l6
  have hs6 := b6.size
  have HD := hide hd
  clear b6 l6 hd HX5 HZ5 HL5 HE5
  obtain ⟨x0, x1⟩ := (unhide HX6).bx
  have f1 := (unhide HX6).free 1
  obtain ⟨r0, r1⟩ := (unhide HZ6).bx
  have q0 := (unhide HZ6).free 0
  have q1 := (unhide HZ6).free 1
  have hne2 : ¬ w.heap.size = w.heap.size + 1 := by omega
  have hne3 : ¬ w.heap.size + 1 = w.heap.size := by omega
  go_wp2_with fail
  refine bodyPost_ret (v := .agg #[.slice (some ⟨b', 0, none⟩) ss.length c', .slice (some ⟨q, 0, none⟩) es.length d]) (by simp [results, Tryz.results91, go_sem, r0, r1, x0, x1]) rfl ⟨_, rfl, ?_, b', c', q, d, w5.heap.size, rfl, unhide HC4, ?_, ?_, by omega, ?_⟩
  · have hB := unhide HB6
    (repeat (first | (with_reducible exact hB) | (with_reducible refine Below.drew ?_) | (with_reducible refine Below.setCell ?_ ?_ _; rotate_left; (first | exact Nat.le_refl _ | (simp; done) | (dsimp only; omega))) | (with_reducible refine Below.alloc ?_ ?_ _; rotate_left; (first | exact Nat.le_refl _ | omega | (simp [World.setCell]; omega)))))
  · have := (unhide HL6)
    exact (lsS_set (lsS_set (lsS_set this (.inl (by omega))) (.inl (by omega))) (.inl (by omega))).mono (by omega) (Nat.le_refl _)
  · exact (lsT_set (lsT_set (lsT_set (unhide HM6) (.inl (by omega))) (.inl (by omega))) (.inl (by omega))).mono (Nat.le_refl _) (by simp [World.setCell])
  · simp [World.setCell]; omega
end Tp
end Go.Proofs.YtiipppfkpgbpeaaGreat
