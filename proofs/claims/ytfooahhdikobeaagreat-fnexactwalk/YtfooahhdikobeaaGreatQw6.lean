/-
  Of the texts RtrL, NetW, Ints, NetA, IntsL, NetT, NetU, RtrP: what this claim needs of them. (put together by mkprune.py)
-/
import Derived.Test.YtfooahhdikobeaaGreatQw5
import Derived.Deep.RegionHeld3
import Derived.Deep.DrawnRows
import Derived.Deep.Slices
import Derived.Laws.AppendOwn
import Derived.Deep.QuietTactic
import Derived.BigQuiet
import Derived.Deep.MidRow
import Derived.Deep.Cut
namespace Go.Proofs.YtfooahhdikobeaaGreat
open Go.ChangeShapes Go.WideShapes Go.ChangeAt Go.RowKit
set_option linter.unusedVariables false
set_option linter.unusedSimpArgs false
set_option maxRecDepth 100000
namespace Rt
open W1
/-- Seven lists that lie one behind the other between two bounds of the heap. -/
def RL (W : World) (lo hi : Nat) (a1 a2 a3 a4 a5 a6 a7 : Option Addr) (ls : List Lk.R) (tw : List Tu.R) (se : List Tu.R) (du : List Tu.R) (ss : List So.R) (es : List Tu.R) (la : List Ed.R) : Prop :=
  ∃ b1 b2 b3 b4 b5 b6 : Nat, (lo ≤ b1 ∧ b1 ≤ b2 ∧ b2 ≤ b3 ∧ b3 ≤ b4 ∧ b4 ≤ b5 ∧ b5 ≤ b6 ∧ b6 ≤ hi) ∧ Lk.Lst W a1 (ls) lo b1 ∧ Tu.Lst W a2 (tw) b1 b2 ∧ Tu.Lst W a3 (se) b2 b3 ∧ Tu.Lst W a4 (du) b3 b4 ∧ So.Lst W a5 (ss) b4 b5 ∧ Tu.Lst W a6 (es) b5 b6 ∧ Ed.Lst W a7 (la) b6 hi
theorem RL.below {W W' : World} {lo hi : Nat} {a1 a2 a3 a4 a5 a6 a7 : Option Addr} {ls : List Lk.R} {tw : List Tu.R} {se : List Tu.R} {du : List Tu.R} {ss : List So.R} {es : List Tu.R} {la : List Ed.R} (h : RL W lo hi a1 a2 a3 a4 a5 a6 a7 ls tw se du ss es la) (hb : Below W.heap.size W W') : RL W' lo hi a1 a2 a3 a4 a5 a6 a7 ls tw se du ss es la := by
  obtain ⟨b1, b2, b3, b4, b5, b6, ⟨o0, o1, o2, o3, o4, o5, o6⟩, h1, h2, h3, h4, h5, h6, h7⟩ := h
  exact ⟨b1, b2, b3, b4, b5, b6, ⟨o0, o1, o2, o3, o4, o5, o6⟩, h1.below hb, h2.below hb, h3.below hb, h4.below hb, h5.below hb, h6.below hb, h7.below hb⟩
theorem RL.but {W W' : World} {lo hi L H : Nat} {a1 a2 a3 a4 a5 a6 a7 : Option Addr} {ls : List Lk.R} {tw : List Tu.R} {se : List Tu.R} {du : List Tu.R} {ss : List So.R} {es : List Tu.R} {la : List Ed.R} (h : RL W lo hi a1 a2 a3 a4 a5 a6 a7 ls tw se du ss es la) (hs : W.heap.size ≤ W'.heap.size) (hb : ∀ k, k < W.heap.size → (k < L ∨ H ≤ k) → W'.heap[k]? = W.heap[k]?) (hd : hi ≤ L ∨ H ≤ lo) : RL W' lo hi a1 a2 a3 a4 a5 a6 a7 ls tw se du ss es la := by
  obtain ⟨b1, b2, b3, b4, b5, b6, ⟨o0, o1, o2, o3, o4, o5, o6⟩, h1, h2, h3, h4, h5, h6, h7⟩ := h
  exact ⟨b1, b2, b3, b4, b5, b6, ⟨o0, o1, o2, o3, o4, o5, o6⟩, h1.but (p := fun k => k < L ∨ H ≤ k) hs (fun k hk h => hb k hk h) (fun k h1 h2 => by omega), h2.but (p := fun k => k < L ∨ H ≤ k) hs (fun k hk h => hb k hk h) (fun k h1 h2 => by omega), h3.but (p := fun k => k < L ∨ H ≤ k) hs (fun k hk h => hb k hk h) (fun k h1 h2 => by omega), h4.but (p := fun k => k < L ∨ H ≤ k) hs (fun k hk h => hb k hk h) (fun k h1 h2 => by omega), h5.but (p := fun k => k < L ∨ H ≤ k) hs (fun k hk h => hb k hk h) (fun k h1 h2 => by omega), h6.but (p := fun k => k < L ∨ H ≤ k) hs (fun k hk h => hb k hk h) (fun k h1 h2 => by omega), h7.but (p := fun k => k < L ∨ H ≤ k) hs (fun k hk h => hb k hk h) (fun k h1 h2 => by omega)⟩
theorem RL.r1 {W : World} {lo hi : Nat} {a1 a2 a3 a4 a5 a6 a7 : Option Addr} {ls : List Lk.R} {tw : List Tu.R} {se : List Tu.R} {du : List Tu.R} {ss : List So.R} {es : List Tu.R} {la : List Ed.R} (h : RL W lo hi a1 a2 a3 a4 a5 a6 a7 ls tw se du ss es la) : Lk.RM W a1 ls := by obtain ⟨b1, b2, b3, b4, b5, b6, ⟨o0, o1, o2, o3, o4, o5, o6⟩, h1, h2, h3, h4, h5, h6, h7⟩ := h; exact h1.rm
theorem RL.r2 {W : World} {lo hi : Nat} {a1 a2 a3 a4 a5 a6 a7 : Option Addr} {ls : List Lk.R} {tw : List Tu.R} {se : List Tu.R} {du : List Tu.R} {ss : List So.R} {es : List Tu.R} {la : List Ed.R} (h : RL W lo hi a1 a2 a3 a4 a5 a6 a7 ls tw se du ss es la) : Tu.RM W a2 tw := by obtain ⟨b1, b2, b3, b4, b5, b6, ⟨o0, o1, o2, o3, o4, o5, o6⟩, h1, h2, h3, h4, h5, h6, h7⟩ := h; exact h2.rm
theorem RL.r3 {W : World} {lo hi : Nat} {a1 a2 a3 a4 a5 a6 a7 : Option Addr} {ls : List Lk.R} {tw : List Tu.R} {se : List Tu.R} {du : List Tu.R} {ss : List So.R} {es : List Tu.R} {la : List Ed.R} (h : RL W lo hi a1 a2 a3 a4 a5 a6 a7 ls tw se du ss es la) : Tu.RM W a3 se := by obtain ⟨b1, b2, b3, b4, b5, b6, ⟨o0, o1, o2, o3, o4, o5, o6⟩, h1, h2, h3, h4, h5, h6, h7⟩ := h; exact h3.rm
theorem RL.r4 {W : World} {lo hi : Nat} {a1 a2 a3 a4 a5 a6 a7 : Option Addr} {ls : List Lk.R} {tw : List Tu.R} {se : List Tu.R} {du : List Tu.R} {ss : List So.R} {es : List Tu.R} {la : List Ed.R} (h : RL W lo hi a1 a2 a3 a4 a5 a6 a7 ls tw se du ss es la) : Tu.RM W a4 du := by obtain ⟨b1, b2, b3, b4, b5, b6, ⟨o0, o1, o2, o3, o4, o5, o6⟩, h1, h2, h3, h4, h5, h6, h7⟩ := h; exact h4.rm
theorem RL.r5 {W : World} {lo hi : Nat} {a1 a2 a3 a4 a5 a6 a7 : Option Addr} {ls : List Lk.R} {tw : List Tu.R} {se : List Tu.R} {du : List Tu.R} {ss : List So.R} {es : List Tu.R} {la : List Ed.R} (h : RL W lo hi a1 a2 a3 a4 a5 a6 a7 ls tw se du ss es la) : So.RM W a5 ss := by obtain ⟨b1, b2, b3, b4, b5, b6, ⟨o0, o1, o2, o3, o4, o5, o6⟩, h1, h2, h3, h4, h5, h6, h7⟩ := h; exact h5.rm
theorem RL.r6 {W : World} {lo hi : Nat} {a1 a2 a3 a4 a5 a6 a7 : Option Addr} {ls : List Lk.R} {tw : List Tu.R} {se : List Tu.R} {du : List Tu.R} {ss : List So.R} {es : List Tu.R} {la : List Ed.R} (h : RL W lo hi a1 a2 a3 a4 a5 a6 a7 ls tw se du ss es la) : Tu.RM W a6 es := by obtain ⟨b1, b2, b3, b4, b5, b6, ⟨o0, o1, o2, o3, o4, o5, o6⟩, h1, h2, h3, h4, h5, h6, h7⟩ := h; exact h6.rm
theorem RL.r7 {W : World} {lo hi : Nat} {a1 a2 a3 a4 a5 a6 a7 : Option Addr} {ls : List Lk.R} {tw : List Tu.R} {se : List Tu.R} {du : List Tu.R} {ss : List So.R} {es : List Tu.R} {la : List Ed.R} (h : RL W lo hi a1 a2 a3 a4 a5 a6 a7 ls tw se du ss es la) : Ed.RM W a7 la := by obtain ⟨b1, b2, b3, b4, b5, b6, ⟨o0, o1, o2, o3, o4, o5, o6⟩, h1, h2, h3, h4, h5, h6, h7⟩ := h; exact h7.rm
theorem RL.le {W : World} {lo hi : Nat} {a1 a2 a3 a4 a5 a6 a7 : Option Addr} {ls : List Lk.R} {tw : List Tu.R} {se : List Tu.R} {du : List Tu.R} {ss : List So.R} {es : List Tu.R} {la : List Ed.R} (h : RL W lo hi a1 a2 a3 a4 a5 a6 a7 ls tw se du ss es la) : lo ≤ hi := by obtain ⟨b1, b2, b3, b4, b5, b6, ⟨o0, o1, o2, o3, o4, o5, o6⟩, h1, h2, h3, h4, h5, h6, h7⟩ := h; omega
theorem toRL (x1 x2 x3 x4 x5 x6 : Int) (a1 a2 a3 a4 a5 a6 a7 : Option Addr) (c1 c2 c3 c4 c5 c6 c7 : Nat) (ls : List Lk.R) (tw : List Tu.R) (se : List Tu.R) (du : List Tu.R) (ss : List So.R) (es : List Tu.R) (la : List Ed.R) (w : World) (hm1 : ls.length ≤ 1048576) (hm2 : tw.length ≤ 1048576) (hm3 : se.length ≤ 1048576) (hm4 : du.length ≤ 1048576) (hm5 : ss.length ≤ 1048576) (hm6 : es.length ≤ 1048576) (hm7 : la.length ≤ 1048576) (hr1 : Lk.RM w a1 ls) (hr2 : Tu.RM w a2 tw) (hr3 : Tu.RM w a3 se) (hr4 : Tu.RM w a4 du) (hr5 : So.RM w a5 ss) (hr6 : Tu.RM w a6 es) (hr7 : Ed.RM w a7 la) :
    Calls Tryz.prog 86 #[.agg #[.int .i64 x1, .int .i64 x2, .int .i64 x3, .int .i64 x4, .int .i64 x5, .slice a1 ls.length c1, .slice a2 tw.length c2, .slice a3 se.length c3, .slice a4 du.length c4, .slice a5 ss.length c5, .slice a6 es.length c6, .slice a7 la.length c7, .int .i64 x6]] w fun e w' => ∃ g1 g2 g3 g4 g5 g6 g7, e = .returned (.agg (rC x1 x2 x3 x4 x5 (.slice (some ⟨g1, 0, none⟩) ls.length ls.length) (.slice (some ⟨g2, 0, none⟩) tw.length tw.length) (.slice (some ⟨g3, 0, none⟩) se.length se.length) (.slice (some ⟨g4, 0, none⟩) du.length du.length) (.slice (some ⟨g5, 0, none⟩) ss.length ss.length) (.slice (some ⟨g6, 0, none⟩) es.length es.length) (.slice (some ⟨g7, 0, none⟩) la.length la.length) x6).toArray) ∧ Below w.heap.size w w' ∧ RL w' w.heap.size w'.heap.size (some ⟨g1, 0, none⟩) (some ⟨g2, 0, none⟩) (some ⟨g3, 0, none⟩) (some ⟨g4, 0, none⟩) (some ⟨g5, 0, none⟩) (some ⟨g6, 0, none⟩) (some ⟨g7, 0, none⟩) ls tw se du ss es la := by
  refine (toR x1 x2 x3 x4 x5 x6 a1 a2 a3 a4 a5 a6 a7 c1 c2 c3 c4 c5 c6 c7 ls tw se du ss es la w hm1 hm2 hm3 hm4 hm5 hm6 hm7 hr1 hr2 hr3 hr4 hr5 hr6 hr7).mono ?_
  rintro e w' ⟨g1, g2, g3, g4, g5, g6, g7, rfl, hb, ⟨o0, o1, o2, o3, o4, o5, o6, o7⟩, u1, u2, u3, u4, u5, u6, u7⟩
  refine ⟨g1, g2, g3, g4, g5, g6, g7, rfl, hb, g2, g3, g4, g5, g6, g7, ⟨by omega, by omega, by omega, by omega, by omega, by omega, by omega⟩, .inr ⟨g1, rfl, by omega, by omega, by omega, u1⟩, .inr ⟨g2, rfl, by omega, by omega, by omega, u2⟩, .inr ⟨g3, rfl, by omega, by omega, by omega, u3⟩, .inr ⟨g4, rfl, by omega, by omega, by omega, u4⟩, .inr ⟨g5, rfl, by omega, by omega, by omega, u5⟩, .inr ⟨g6, rfl, by omega, by omega, by omega, u6⟩, .inr ⟨g7, rfl, by omega, by omega, by omega, u7⟩⟩
end Rt
end Go.Proofs.YtfooahhdikobeaaGreat
namespace Go.Proofs.YtfooahhdikobeaaGreat
open Go.ChangeShapes Go.WideShapes Go.ChangeAt Go.RowKit
set_option linter.unusedVariables false
set_option linter.unusedSimpArgs false
set_option maxRecDepth 100000
attribute [local go_sem ↓] Go.wp_at_zero Go.wp_at_succ
namespace Nt
open W1 Rt
theorem szN (m : Rm) (p : Pl) (L : Int) (w : World) (hL : 0 ≤ L) (hL1 : L ≤ 1048576) (hs : Sx m) :
    Calls Tryz.prog 81 #[.agg (cl m p).toArray, .int .i64 L] w fun e w' => ∃ r : Int, e = .returned (.int .i64 r) ∧ Below w.heap.size w w' ∧ (r < 0 ∨ (0 ≤ r ∧ r = L - cnt m)) := by
  obtain ⟨s1, s2, s3, s4, s5, s6, s7⟩ := hs
  refine (szR m.x1 m.x2 m.x3 m.x4 m.x5 m.x6 p.a1 p.a2 p.a3 p.a4 p.a5 p.a6 p.a7 m.ls.length m.tw.length m.se.length m.du.length m.ss.length m.es.length m.la.length p.c1 p.c2 p.c3 p.c4 p.c5 p.c6 p.c7 L w hL hL1 s1 s2 s3 s4 s5 s6 s7).mono ?_
  rintro e w' ⟨r, rfl, hb, h⟩
  exact ⟨r, rfl, hb, by unfold cnt; omega⟩
theorem eqN (m : Rm) (p q : Pl) (w : World) (hs : Sm m) (hr : Rd w m p) (hq : Rd w m q) :
    Calls Tryz.prog 96 #[.agg (cl m p).toArray, .agg (cl m q).toArray] w fun e w' => e = .returned (.bool true) ∧ Below w.heap.size w w' := by
  obtain ⟨s1, s2, s3, s4, s5, s6, s7⟩ := hs
  obtain ⟨r1, r2, r3, r4, r5, r6, r7⟩ := hr
  obtain ⟨q1, q2, q3, q4, q5, q6, q7⟩ := hq
  exact eqR m.x1 m.x2 m.x3 m.x4 m.x5 m.x6 p.a1 p.a2 p.a3 p.a4 p.a5 p.a6 p.a7 p.c1 p.c2 p.c3 p.c4 p.c5 p.c6 p.c7 q.a1 q.a2 q.a3 q.a4 q.a5 q.a6 q.a7 q.c1 q.c2 q.c3 q.c4 q.c5 q.c6 q.c7 m.ls m.tw m.se m.du m.ss m.es m.la w s1 s2 s3 s4 s5 s6 s7 r1 r2 r3 r4 r5 r6 r7 q1 q2 q3 q4 q5 q6 q7
/-- Lists that may be written, one behind the other between two bounds. -/
def Ow (w : World) (lo hi : Nat) (m : Rm) (p : Pl) : Prop := RL w lo hi p.a1 p.a2 p.a3 p.a4 p.a5 p.a6 p.a7 m.ls m.tw m.se m.du m.ss m.es m.la
theorem Ow.rd {w : World} {lo hi : Nat} {m : Rm} {p : Pl} (h : Ow w lo hi m p) : Rd w m p := ⟨RL.r1 h, RL.r2 h, RL.r3 h, RL.r4 h, RL.r5 h, RL.r6 h, RL.r7 h⟩
theorem Ow.below {w w' : World} {lo hi : Nat} {m : Rm} {p : Pl} (h : Ow w lo hi m p) (hb : Below w.heap.size w w') : Ow w' lo hi m p := RL.below h hb
theorem Ow.but {w w' : World} {lo hi Lo Hi : Nat} {m : Rm} {p : Pl} (h : Ow w lo hi m p) (hs : w.heap.size ≤ w'.heap.size) (hb : ∀ k, k < w.heap.size → (k < Lo ∨ Hi ≤ k) → w'.heap[k]? = w.heap[k]?) (hd : hi ≤ Lo ∨ Hi ≤ lo) : Ow w' lo hi m p := RL.but h hs hb hd
theorem toN (m : Rm) (p : Pl) (w : World) (hs : Sm m) (hr : Rd w m p) :
    Calls Tryz.prog 86 #[.agg (cl m p).toArray] w fun e w' => ∃ q : Pl, e = .returned (.agg (cl m q).toArray) ∧ Below w.heap.size w w' ∧ Ow w' w.heap.size w'.heap.size m q ∧ Ad q := by
  obtain ⟨s1, s2, s3, s4, s5, s6, s7⟩ := hs
  obtain ⟨r1, r2, r3, r4, r5, r6, r7⟩ := hr
  refine (toRL m.x1 m.x2 m.x3 m.x4 m.x5 m.x6 p.a1 p.a2 p.a3 p.a4 p.a5 p.a6 p.a7 p.c1 p.c2 p.c3 p.c4 p.c5 p.c6 p.c7 m.ls m.tw m.se m.du m.ss m.es m.la w s1 s2 s3 s4 s5 s6 s7 r1 r2 r3 r4 r5 r6 r7).mono ?_
  rintro e w' ⟨g1, g2, g3, g4, g5, g6, g7, rfl, hb, h⟩
  exact ⟨⟨some ⟨g1, 0, none⟩, some ⟨g2, 0, none⟩, some ⟨g3, 0, none⟩, some ⟨g4, 0, none⟩, some ⟨g5, 0, none⟩, some ⟨g6, 0, none⟩, some ⟨g7, 0, none⟩, m.ls.length, m.tw.length, m.se.length, m.du.length, m.ss.length, m.es.length, m.la.length⟩, rfl, hb, h, ⟨g1, rfl⟩, ⟨g2, rfl⟩, ⟨g3, rfl⟩, ⟨g4, rfl⟩, ⟨g5, rfl⟩, ⟨g6, rfl⟩, ⟨g7, rfl⟩⟩
/-- A net in a variable's block. -/
def NB (w : World) (b : Nat) (v1 v2 v3 : Value) (t : Int) : Prop := w.cell? ⟨b, 0, none⟩ = some v1 ∧ w.cell? ⟨b, 1, none⟩ = some v2 ∧ w.cell? ⟨b, 2, none⟩ = some v3 ∧ w.cell? ⟨b, 3, none⟩ = some (.int .i64 t)
theorem NB.lt {w : World} {b : Nat} {v1 v2 v3 : Value} {t : Int} (h : NB w b v1 v2 v3 t) : b < w.heap.size := World.block_lt_of_cell? _ _ h.1
theorem NB.below {w w' : World} {b : Nat} {v1 v2 v3 : Value} {t : Int} (h : NB w b v1 v2 v3 t) (hb : Below w.heap.size w w') : NB w' b v1 v2 v3 t := by
  have hg := h.lt
  obtain ⟨h0, h1, h2, h3⟩ := h
  refine ⟨?_, ?_, ?_, ?_⟩ <;> (rw [hb.cell hg]; assumption)
theorem NB.drew {w : World} {b : Nat} {v1 v2 v3 : Value} {t : Int} (h : NB w b v1 v2 v3 t) : NB w.drew b v1 v2 v3 t := h
theorem nb_new (w : World) (v1 v2 v3 : Value) (t : Int) (ty : Nat) : NB (w.alloc (.cells #[v1, v2, v3, .int .i64 t] ty)) w.heap.size v1 v2 v3 t := by
  refine ⟨?_, ?_, ?_, ?_⟩ <;> simp [World.cell?_alloc_new]
theorem bel_new (w : World) (ob : Obj) : Below w.heap.size w (w.alloc ob) := (Below.refl _ _).alloc (Nat.le_refl _) ob
end Nt
end Go.Proofs.YtfooahhdikobeaaGreat
namespace Go.Proofs.YtfooahhdikobeaaGreat
open Go.ChangeShapes Go.WideShapes Go.ChangeAt Go.RowKit
set_option linter.unusedVariables false
set_option linter.unusedSimpArgs false
attribute [local go_sem ↓] Go.wp_at_zero Go.wp_at_succ
namespace In
open W1
def flat (zs : List Int) : List Value := zs.map (Value.int .i64)
theorem flat_len (zs : List Int) : (flat zs).length = zs.length * 1 := by simp [flat]
theorem flat_append (xs ys : List Int) : flat (xs ++ ys) = flat xs ++ flat ys := by simp [flat]
theorem flat_one_cell {zs : List Int} {u : Value} (h : u ∈ flat zs) : u.oneCell' = true := by
  obtain ⟨z, _, rfl⟩ := List.mem_map.1 h; rfl
theorem flat_get {zs : List Int} {i : Nat} (h : i < zs.length) : (flat zs)[i]? = some (.int .i64 (zs.getD i 0)) := by
  unfold flat
  rw [List.getElem?_map, List.getElem?_eq_getElem h, List.getD_eq_getElem?_getD, List.getElem?_eq_getElem h]; rfl
/-- The slice at a reads as these. -/
def RM (w : World) (a : Option Addr) (zs : List Int) : Prop :=
  zs = [] ∨ ∃ g off, a = some ⟨g, off, none⟩ ∧ ∀ i, i < zs.length → w.cell? ⟨g, off + i, none⟩ = some (.int .i64 (zs.getD i 0))
theorem RM.below {w w' : World} {a : Option Addr} {zs : List Int} (h : RM w a zs) (hb : Below w.heap.size w w') : RM w' a zs := by
  rcases h with h | ⟨g, off, rfl, hc⟩
  · exact .inl h
  · exact .inr ⟨g, off, rfl, fun i hi => (hb.cell (p := ⟨g, off + i, none⟩) (World.block_lt_of_cell? _ _ (hc i hi))).trans (hc i hi)⟩
theorem RM.at {w : World} {g off : Nat} {zs : List Int} {i : Nat} (h : RM w (some ⟨g, off, none⟩) zs) (hi : i < zs.length) : w.cell? ⟨g, off + i, none⟩ = some (.int .i64 (zs.getD i 0)) := by
  rcases h with rfl | ⟨g', off', e, hc⟩
  · simp at hi
  · cases e; exact hc i hi
theorem plain_add (b off k : Nat) : (⟨b, off, none⟩ : Addr).add k = ⟨b, off + k, none⟩ := by unfold Addr.add; split <;> simp_all
theorem RM.cells {w : World} {g off : Nat} {zs : List Int} (h : RM w (some ⟨g, off, none⟩) zs) : ∀ j u, (flat zs)[j]? = some u → w.cell? ((⟨g, off, none⟩ : Addr).add j) = some u := by
  intro j u hj
  have hl : j < zs.length := by have := (List.getElem?_eq_some_iff.1 hj).1; rw [flat_len] at this; omega
  rw [flat_get hl] at hj
  rw [plain_add, ← hj]
  exact h.at hl
/-- The first j stand at the head of block g, whose n cells may be written. -/
def Upto (w : World) (g n j : Nat) (zs : List Int) : Prop :=
  (∀ i, i < j → w.cell? ⟨g, i, none⟩ = some (.int .i64 (zs.getD i 0))) ∧ ∀ i, i < n → (w.cell? ⟨g, i, none⟩).isSome = true ∧ w.frozen? ⟨g, i, none⟩ = false
theorem Upto.step {w : World} {g n j : Nat} {zs : List Int} (h : Upto w g n j zs) (hj : j < n) : Upto (w.setCell ⟨g, j, none⟩ (.int .i64 (zs.getD j 0))) g n (j + 1) zs := by
  refine ⟨fun i hi => ?_, fun i hi => ⟨?_, by rw [World.frozen?_setCell]; exact (h.2 i hi).2⟩⟩
  · by_cases e : i = j
    · subst e
      obtain ⟨v, hv⟩ := Option.isSome_iff_exists.1 (h.2 i hj).1
      rw [World.cell?_setCell_same _ _ _ hv]
    · rw [World.cell?_setCell_other _ _ _ _ (by intro e'; cases e'; exact e rfl)]
      exact h.1 i (by omega)
  · obtain ⟨v, hv⟩ := Option.isSome_iff_exists.1 (h.2 i hi).1
    obtain ⟨v', hv'⟩ := cell?_setCell_some (p := ⟨g, j, none⟩) (x := .int .i64 (zs.getD j 0)) hv
    rw [hv']; rfl
theorem Upto.below {w w' : World} {g n j : Nat} {zs : List Int} (h : Upto w g n j zs) (hb : Below w.heap.size w w') (hg : g < w.heap.size) : Upto w' g n j zs :=
  ⟨fun i hi => (hb.cell (p := ⟨g, i, none⟩) hg).trans (h.1 i hi), fun i hi => ⟨by rw [hb.cell (p := ⟨g, i, none⟩) hg]; exact (h.2 i hi).1, by rw [hb.frozen (p := ⟨g, i, none⟩) hg]; exact (h.2 i hi).2⟩⟩
theorem Upto.of_block {w w' : World} {g n j : Nat} {zs : List Int} (h : Upto w g n j zs) (hb : w'.heap[g]? = w.heap[g]?) : Upto w' g n j zs := by
  have c : ∀ q, w'.cell? ⟨g, q, none⟩ = w.cell? ⟨g, q, none⟩ := fun q => World.cell?_of_block (a := ⟨g, q, none⟩) hb
  have f : ∀ q, w'.frozen? ⟨g, q, none⟩ = w.frozen? ⟨g, q, none⟩ := fun q => World.frozen?_of_block (a := ⟨g, q, none⟩) hb
  exact ⟨fun i hi => (c _).trans (h.1 i hi), fun i hi => ⟨by rw [c]; exact (h.2 i hi).1, by rw [f]; exact (h.2 i hi).2⟩⟩
theorem rm_of {w : World} {g n : Nat} {zs : List Int} (h : Upto w g n zs.length zs) : RM w (some ⟨g, 0, none⟩) zs := .inr ⟨g, 0, rfl, fun i hi => by rw [Nat.zero_add]; exact h.1 i hi⟩
/-- A list between two bounds of the heap, in memory that may be written. -/
def Lst (W : World) (a : Option Addr) (zs : List Int) (lo hi : Nat) : Prop := zs = [] ∨ ∃ g, a = some ⟨g, 0, none⟩ ∧ lo ≤ g ∧ g < hi ∧ g < W.heap.size ∧ Upto W g zs.length zs.length zs
theorem Lst.rm {W : World} {a : Option Addr} {zs : List Int} {lo hi : Nat} (h : Lst W a zs lo hi) : RM W a zs := by
  rcases h with rfl | ⟨g, rfl, _, _, _, hu⟩
  · exact .inl rfl
  · exact rm_of hu
theorem Lst.below {W W' : World} {a : Option Addr} {zs : List Int} {lo hi : Nat} (h : Lst W a zs lo hi) (hb : Below W.heap.size W W') : Lst W' a zs lo hi := by
  rcases h with rfl | ⟨g, rfl, h1, h2, h3, hu⟩
  · exact .inl rfl
  · exact .inr ⟨g, rfl, h1, h2, Nat.lt_of_lt_of_le h3 hb.size, hu.below hb h3⟩
theorem Lst.mono {W : World} {a : Option Addr} {zs : List Int} {lo hi lo' hi' : Nat} (h : Lst W a zs lo hi) (h1 : lo' ≤ lo) (h2 : hi ≤ hi') : Lst W a zs lo' hi' := by
  rcases h with rfl | ⟨g, rfl, h3, h4, h5, hu⟩
  · exact .inl rfl
  · exact .inr ⟨g, rfl, by omega, by omega, h5, hu⟩
theorem Lst.but {W W' : World} {a : Option Addr} {zs : List Int} {lo hi : Nat} {p : Nat → Prop} (h : Lst W a zs lo hi) (hs : W.heap.size ≤ W'.heap.size) (hb : ∀ k, k < W.heap.size → p k → W'.heap[k]? = W.heap[k]?) (hp : ∀ k, lo ≤ k → k < hi → p k) : Lst W' a zs lo hi := by
  rcases h with rfl | ⟨g, rfl, h1, h2, h3, hu⟩
  · exact .inl rfl
  · exact .inr ⟨g, rfl, h1, h2, Nat.lt_of_lt_of_le h3 hs, hu.of_block (hb g h3 (hp g h1 h2))⟩
def LstV (W : World) (v : Value) (zs : List Int) (lo hi : Nat) : Prop := ∃ a c, v = .slice a zs.length c ∧ Lst W a zs lo hi
theorem LstV.mono {W : World} {v : Value} {zs : List Int} {lo hi lo' hi' : Nat} (h : LstV W v zs lo hi) (h1 : lo' ≤ lo) (h2 : hi ≤ hi') : LstV W v zs lo' hi' := by
  obtain ⟨a, c, e, hl⟩ := h; exact ⟨a, c, e, hl.mono h1 h2⟩
theorem lstV_nil (W : World) (a : Option Addr) (c lo hi : Nat) : LstV W (.slice a 0 c) [] lo hi := ⟨a, c, rfl, .inl rfl⟩
theorem upto_own {w : World} {base g cap n : Nat} {zs : List Int} (hn : n = zs.length) (h : w.ownsRow base 3 1 (.slice (some ⟨g, 0, none⟩) n cap) n (flat zs)) : Upto w g n n zs := by
  subst hn
  refine ⟨fun i hi => ?_, fun i hi => ?_⟩
  · have := h.cells (g := g) rfl i _ (flat_get hi)
    rw [plain_add, Nat.zero_add] at this
    exact this
  · obtain ⟨_, ⟨e, _⟩ | ⟨g', cap', cur, e, _, hg, h1, _, h3, _⟩⟩ := h
    · cases e
    · cases e
      have hlt : i < cur.size := by rw [h3]; omega
      exact ⟨by simp [World.cell?, hg, hlt], by simp [World.frozen?, hg]⟩
theorem lst_own {w : World} {base n : Nat} {v : Value} {zs : List Int} (hn : n = zs.length) (h : w.ownsRow base 3 1 v n (flat zs)) : LstV w v zs base w.heap.size := by
  unfold LstV
  have h' := h
  obtain ⟨hl, ⟨rfl, h0⟩ | ⟨g, cap, cur, rfl, hb, hg, _, _, _, _⟩⟩ := h
  · exact ⟨none, 0, by rw [← hn, h0], .inl (List.eq_nil_of_length_eq_zero (by omega))⟩
  · have hlt : g < w.heap.size := by
      rcases Nat.lt_or_ge g w.heap.size with h | h
      · exact h
      · rw [Array.getElem?_eq_none h] at hg; cases hg
    refine ⟨_, cap, by rw [hn], .inr ⟨g, rfl, hb, hlt, hlt, ?_⟩⟩
    have := upto_own hn h'
    rw [hn] at this; exact this
theorem infoI : ∃ i, Tryz.prog.info? 3 = some i ∧ i.zero = some (.int .i64 0) ∧ i.size = 1 ∧ i.bytes = 8 := by
  have h : (Tryz.prog.info? 3).map (fun i => (i.zero, i.size, i.bytes)) = some (some (.int .i64 0), 1, 8) := by kernel_rfl
  obtain ⟨i, hi, he⟩ := Option.map_eq_some_iff.1 h
  simp only [Prod.mk.injEq] at he
  exact ⟨i, hi, he.1, he.2.1, he.2.2⟩
/-- append of a list to a row of one's own, as a walk meets it. -/
theorem wpList_apS {ops : Array Oper} {rest : List Oper} {o : Oper} {a : Act} {Q : Exit → Act → World → Prop} {w : World} {base : Nat} {v : Value} {xs : List Int} (hown : w.ownsRow base 3 1 v xs.length (flat xs)) (g off m c : Nat) (ms : List Int) (hm : ms.length = m) (hr : RM w (some ⟨g, off, none⟩) ms) (hlen : xs.length + ms.length ≤ 4194304) (hbase : base ≤ w.heap.size)
    (hgd : o.guard = none) (s x : Operand) (ho : o.op = .call { callee := .builtin .append, args := #[s, x], argTypes := #[23, 23] }) (hs : a.eval s = v) (hx : a.eval x = .slice (some ⟨g, off, none⟩) m c)
    (h : ∀ v' w', w'.ownsRow base 3 1 v' (xs ++ ms).length (flat (xs ++ ms)) → w.grownBy w' v.ownBlock → wpList Tryz.prog ops Q rest (a.put o.dst v') w') : wpList Tryz.prog ops Q (o :: rest) a w := by
  subst hm
  obtain ⟨i0, hi, hz0, hz1, hz2⟩ := infoI
  refine wpList_append_own w hgd s x _ ho base 3 i0 _ 1 8 Tryz.underlying23 hi hz0 hz1 hz2 rfl (by decide) v xs.length (flat xs) hs hown ⟨g, off, none⟩ ms.length c (flat ms) hx (flat_len ms) hr.cells (fun u hu => flat_one_cell hu) (by unfold maxLen; omega) (by omega) hbase (fun v' w' h1 h2 _ => ?_)
  refine h v' w' ?_ h2
  rw [List.length_append, flat_append]; exact h1
theorem rm_new (w : World) (z : Int) : RM (w.alloc (.cells #[.int .i64 z] 3)) (some ⟨w.heap.size, 0, none⟩) [z] := by
  refine .inr ⟨_, _, rfl, fun i hi => ?_⟩
  obtain rfl : i = 0 := by simp at hi; omega
  simp [World.cell?_alloc_new]
theorem own_empty (w : World) (base : Nat) (hb : base ≤ w.heap.size) : (w.alloc (.cells #[] 3)).ownsRow base 3 1 (.slice (some ⟨w.heap.size, 0, none⟩) 0 0) ([] : List Int).length (flat []) := World.ownsRow_made w #[] 0 hb (Nat.zero_le _) (by simp)
theorem own_nil (w : World) (base : Nat) : w.ownsRow base 3 1 (.slice none 0 0) ([] : List Int).length (flat []) := World.ownsRow_nil w base _ _
theorem below_own {B : Nat} {w0 w w' : World} {base : Nat} {v : Value} {n : Nat} {xs : List Value} (h : Below B w0 w) (ho : w.ownsRow base 3 1 v n xs) (hg : w.grownBy w' v.ownBlock) (hb : B ≤ base) (hB : B ≤ w.heap.size) : Below B w0 w' :=
  h.grown hg hB (fun k hk => Nat.le_trans hb (ho.lt k hk).1)
set_option maxRecDepth 100000 in
set_option maxHeartbeats 2000000 in
theorem eqS (a b : Option Addr) (zs : List Int) (ca cb : Nat) (w : World) (hm : zs.length ≤ 1048576) (hr : RM w a zs) (hr' : RM w b zs) :
    Calls Tryz.prog 33 #[.slice a zs.length ca, .slice b zs.length cb] w fun e w' => e = .returned (.bool true) ∧ Below w.heap.size w w' := by
  have HR := hide hr
  have HR' := hide hr'
  clear hr hr'
  generalize hN : zs.length = n at *
  have HN := hide hN
  clear hN
  go_enter Tryz.func33, Tryz.ntmps33
  go_wp2
  go_loopw [5] (fun i wr => ∃ j : Nat, j ≤ n ∧ i = .int .i64 j ∧ Hid (Below w.heap.size w wr)) (fun i _ => n - (intOf i).toNat)
  case atStart => exact ⟨0, by omega, rfl, hide (Below.refl _ _)⟩
  case round =>
    obtain ⟨j, hj, rfl, hbl⟩ := hrel
    by_cases hlt : (j : Int) < (n : Int)
    · have k0 : (0 : Int) ≤ (j : Int) := by omega
      have hlen : j < zs.length := by rw [unhide HN]; omega
      rcases (unhide HR).below (by exact (unhide hbl)) with e0 | ⟨g, off, rfl, hc⟩
      · exfalso; rw [e0] at hlen; simp at hlen
      rcases (unhide HR').below (by exact (unhide hbl)) with e0 | ⟨g', off', rfl, hc'⟩
      · exfalso; rw [e0] at hlen; simp at hlen
      have hA := hc j hlen
      have hA' := hc' j hlen
      clear hc hc'
      generalize zs.getD j 0 = z at *
      have hzb : (z == z) = true := by simp
      go_wp2_with fail
      go_region_held3 (fun w' => w'.cell? ⟨g, off + j, none⟩ = some (.int .i64 z) ∧ w'.cell? ⟨g', off' + j, none⟩ = some (.int .i64 z)) (exact ⟨hA, hA'⟩) (fail)
      have hb1 := hide ((unhide hbl).drew)
      go_wp2_with fail
      go_roundw
      case rel => exact ⟨j + 1, by omega, by go_num, hb1⟩
      case measure => simp [intOf]; omega
    · go_wp2
      go_ret
      exact ⟨rfl, unhide hbl⟩
/-- The marks from K on. -/
def marks (K : Int) (n : Nat) : List Int := (List.range n).map fun t : Nat => K + 1 * (t : Int)
theorem marks_len (K : Int) (n : Nat) : (marks K n).length = n := by simp [marks]
theorem marks_at (K : Int) (n t : Nat) (h : t < n) : (marks K n).getD t 0 = K + 1 * (t : Int) := by
  unfold marks
  rw [List.getD_eq_getElem?_getD, List.getElem?_map, List.getElem?_range h]; rfl
theorem grown_set {w w1 : World} {g o : Nat} {v : Value} (h : w.grownBy w1 (some g)) : w.grownBy (w1.setCell ⟨g, o, none⟩ v) (some g) :=
  ⟨h.os, h.tape, h.output, by have := h.size; simp [World.setCell]; exact this, fun k hk hne => (Below.heap_setCell _ _ _ _ (fun e => hne (by rw [e]))).trans (h.block k hk hne)⟩
set_option maxHeartbeats 2000000 in
theorem markS (g n c : Nat) (K : Int) (zs : List Int) (w : World) (hK : 0 ≤ K) (hK1 : K ≤ 1073741824) (hn : n ≤ 1048576) (hg : g < w.heap.size) (hU : Upto w g n n zs) :
    Calls Tryz.prog 34 #[.slice (some ⟨g, 0, none⟩) n c, .int .i64 K] w fun e w' => e = .returned (.int .i64 (K + 1 * (n : Int))) ∧ w.grownBy w' (some g) ∧ Upto w' g n n (marks K n) := by
  have hU0 : Hid (Upto w g n 0 (marks K n)) := hide ⟨fun i hi => by omega, hU.2⟩
  clear hU
  go_enter Tryz.func34, Tryz.ntmps34
  go_wp2
  go_loopw [1, 5] (fun q i wr => ∃ j : Nat, j ≤ n ∧ i = .int .i64 j ∧ q = .int .i64 (K + 1 * (j : Int)) ∧ Hid (w.grownBy wr (some g)) ∧ Hid (Upto wr g n j (marks K n))) (fun _ i _ => n - (intOf i).toNat)
  case atStart => exact ⟨0, by omega, rfl, by simp, hide ⟨rfl, rfl, rfl, Nat.le_refl _, fun _ _ _ => rfl⟩, hU0⟩
  case round =>
    obtain ⟨j, hj, rfl, rfl, hgr, hu⟩ := hrel
    by_cases hlt : (j : Int) < (n : Int)
    · have k0 : (0 : Int) ≤ (j : Int) := by omega
      obtain ⟨v0, x0⟩ := Option.isSome_iff_exists.1 ((unhide hu).2 j (by omega)).1
      have y0 := ((unhide hu).2 j (by omega)).2
      have hst := (unhide hu).step (by omega)
      rw [marks_at K n j (by omega)] at hst
      have HST := hide hst
      have HGN := hide (grown_set (o := j) (v := .int .i64 (K + 1 * (j : Int))) (unhide hgr))
      clear hst
      generalize hq : K + 1 * (j : Int) = q at *
      have hq0 : 0 ≤ q := by omega
      have hq1 : q ≤ 1109393408 := by omega
      go_wp2_with fail
      exact ⟨⟨j + 1, by omega, by go_num, by go_num, HGN, HST⟩, by simp [intOf]; omega⟩
    · obtain rfl : j = n := by omega
      go_wp2
      go_ret
      exact ⟨by first | rfl | trivial | simp, unhide hgr, unhide hu⟩
theorem markS0 (a : Option Addr) (c : Nat) (K : Int) (w : World) :
    Calls Tryz.prog 34 #[.slice a 0 c, .int .i64 K] w fun e w' => e = .returned (.int .i64 K) ∧ w' = w := by
  go_enter Tryz.func34, Tryz.ntmps34
  go_wp2
  go_loop [1, 5] (fun q i => q = .int .i64 K ∧ i = .int .i64 0) (fun _ i => 0)
  case atStart => exact ⟨rfl, rfl⟩
  case round =>
    obtain ⟨rfl, rfl⟩ := hrel
    go_wp2
    go_ret
    exact ⟨rfl, rfl⟩
theorem heldS0 (a : Option Addr) (c : Nat) (K : Int) (w : World) :
    Calls Tryz.prog 35 #[.slice a 0 c, .int .i64 K] w fun e w' => e = .returned (.int .i64 K) ∧ w' = w := by
  go_enter Tryz.func35, Tryz.ntmps35
  go_wp2
  go_loop [1, 5] (fun q i => q = .int .i64 K ∧ i = .int .i64 0) (fun _ i => 0)
  case atStart => exact ⟨rfl, rfl⟩
  case round =>
    obtain ⟨rfl, rfl⟩ := hrel
    go_wp2
    go_ret
    exact ⟨rfl, rfl⟩
set_option maxHeartbeats 2000000 in
theorem heldS (g n c : Nat) (K : Int) (w : World) (hK : 0 ≤ K) (hK1 : K ≤ 1073741824) (hn : n ≤ 1048576) (hU : Upto w g n n (marks K n)) :
    Calls Tryz.prog 35 #[.slice (some ⟨g, 0, none⟩) n c, .int .i64 K] w fun e w' => e = .returned (.int .i64 (K + 1 * (n : Int))) ∧ w' = w := by
  have HU := hide hU
  clear hU
  go_enter Tryz.func35, Tryz.ntmps35
  go_wp2
  go_loopw [1, 5] (fun q i wr => wr = w ∧ ∃ j : Nat, j ≤ n ∧ i = .int .i64 j ∧ q = .int .i64 (K + 1 * (j : Int))) (fun _ i _ => n - (intOf i).toNat)
  case atStart => exact ⟨rfl, 0, by omega, rfl, by simp⟩
  case round =>
    obtain ⟨rfl, j, hj, rfl, rfl⟩ := hrel
    by_cases hlt : (j : Int) < (n : Int)
    · have k0 : (0 : Int) ≤ (j : Int) := by omega
      have c0 := (unhide HU).1 j (by omega)
      rw [marks_at K n j (by omega)] at c0
      generalize hq : K + 1 * (j : Int) = q at *
      have hq0 : 0 ≤ q := by omega
      have hq1 : q ≤ 1109393408 := by omega
      go_wp2_with fail
      go_roundw
      case rel => exact ⟨by first | trivial | rfl, j + 1, by omega, by go_num, by go_num⟩
      case measure => simp [intOf]; omega
    · obtain rfl : j = n := by omega
      go_wp2
      go_ret
      exact ⟨by first | trivial | rfl | simp, rfl⟩
theorem markF (a : Option Addr) (c lo hi : Nat) (K : Int) (zs : List Int) (w : World) (hK : 0 ≤ K) (hK1 : K ≤ 1073741824) (hn : zs.length ≤ 1048576) (h : Lst w a zs lo hi) :
    Calls Tryz.prog 34 #[.slice a zs.length c, .int .i64 K] w fun e w' => e = .returned (.int .i64 (K + 1 * (zs.length : Int))) ∧ w.heap.size ≤ w'.heap.size ∧ Below (min lo w.heap.size) w w' ∧ Lst w' a (marks K zs.length) lo hi ∧ ∀ k, k < w.heap.size → (k < lo ∨ hi ≤ k) → w'.heap[k]? = w.heap[k]? := by
  have hnil : ∀ w', w' = w → w.heap.size ≤ w'.heap.size ∧ Below (min lo w.heap.size) w w' ∧ ∀ k, k < w.heap.size → (k < lo ∨ hi ≤ k) → w'.heap[k]? = w.heap[k]? := by
    rintro w' rfl
    exact ⟨Nat.le_refl _, Below.refl _ _, fun _ _ _ => rfl⟩
  by_cases h0 : zs.length = 0
  · obtain rfl : zs = [] := List.eq_nil_of_length_eq_zero h0
    refine (markS0 a c K w).mono ?_
    rintro e w' ⟨rfl, hw⟩
    obtain ⟨q1, q2, q3⟩ := hnil w' hw
    exact ⟨by simp, q1, q2, .inl rfl, q3⟩
  rcases h with rfl | ⟨g, rfl, h1, h2, h3, hu⟩
  · simp at h0
  refine (markS g zs.length c K zs w hK hK1 hn h3 hu).mono ?_
  rintro e w' ⟨rfl, gr, hu'⟩
  exact ⟨rfl, gr.size, ⟨gr.os, gr.tape, gr.output, gr.size, fun k hk => gr.block k (by omega) (fun e => by cases e; omega)⟩, .inr ⟨g, rfl, h1, h2, Nat.lt_of_lt_of_le h3 gr.size, by rw [marks_len]; exact hu'⟩, fun k hk hne => gr.block k hk (fun e => by cases e; omega)⟩
theorem heldF (a : Option Addr) (c n lo hi : Nat) (K : Int) (w : World) (hK : 0 ≤ K) (hK1 : K ≤ 1073741824) (hn : n ≤ 1048576) (h : Lst w a (marks K n) lo hi) :
    Calls Tryz.prog 35 #[.slice a n c, .int .i64 K] w fun e w' => e = .returned (.int .i64 (K + 1 * (n : Int))) ∧ w' = w := by
  by_cases h0 : n = 0
  · subst h0
    refine (heldS0 a c K w).mono ?_
    rintro e w' ⟨rfl, rfl⟩
    exact ⟨by simp, rfl⟩
  rcases h with h | ⟨g, rfl, _, _, _, hu⟩
  · have := marks_len K n; rw [h] at this; simp at this; omega
  · rw [marks_len] at hu
    exact heldS g n c K w hK hK1 hn hu
end In
end Go.Proofs.YtfooahhdikobeaaGreat
namespace Go.Proofs.YtfooahhdikobeaaGreat
open Go.ChangeShapes Go.WideShapes Go.ChangeAt Go.RowKit
set_option linter.unusedVariables false
set_option linter.unusedSimpArgs false
set_option maxRecDepth 100000
attribute [local go_sem ↓] Go.wp_at_zero Go.wp_at_succ
namespace Nt
open W1 Rt
theorem belN (w : World) (n : Nat) : Below w.heap.size w (w.drewN n) := by
  have h := Below.refl w.heap.size w
  exact ⟨h.os, h.tape, h.output, h.size, h.block⟩
theorem l13Addr (a b d : Option Addr) (n k l ca cb cd : Nat) (t : Int) (x : Int) (w : World) :
    Calls Tryz.prog 60 #[.agg #[.slice a n ca, .slice b k cb, .slice d l cd, .int .i64 t], .int .i64 x] w fun e w' => e = .returned (.bool (inB x 1 n)) ∧ Below w.heap.size w w' := by
  go_enter Tryz.func60, Tryz.ntmps60
  go_wp2_with (go_at_call 43; refine (l01In _ _ _ _).mono ?_; rintro e w_ ⟨rfl, rfl⟩)
  go_ret
  exact ⟨rfl, (Below.refl _ _).alloc (Nat.le_refl _) _⟩
theorem isRouter (a b d : Option Addr) (n k l ca cb cd : Nat) (t : Int) (x : Int) (w : World) :
    Calls Tryz.prog 62 #[.agg #[.slice a n ca, .slice b k cb, .slice d l cd, .int .i64 t], .int .i64 x] w fun e w' => e = .returned (.bool (inB x 1 n)) ∧ Below w.heap.size w w' := by
  go_enter Tryz.func62, Tryz.ntmps62
  go_wp2_with (go_at_call 88; refine (within _ _ _ _).mono ?_; rintro e w_ ⟨rfl, rfl⟩)
  go_ret
  exact ⟨rfl, (Below.refl _ _).alloc (Nat.le_refl _) _⟩
/-- Two different routers. -/
def apB (x y : Int) (n : Nat) : Bool := inB x 1 n && (inB y 1 n && !(x == y))
set_option maxHeartbeats 4000000 in
theorem l13Pair (a b d : Option Addr) (n k l ca cb cd : Nat) (t : Int) (x y : Int) (w : World) :
    Calls Tryz.prog 42 #[.agg #[.slice a n ca, .slice b k cb, .slice d l cd, .int .i64 t], .int .i64 x, .int .i64 y] w fun e w' => e = .returned (.bool (apB x y n)) ∧ Below w.heap.size w w' := by
  have HX0 := hide (nb_new w (.slice a n ca) (.slice b k cb) (.slice d l cd) t 31)
  have HB0 := hide (bel_new w (.cells #[.slice a n ca, .slice b k cb, .slice d l cd, .int .i64 t] 31))
  have E : Hid (apB x y n = (inB x 1 n && (inB y 1 n && !(x == y)))) := hide rfl
  have K1 := hide (fun W => l13Addr a b d n k l ca cb cd t x W)
  have K2 := hide (fun W => l13Addr a b d n k l ca cb cd t y W)
  cases h1 : inB x 1 n
  · rw [h1] at K1 E
    clear h1
    go_enter Tryz.func42, Tryz.ntmps42
    go_wp2_with fail
    refine (unhide K1 _).mono ?_
    rintro e w1 ⟨rfl, b1⟩
    have HF := hide ((unhide HB0).trans (b1.mono (unhide HB0).size))
    clear b1
    go_wp2_with fail
    go_ret
    exact ⟨ret_bool (by rw [unhide E]; simp), unhide HF⟩
  rw [h1] at K1 E
  clear h1
  cases h2 : inB y 1 n
  · rw [h2] at K2 E
    clear h2
    go_enter Tryz.func42, Tryz.ntmps42
    go_wp2_with fail
    refine (unhide K1 _).mono ?_
    rintro e w1 ⟨rfl, b1⟩
    have HF := hide ((unhide HB0).trans (b1.mono (unhide HB0).size))
    obtain ⟨p0, p1, p2, p3⟩ := (unhide HX0).below b1
    clear b1
    go_wp2_with fail
    clear p0 p1 p2 p3
    refine (unhide K2 _).mono ?_
    rintro e w2 ⟨rfl, b2⟩
    have HG := hide ((unhide HF).trans (b2.mono (unhide HF).size))
    clear b2
    go_wp2_with fail
    go_ret
    exact ⟨ret_bool (by rw [unhide E]; simp), unhide HG⟩
  rw [h2] at K2 E
  clear h2
  have E2 : Hid (apB x y n = (x != y)) := hide (by rw [unhide E]; rfl)
  cases hxy : (x != y)
  all_goals
    have HXY := hide hxy
    go_enter Tryz.func42, Tryz.ntmps42
    go_wp2_with fail
    refine (unhide K1 _).mono ?_
    rintro e w1 ⟨rfl, b1⟩
    have HF := hide ((unhide HB0).trans (b1.mono (unhide HB0).size))
    obtain ⟨p0, p1, p2, p3⟩ := (unhide HX0).below b1
    clear b1
    go_wp2_with fail
    clear p0 p1 p2 p3
    refine (unhide K2 _).mono ?_
    rintro e w2 ⟨rfl, b2⟩
    have HG := hide ((unhide HF).trans (b2.mono (unhide HF).size))
    clear b2
    go_wp2_with fail
    go_ret
    exact ⟨ret_bool (by rw [unhide E2, unhide HXY]), unhide HG⟩
set_option maxHeartbeats 4000000 in
theorem areApart (a b d : Option Addr) (n k l ca cb cd : Nat) (t : Int) (x y : Int) (w : World) :
    Calls Tryz.prog 50 #[.agg #[.slice a n ca, .slice b k cb, .slice d l cd, .int .i64 t], .int .i64 x, .int .i64 y] w fun e w' => e = .returned (.bool (apB x y n)) ∧ Below w.heap.size w w' := by
  have HX0 := hide (nb_new w (.slice a n ca) (.slice b k cb) (.slice d l cd) t 31)
  have HB0 := hide (bel_new w (.cells #[.slice a n ca, .slice b k cb, .slice d l cd, .int .i64 t] 31))
  have E : Hid (apB x y n = (inB x 1 n && (inB y 1 n && !(x == y)))) := hide rfl
  have K1 := hide (fun W => isRouter a b d n k l ca cb cd t x W)
  have K2 := hide (fun W => isRouter a b d n k l ca cb cd t y W)
  cases h1 : inB x 1 n
  · rw [h1] at K1 E
    clear h1
    go_enter Tryz.func50, Tryz.ntmps50
    go_wp2_with fail
    refine (unhide K1 _).mono ?_
    rintro e w1 ⟨rfl, b1⟩
    have HF := hide ((unhide HB0).trans (b1.mono (unhide HB0).size))
    clear b1
    go_wp2_with fail
    go_ret
    exact ⟨ret_bool (by rw [unhide E]; simp), unhide HF⟩
  rw [h1] at K1 E
  clear h1
  cases h2 : inB y 1 n
  · rw [h2] at K2 E
    clear h2
    go_enter Tryz.func50, Tryz.ntmps50
    go_wp2_with fail
    refine (unhide K1 _).mono ?_
    rintro e w1 ⟨rfl, b1⟩
    have HF := hide ((unhide HB0).trans (b1.mono (unhide HB0).size))
    obtain ⟨p0, p1, p2, p3⟩ := (unhide HX0).below b1
    clear b1
    go_wp2_with fail
    clear p0 p1 p2 p3
    refine (unhide K2 _).mono ?_
    rintro e w2 ⟨rfl, b2⟩
    have HG := hide ((unhide HF).trans (b2.mono (unhide HF).size))
    clear b2
    go_wp2_with fail
    go_ret
    exact ⟨ret_bool (by rw [unhide E]; simp), unhide HG⟩
  rw [h2] at K2 E
  clear h2
  have E2 : Hid (apB x y n = (x != y)) := hide (by rw [unhide E]; rfl)
  cases hxy : (x != y)
  all_goals
    have HXY := hide hxy
    go_enter Tryz.func50, Tryz.ntmps50
    go_wp2_with fail
    refine (unhide K1 _).mono ?_
    rintro e w1 ⟨rfl, b1⟩
    have HF := hide ((unhide HB0).trans (b1.mono (unhide HB0).size))
    obtain ⟨p0, p1, p2, p3⟩ := (unhide HX0).below b1
    clear b1
    go_wp2_with fail
    clear p0 p1 p2 p3
    refine (unhide K2 _).mono ?_
    rintro e w2 ⟨rfl, b2⟩
    have HG := hide ((unhide HF).trans (b2.mono (unhide HF).size))
    clear b2
    go_wp2_with fail
    go_ret
    exact ⟨ret_bool (by rw [unhide E2, unhide HXY]), unhide HG⟩
theorem isCost (x : Int) (w : World) : Calls Tryz.prog 51 #[.int .i64 x] w fun e w' => e = .returned (.bool (inB x 0 256)) ∧ w' = w := by
  go_enter Tryz.func51, Tryz.ntmps51
  go_wp2_with (go_at_call 88; refine (within _ _ _ _).mono ?_; rintro e w_ ⟨rfl, rfl⟩)
  go_ret
  exact ⟨rfl, rfl⟩
set_option maxHeartbeats 8000000 in
theorem l13Costs (a : Option Addr) (cs : List Int) (cap n : Nat) (w : World) (hm : cs.length ≤ 1048576) (h1 : 1 ≤ n) (h6 : n ≤ 6) (hr : In.RM w a cs) :
    Calls Tryz.prog 83 #[.slice a cs.length cap, .int .i64 n] w fun e w' => e = .returned (.bool (costB cs n)) ∧ Below w.heap.size w w' := by
  have HR := hide hr
  clear hr
  have E : Hid (costB cs n = (cs.length == n * n && allI cs.length (cok cs n))) := hide rfl
  obtain ⟨N2, hN2⟩ : ∃ N2 : Nat, n * n = N2 := ⟨_, rfl⟩
  have hmul : (n : Int) * (n : Int) = (N2 : Int) := by rw [← hN2]; simp
  have hle : N2 ≤ 36 := by rw [← hN2]; exact Nat.mul_le_mul h6 h6
  rw [hN2] at E
  clear hN2
  obtain ⟨C, hC⟩ : ∃ C, cs.length = C := ⟨_, rfl⟩
  rw [hC] at hm E ⊢
  have HC := hide hC
  clear hC
  have hn1 : (1 : Int) ≤ (n : Int) := by omega
  have hn6 : (n : Int) ≤ 6 := by omega
  have hn0 : ¬ (n : Int) = 0 := by omega
  go_enter Tryz.func83, Tryz.ntmps83
  go_wp2
  go_loopw [5] (fun i wr => ∃ j : Nat, j ≤ C ∧ i = .int .i64 j ∧ Hid (∀ i, i < j → cok cs n i = true) ∧ Hid (∃ q, wr = w.drewN q)) (fun i _ => C - (intOf i).toNat)
  case atStart => exact ⟨0, by omega, rfl, hide (fun i hi => absurd hi (Nat.not_lt_zero i)), hide ⟨0, rfl⟩⟩
  case round =>
    obtain ⟨j, hj, rfl, hall, hwd⟩ := hrel
    by_cases hlt : (j : Int) < (C : Int)
    · have k0 : (0 : Int) ≤ (j : Int) := by omega
      have hlen : j < cs.length := by rw [unhide HC]; omega
      have hbl : Below w.heap.size w wr := by obtain ⟨q, rfl⟩ := unhide hwd; exact belN w q
      rcases (unhide HR).below hbl with e0 | ⟨g, off, rfl, hc⟩
      · exfalso; rw [e0] at hlen; simp at hlen
      have c0 := hc j hlen
      have HBL := hide hbl
      clear hc hbl
      have HCK : Hid (cok cs n j = (inB (cs.getD j 0) 0 256 && (!(decide (j / n = j % n)) || cs.getD j 0 == 0))) := hide rfl
      generalize cs.getD j 0 = x at *
      have hq : (j : Int) / (n : Int) = ((j / n : Nat) : Int) := by simp
      have hr : (j : Int) % (n : Int) = ((j % n : Nat) : Int) := by simp
      have hq2 : (j : Int).tdiv (n : Int) = ((j / n : Nat) : Int) := by simp
      have hr2 : (j : Int).tmod (n : Int) = ((j % n : Nat) : Int) := by rw [Int.tmod_eq_emod_of_nonneg (by omega)]; simp
      have HE : Hid ((((j / n : Nat) : Int) == ((j % n : Nat) : Int)) = decide (j / n = j % n)) := hide (by rw [Bool.eq_iff_iff]; simp; omega)
      have hqb : ((j / n : Nat) : Int) ≤ 1048576 := by have := Nat.div_le_self j n; omega
      have hrb : ((j % n : Nat) : Int) ≤ 6 := by have := Nat.mod_lt j (show 0 < n by omega); omega
      generalize j / n = Qn at *
      generalize j % n = Rn at *
      have hn0' : ¬ n = 0 := by omega
      have hwq : IntKind.i64.wrap (Qn : Int) = (Qn : Int) := by rw [IntKind.wrap_i64]; omega
      have hwr : IntKind.i64.wrap (Rn : Int) = (Rn : Int) := by rw [IntKind.wrap_i64]; omega
      have KC := hide (fun W => l01In x 0 256 W)
      have HNO := hide (fun h => allI_no (p := cok cs n) hlen h)
      have HUP := hide (fun h => up_to (p := cok cs n) (unhide hall) h)
      rw [unhide HC] at HNO
      clear hlen
      cases hin : inB x 0 256
      · have EB := hide (unhide HNO (by rw [unhide HCK, hin]; rfl))
        rw [hin] at KC
        clear hin
        go_wp2_with fail
        refine wp_region_noPanic ?_
        refine wp_region_held_drew (S := fun w' => w'.cell? ⟨g, off + j, none⟩ = some (.int .i64 x)) (by kernel_rfl) (c0) (fun hHeld => ?_)
        refine Rg.t 0 12 ?_
        refine Rg.t 1 13 ?_
        refine Rg.t 2 14 ?_
        refine Rg.t 3 15 ?_
        (refine Rg.o 4 (fun K hK => ?_); go_simp)
        refine (unhide KC _).mono ?_
        rintro e w1 ⟨rfl, hw1⟩
        subst hw1
        refine hK.out _ _ (by first | exact c0 | exact hHeld) (fun hHeld => ?_)
        clear hK
        (try simp only [Act.put, List.setIfInBounds_toArray, List.set_cons_zero, List.set_cons_succ])
        refine Rg.t 5 17 ?_
        refine Rg.t 6 18 ?_
        refine Rg.s 7 19 ?_
        refine Rg.s 8 20 ?_
        refine Rg.s 9 21 ?_
        refine Rg.s 10 22 ?_
        refine Rg.s 11 23 ?_
        refine Rg.s 12 24 ?_
        refine Rg.s 13 25 ?_
        refine Rg.s 14 26 ?_
        refine Rg.s 15 27 ?_
        refine Rg.s 16 28 ?_
        refine Rg.s 17 29 ?_
        refine Rg.s 18 30 ?_
        refine Rg.s 19 31 ?_
        refine Rg.s 20 32 ?_
        refine Rg.t 21 33 ?_
        refine wpAnyH_done (by kernel_rfl) (NoPanic.normal ?_) _
        clear hHeld
        go_wp2_with fail
        go_ret
        exact ⟨ret_bool (by rw [unhide E, unhide EB]; simp), (unhide HBL).drew⟩
      rw [hin] at KC
      have HIN := hide hin
      clear hin
      cases hd : ((Qn : Int) == (Rn : Int))
      · have OK := hide (unhide HUP (by rw [unhide HCK, unhide HIN, ← unhide HE, hd]; rfl))
        clear HNO HUP
        go_wp2_with fail
        refine wp_region_noPanic ?_
        refine wp_region_held_drew (S := fun w' => w'.cell? ⟨g, off + j, none⟩ = some (.int .i64 x)) (by kernel_rfl) (c0) (fun hHeld => ?_)
        refine Rg.t 0 12 ?_
        refine Rg.t 1 13 ?_
        refine Rg.t 2 14 ?_
        refine Rg.t 3 15 ?_
        (refine Rg.o 4 (fun K hK => ?_); go_simp)
        refine (unhide KC _).mono ?_
        rintro e w1 ⟨rfl, hw1⟩
        subst hw1
        refine hK.out _ _ (by first | exact c0 | exact hHeld) (fun hHeld => ?_)
        clear hK
        (try simp only [Act.put, List.setIfInBounds_toArray, List.set_cons_zero, List.set_cons_succ])
        refine Rg.t 5 17 ?_
        refine Rg.t 6 18 ?_
        refine Rg.t 7 19 ?_
        refine Rg.t 8 20 ?_
        refine Rg.t 9 21 ?_
        refine Rg.t 10 22 ?_
        refine Rg.t 11 23 ?_
        refine Rg.t 12 24 ?_
        refine Rg.t 13 25 ?_
        refine Rg.t 14 26 ?_
        refine Rg.s 15 27 ?_
        refine Rg.s 16 28 ?_
        refine Rg.s 17 29 ?_
        refine Rg.s 18 30 ?_
        refine Rg.s 19 31 ?_
        refine Rg.t 20 32 ?_
        refine Rg.t 21 33 ?_
        refine wpAnyH_done (by kernel_rfl) (NoPanic.normal ?_) _
        clear hHeld
        go_wp2_with fail
        go_roundw
        case rel => exact ⟨j + 1, by omega, by go_num, OK, hide (by obtain ⟨q, hq⟩ := unhide hwd; exact ⟨q + 1, by rw [hq]; rfl⟩)⟩
        case measure => simp [intOf]; omega
      cases hx : (x != 0)
      · have OK := hide (unhide HUP (by rw [unhide HCK, unhide HIN]; have : (x == 0) = true := (by simpa using hx); rw [this]; simp))
        clear HNO HUP
        go_wp2_with fail
        refine wp_region_noPanic ?_
        refine wp_region_held_drew (S := fun w' => w'.cell? ⟨g, off + j, none⟩ = some (.int .i64 x)) (by kernel_rfl) (c0) (fun hHeld => ?_)
        refine Rg.t 0 12 ?_
        refine Rg.t 1 13 ?_
        refine Rg.t 2 14 ?_
        refine Rg.t 3 15 ?_
        (refine Rg.o 4 (fun K hK => ?_); go_simp)
        refine (unhide KC _).mono ?_
        rintro e w1 ⟨rfl, hw1⟩
        subst hw1
        refine hK.out _ _ (by first | exact c0 | exact hHeld) (fun hHeld => ?_)
        clear hK
        (try simp only [Act.put, List.setIfInBounds_toArray, List.set_cons_zero, List.set_cons_succ])
        refine Rg.t 5 17 ?_
        refine Rg.t 6 18 ?_
        refine Rg.t 7 19 ?_
        refine Rg.t 8 20 ?_
        refine Rg.t 9 21 ?_
        refine Rg.t 10 22 ?_
        refine Rg.t 11 23 ?_
        refine Rg.t 12 24 ?_
        refine Rg.t 13 25 ?_
        refine Rg.t 14 26 ?_
        refine Rg.t 15 27 ?_
        refine Rg.t 16 28 ?_
        refine Rg.t 17 29 ?_
        refine Rg.t 18 30 ?_
        refine Rg.t 19 31 ?_
        refine Rg.t 20 32 ?_
        refine Rg.t 21 33 ?_
        refine wpAnyH_done (by kernel_rfl) (NoPanic.normal ?_) _
        clear hHeld
        go_wp2_with fail
        go_roundw
        case rel => exact ⟨j + 1, by omega, by go_num, OK, hide (by obtain ⟨q, hq⟩ := unhide hwd; exact ⟨q + 1, by rw [hq]; rfl⟩)⟩
        case measure => simp [intOf]; omega
      · have EB := hide (unhide HNO (by rw [unhide HCK, unhide HIN, ← unhide HE, hd]; have : (x == 0) = false := (by simpa using hx); rw [this]; rfl))
        clear HNO HUP
        go_wp2_with fail
        refine wp_region_noPanic ?_
        refine wp_region_held_drew (S := fun w' => w'.cell? ⟨g, off + j, none⟩ = some (.int .i64 x)) (by kernel_rfl) (c0) (fun hHeld => ?_)
        refine Rg.t 0 12 ?_
        refine Rg.t 1 13 ?_
        refine Rg.t 2 14 ?_
        refine Rg.t 3 15 ?_
        (refine Rg.o 4 (fun K hK => ?_); go_simp)
        refine (unhide KC _).mono ?_
        rintro e w1 ⟨rfl, hw1⟩
        subst hw1
        refine hK.out _ _ (by first | exact c0 | exact hHeld) (fun hHeld => ?_)
        clear hK
        (try simp only [Act.put, List.setIfInBounds_toArray, List.set_cons_zero, List.set_cons_succ])
        refine Rg.t 5 17 ?_
        refine Rg.t 6 18 ?_
        refine Rg.t 7 19 ?_
        refine Rg.t 8 20 ?_
        refine Rg.t 9 21 ?_
        refine Rg.t 10 22 ?_
        refine Rg.t 11 23 ?_
        refine Rg.t 12 24 ?_
        refine Rg.t 13 25 ?_
        refine Rg.t 14 26 ?_
        refine Rg.t 15 27 ?_
        refine Rg.t 16 28 ?_
        refine Rg.t 17 29 ?_
        refine Rg.t 18 30 ?_
        refine Rg.t 19 31 ?_
        refine Rg.t 20 32 ?_
        refine Rg.t 21 33 ?_
        refine wpAnyH_done (by kernel_rfl) (NoPanic.normal ?_) _
        clear hHeld
        go_wp2_with fail
        go_ret
        exact ⟨ret_bool (by rw [unhide E, unhide EB]; simp), (unhide HBL).drew⟩
    · obtain rfl : j = C := by omega
      have EA := hide (allI_yes (unhide hall))
      have HBL : Hid (Below w.heap.size w wr) := hide (by obtain ⟨q, rfl⟩ := unhide hwd; exact belN w q)
      have HEE : Hid (((j : Int) == (N2 : Int)) = (j == N2)) := hide (by rw [Bool.eq_iff_iff]; simp; omega)
      go_wp2_with fail
      go_ret
      exact ⟨ret_bool (by rw [unhide E, unhide EA, Bool.and_true]; first | exact unhide HEE | (rw [← unhide HEE]; simp)), unhide HBL⟩
set_option maxHeartbeats 8000000 in
theorem areCosts (a : Option Addr) (cs : List Int) (cap n : Nat) (w : World) (hm : cs.length ≤ 1048576) (h1 : 1 ≤ n) (h6 : n ≤ 6) (hr : In.RM w a cs) :
    Calls Tryz.prog 90 #[.slice a cs.length cap, .int .i64 n] w fun e w' => e = .returned (.bool (costB cs n)) ∧ Below w.heap.size w w' := by
  have HR := hide hr
  clear hr
  have E : Hid (costB cs n = (cs.length == n * n && allI cs.length (cok cs n))) := hide rfl
  have HDG := hide (fun i (hi : i < n * n) => diag h1 h6 hi)
  obtain ⟨N2, hN2⟩ : ∃ N2 : Nat, n * n = N2 := ⟨_, rfl⟩
  have hmul : (n : Int) * (n : Int) = (N2 : Int) := by rw [← hN2]; simp
  have hle : N2 ≤ 36 := by rw [← hN2]; exact Nat.mul_le_mul h6 h6
  rw [hN2] at E HDG
  clear hN2
  obtain ⟨C, hC⟩ : ∃ C, cs.length = C := ⟨_, rfl⟩
  rw [hC] at hm E ⊢
  have HC := hide hC
  clear hC
  have hn1 : (1 : Int) ≤ (n : Int) := by omega
  have hn6 : (n : Int) ≤ 6 := by omega
  cases hcn : ((C : Int) != (N2 : Int))
  rotate_left
  · go_enter Tryz.func90, Tryz.ntmps90
    go_wp2_with fail
    go_ret
    exact ⟨ret_bool (by rw [unhide E]; have : (C == N2) = false := (by simp at hcn ⊢; omega); rw [this]; rfl), Below.refl _ _⟩
  have hCN : C = N2 := by simp at hcn; omega
  have HCN := hide hCN
  have E2 : Hid (costB cs n = allI C (cok cs n)) := hide (by rw [unhide E, hCN]; simp)
  have HDG2 := hide (fun i (hi : i < C) => unhide HDG i (by omega))
  clear HDG E hCN
  go_enter Tryz.func90, Tryz.ntmps90
  go_wp2_with fail
  go_loop [15] (fun i => ∃ j : Nat, j ≤ C ∧ i = .int .i64 j ∧ Hid (∀ i, i < j → cok cs n i = true)) (fun i => C - (intOf i).toNat)
  case atStart => exact ⟨0, by omega, rfl, hide (fun i hi => absurd hi (Nat.not_lt_zero i))⟩
  case round =>
    obtain ⟨j, hj, rfl, hall⟩ := hrel
    by_cases hlt : (j : Int) < (C : Int)
    · have k0 : (0 : Int) ≤ (j : Int) := by omega
      have hlen : j < cs.length := by rw [unhide HC]; omega
      rcases unhide HR with e0 | ⟨g, off, rfl, hc⟩
      · exfalso; rw [e0] at hlen; simp at hlen
      have c0 := hc j hlen
      clear hc
      have HCK : Hid (cok cs n j = (inB (cs.getD j 0) 0 256 && (!(decide (j / n = j % n)) || cs.getD j 0 == 0))) := hide rfl
      have HDJ := hide (unhide HDG2 j (by omega))
      generalize cs.getD j 0 = x at *
      have hr : (j : Int) % ((n : Int) + 1) = ((j % (n + 1) : Nat) : Int) := by simp
      have hr2 : (j : Int).tmod ((n : Int) + 1) = ((j % (n + 1) : Nat) : Int) := by rw [Int.tmod_eq_emod_of_nonneg (by omega)]; simp
      have HE : Hid ((((j % (n + 1) : Nat) : Int) == 0) = decide (j / n = j % n)) := hide (by rw [Bool.eq_iff_iff]; have := unhide HDJ; simp; omega)
      have hrb : ((j % (n + 1) : Nat) : Int) ≤ 7 := by have := Nat.mod_lt j (show 0 < n + 1 by omega); omega
      have hn1p : ¬ ((n : Int) + 1 = 0) := by omega
      generalize j % (n + 1) = Rn at *
      have HNO := hide (fun h => allI_no (p := cok cs n) hlen h)
      have HUP := hide (fun h => up_to (p := cok cs n) (unhide hall) h)
      rw [unhide HC] at HNO
      have KC := hide (fun W => isCost x W)
      clear hlen
      cases hin : inB x 0 256
      · have EB := hide (unhide HNO (by rw [unhide HCK, hin]; rfl))
        rw [hin] at KC
        clear hin HNO HUP
        go_wp2_with (go_at_call 51; refine (unhide KC _).mono ?_; rintro e w_ ⟨rfl, rfl⟩)
        go_ret
        exact ⟨ret_bool (by rw [unhide E2, unhide EB]), Below.refl _ _⟩
      rw [hin] at KC
      have HIN := hide hin
      clear hin
      cases hd : ((Rn : Int) == 0)
      · have OK := hide (unhide HUP (by rw [unhide HCK, unhide HIN, ← unhide HE, hd]; rfl))
        clear HNO HUP
        go_wp2_with (go_at_call 51; refine (unhide KC _).mono ?_; rintro e w_ ⟨rfl, rfl⟩)
        go_round
        case rel => exact ⟨j + 1, by omega, by go_num, OK⟩
        case measure => simp [intOf]; omega
      cases hx : (x != 0)
      · have OK := hide (unhide HUP (by rw [unhide HCK, unhide HIN]; have : (x == 0) = true := (by simpa using hx); rw [this]; simp))
        clear HNO HUP
        go_wp2_with (go_at_call 51; refine (unhide KC _).mono ?_; rintro e w_ ⟨rfl, rfl⟩)
        go_round
        case rel => exact ⟨j + 1, by omega, by go_num, OK⟩
        case measure => simp [intOf]; omega
      · have EB := hide (unhide HNO (by rw [unhide HCK, unhide HIN, ← unhide HE, hd]; have : (x == 0) = false := (by simpa using hx); rw [this]; rfl))
        clear HNO HUP
        go_wp2_with (go_at_call 51; refine (unhide KC _).mono ?_; rintro e w_ ⟨rfl, rfl⟩)
        go_ret
        exact ⟨ret_bool (by rw [unhide E2, unhide EB]), Below.refl _ _⟩
    · obtain rfl : j = C := by omega
      have EA := hide (allI_yes (unhide hall))
      go_wp2_with fail
      go_ret
      exact ⟨ret_bool (by rw [unhide E2, unhide EA]), Below.refl _ _⟩
end Nt
end Go.Proofs.YtfooahhdikobeaaGreat
namespace Go.Proofs.YtfooahhdikobeaaGreat
open Go.ChangeShapes Go.WideShapes Go.ChangeAt Go.RowKit
set_option linter.unusedVariables false
set_option linter.unusedSimpArgs false
attribute [local go_sem ↓] Go.wp_at_zero Go.wp_at_succ
namespace In
open W1
set_option maxRecDepth 100000 in
set_option maxHeartbeats 2000000 in
theorem toS (a : Option Addr) (zs : List Int) (cap : Nat) (w : World) (hm : zs.length ≤ 1048576) (hr : RM w a zs) :
    Calls Tryz.prog 47 #[.slice a zs.length cap] w fun e w' => ∃ g, e = .returned (.slice (some ⟨g, 0, none⟩) zs.length zs.length) ∧ Below w.heap.size w w' ∧ w.heap.size ≤ g ∧ g < w'.heap.size ∧ Upto w' g zs.length zs.length zs := by
  obtain ⟨i0, hi, hz0, hz1, hz2⟩ := infoI
  have hmk := run_make (P := Tryz.prog) w 23 3 i0 _ Tryz.underlying23 hi hz0 .i64 .i64 (zs.length : Int) (zs.length : Int) (by omega) (by omega) (by rw [hz2]; omega) (by omega)
  have HR := hide hr
  clear hr
  generalize hN : zs.length = n at *
  have HN := hide hN
  clear hN
  rw [Int.toNat_natCast, hz1] at hmk
  have hcs : (madeCells (Value.int .i64 0).cells (n * 1)).size = n * 1 := size_madeCells _ _
  generalize madeCells (Value.int .i64 0).cells (n * 1) = cs at *
  have hup0 : Upto (w.alloc (.cells cs 3)) w.heap.size n 0 zs := by
    refine ⟨fun i hi => by omega, fun i hi => ⟨?_, by simp⟩⟩
    rw [World.cell?_alloc_new, Array.getElem?_eq_getElem (by omega)]; rfl
  have HU := hide hup0
  clear hup0 hcs hi hz0 hz1 hz2
  go_enter Tryz.func47, Tryz.ntmps47
  go_wp2
  go_loopw [4] (fun i wr => ∃ j : Nat, j ≤ n ∧ i = .int .i64 j ∧ Hid (w.heap.size < wr.heap.size) ∧ Hid (Below w.heap.size w wr) ∧ Hid (Upto wr w.heap.size n j zs)) (fun i _ => n - (intOf i).toNat)
  case atStart => exact ⟨0, by omega, rfl, hide (by simp), hide ((Below.refl _ _).alloc (Nat.le_refl _) _), HU⟩
  case round =>
    obtain ⟨j, hj, rfl, hsz, hb, hu⟩ := hrel
    by_cases hlt : (j : Int) < (n : Int)
    · have k0 : (0 : Int) ≤ (j : Int) := by omega
      have hlen : j < zs.length := by rw [unhide HN]; omega
      rcases (unhide HR).below (unhide hb) with e0 | ⟨g, off, rfl, hc⟩
      · exfalso; rw [e0] at hlen; simp at hlen
      have c0 := hc j hlen
      clear hc
      have HST := hide ((unhide hu).step (by omega))
      obtain ⟨⟨v0, x0⟩, y0⟩ : (∃ v0, wr.cell? ⟨w.heap.size, j, none⟩ = some v0) ∧ wr.frozen? ⟨w.heap.size, j, none⟩ = false := ⟨Option.isSome_iff_exists.1 ((unhide hu).2 j (by omega)).1, ((unhide hu).2 j (by omega)).2⟩
      generalize zs.getD j 0 = y at *
      have HB1 := hide ((unhide hb).setCell (p := ⟨w.heap.size, j, none⟩) (Nat.le_refl _) (.int .i64 y))
      have HS1 : Hid (w.heap.size < (wr.setCell ⟨w.heap.size, j, none⟩ (.int .i64 y)).heap.size) := hide (by simp [World.setCell]; exact unhide hsz)
      go_wp2_with fail
      go_roundw
      case rel => exact ⟨j + 1, by omega, by go_num, HS1, HB1, HST⟩
      case measure => simp [intOf]; omega
    · obtain rfl : j = n := by omega
      go_wp2
      go_ret
      exact ⟨w.heap.size, rfl, unhide hb, Nat.le_refl _, unhide hsz, unhide hu⟩
theorem open_list {H : Type} {enc : TypeId × Value → H} {W : World} {a : Option Addr} {len cap : Nat} {d : DataW H} {p : List MemPlace}
    (h : DataW.Trod enc Tryz.prog W 0 (fun _ => true) true 23 (.slice a len cap) d p) : ∃ zs : List Int, zs.length = len ∧ len ≤ maxLen ∧ RM W a zs := by
  obtain ⟨fuel, hf⟩ := h
  rcases open_ints Tryz.underlying23 Tryz.underlying3 (by kernel_rfl) hf with ⟨hcs, _⟩ | ⟨x, l, c, zs, hcs, _, hl, hm, hlen, _, hc, _⟩
  · simp [Value.cells] at hcs
    obtain ⟨rfl, rfl, rfl⟩ := hcs
    exact ⟨[], rfl, Nat.zero_le _, .inl rfl⟩
  · simp [Value.cells] at hcs
    obtain ⟨rfl, rfl, rfl⟩ := hcs
    rw [if_pos rfl] at hlen
    by_cases h0 : len = 0
    · subst h0; exact ⟨[], rfl, Nat.zero_le _, .inl rfl⟩
    obtain ⟨b, off, spot⟩ := x
    have hsp : spot = none := by
      have h2 := hc 0 (by omega)
      simpa [Addr.add] using World.cell?_spot h2
    subst hsp
    refine ⟨zs.take len, by rw [List.length_take]; omega, by omega, .inr ⟨b, off, rfl, fun i hi => ?_⟩⟩
    have hil : i < len ∧ i < zs.length := by simp at hi; omega
    have h2 := hc i hil.2
    rw [plain_add] at h2
    rw [List.getD_eq_getElem?_getD, List.getElem?_take_of_lt hil.1, ← List.getD_eq_getElem?_getD]; exact h2
end In
end Go.Proofs.YtfooahhdikobeaaGreat
namespace Go.Proofs.YtfooahhdikobeaaGreat
open Go.ChangeShapes Go.WideShapes Go.ChangeAt Go.RowKit
set_option linter.unusedVariables false
set_option linter.unusedSimpArgs false
set_option maxRecDepth 100000
attribute [local go_sem ↓] Go.wp_at_zero Go.wp_at_succ
namespace Nt
open W1 Rt
/-- The first j routers stand at the head of block g, whose n times 13 cells may be written. -/
def UpN (w : World) (g n j : Nat) (ms : List Rm) (qs : List Pl) : Prop := (∀ i, i < j → w.rangeAt g (i * 13) (cl (ms.getD i Rm.zero) (qs.getD i Pl.zero))) ∧ w.there g 0 (n * 13)
/-- Their lists lie one router's behind the other's between two bounds. -/
def OwN (w : World) (lo hi j : Nat) (ms : List Rm) (qs : List Pl) : Prop := ∃ f : Nat → Nat, lo ≤ f 0 ∧ (∀ i, i < j → f i ≤ f (i + 1)) ∧ f j ≤ hi ∧ ∀ i, i < j → Ow w (f i) (f (i + 1)) (ms.getD i Rm.zero) (qs.getD i Pl.zero)
theorem Ow.mono {w : World} {lo hi lo' hi' : Nat} {m : Rm} {p : Pl} (h : Ow w lo hi m p) (h1 : lo' ≤ lo) (h2 : hi ≤ hi') : Ow w lo' hi' m p := by
  obtain ⟨b1, b2, b3, b4, b5, b6, ⟨o0, o1, o2, o3, o4, o5, o6⟩, u1, u2, u3, u4, u5, u6, u7⟩ := h
  exact ⟨b1, b2, b3, b4, b5, b6, ⟨by omega, o1, o2, o3, o4, o5, by omega⟩, u1.mono h1 (Nat.le_refl _), u2, u3, u4, u5, u6, u7.mono (Nat.le_refl _) h2⟩
theorem there_part {w : World} {g n o k : Nat} (h : w.there g 0 n) (hk : o + k ≤ n) : w.there g o k := fun j hj => by have := h (o + j) (by omega); rwa [Nat.zero_add] at this
theorem there_under {w w' : World} {B g o n : Nat} (h : w.there g o n) (hb : Below B w w') (hg : g < B) : w'.there g o n := fun j hj => ⟨by rw [hb.cell (p := ⟨g, o + j, none⟩) hg]; exact (h j hj).1, by rw [hb.frozen (p := ⟨g, o + j, none⟩) hg]; exact (h j hj).2⟩
theorem UpN.under {w w' : World} {B g n j : Nat} {ms : List Rm} {qs : List Pl} (h : UpN w g n j ms qs) (hb : Below B w w') (hg : g < B) : UpN w' g n j ms qs := ⟨fun i hi => rng_under (h.1 i hi) hb hg, there_under h.2 hb hg⟩
theorem getD_snoc_lt {α : Type} (z : α) (l : List α) (x : α) {i : Nat} (h : i < l.length) : (l ++ [x]).getD i z = l.getD i z := by
  rw [List.getD_eq_getElem?_getD, List.getD_eq_getElem?_getD, List.getElem?_append_left h]
theorem getD_snoc_eq {α : Type} (z : α) (l : List α) (x : α) {i : Nat} (h : i = l.length) : (l ++ [x]).getD i z = x := by
  subst h; simp
theorem UpN.step {w : World} {g n j : Nat} {ms : List Rm} {qs : List Pl} (h : UpN w g n j ms qs) (hl : qs.length = j) (hj : j < n) (q : Pl) : UpN (w.setCells g (j * 13) (cl (ms.getD j Rm.zero) q)) g n (j + 1) ms (qs ++ [q]) := by
  refine ⟨fun i hi => ?_, World.there_setCells h.2 _ _ _⟩
  by_cases e : i = j
  · subst e
    rw [getD_snoc_eq _ _ _ hl.symm]
    exact World.rangeAt_setCells_same _ _ _ _ (there_part h.2 (by rw [cl_len]; omega))
  · rw [getD_snoc_lt _ _ _ (by omega)]
    exact World.rangeAt_setCells_apart (h.1 i (by omega)) _ _ _ (.inr (.inl (by rw [cl_len]; omega)))
theorem OwN.but {w w' : World} {lo hi j Lo Hi : Nat} {ms : List Rm} {qs : List Pl} (h : OwN w lo hi j ms qs) (hs : w.heap.size ≤ w'.heap.size) (hb : ∀ k, k < w.heap.size → (k < Lo ∨ Hi ≤ k) → w'.heap[k]? = w.heap[k]?) (hd : hi ≤ Lo ∨ Hi ≤ lo) : OwN w' lo hi j ms qs := by
  obtain ⟨f, f0, f1, f2, f3⟩ := h
  have up : ∀ i k, i + k ≤ j → f i ≤ f (i + k) := fun i k => by
    induction k with
    | zero => intro _; exact Nat.le_refl _
    | succ k ih => intro hk; exact Nat.le_trans (ih (by omega)) (f1 (i + k) (by omega))
  refine ⟨f, f0, f1, f2, fun i hi => (f3 i hi).but hs hb ?_⟩
  have e0 := up 0 i (by omega)
  have e1 := up (i + 1) (j - (i + 1)) (by omega)
  rw [Nat.zero_add] at e0
  rw [show i + 1 + (j - (i + 1)) = j by omega] at e1
  omega
theorem OwN.below {w w' : World} {lo hi j : Nat} {ms : List Rm} {qs : List Pl} (h : OwN w lo hi j ms qs) (hb : Below w.heap.size w w') : OwN w' lo hi j ms qs := by
  obtain ⟨f, f0, f1, f2, f3⟩ := h
  exact ⟨f, f0, f1, f2, fun i hi => (f3 i hi).below hb⟩
theorem OwN.step {w w' : World} {lo hi hi' j : Nat} {ms : List Rm} {qs : List Pl} (h : OwN w lo hi j ms qs) (hb : Below w.heap.size w w') (hl : qs.length = j) {q : Pl} (ho : Ow w' hi hi' (ms.getD j Rm.zero) q) (hh : hi ≤ hi') : OwN w' lo hi' (j + 1) ms (qs ++ [q]) := by
  obtain ⟨f, f0, f1, f2, f3⟩ := h
  refine ⟨fun i => if i ≤ j then f i else hi', by simpa using f0, fun i hi => ?_, by simp only [show ¬ j + 1 ≤ j by omega, if_false]; exact Nat.le_refl _, fun i hi => ?_⟩
  · by_cases e : i < j
    · simp only [show i ≤ j by omega, show i + 1 ≤ j by omega, if_true]; exact f1 i e
    · obtain rfl : i = j := by omega
      simp only [Nat.le_refl, if_true, show ¬ i + 1 ≤ i by omega, if_false]; omega
  · by_cases e : i < j
    · simp only [show i ≤ j by omega, show i + 1 ≤ j by omega, if_true]
      rw [getD_snoc_lt _ _ _ (by omega)]; exact (f3 i e).below hb
    · obtain rfl : i = j := by omega
      simp only [Nat.le_refl, if_true, show ¬ i + 1 ≤ i by omega, if_false]
      rw [getD_snoc_eq _ _ _ hl.symm]; exact ho.mono f2 (Nat.le_refl _)
theorem OwN.rd {w : World} {lo hi j : Nat} {ms : List Rm} {qs : List Pl} (h : OwN w lo hi j ms qs) {i : Nat} (hi : i < j) : Rd w (ms.getD i Rm.zero) (qs.getD i Pl.zero) := by
  obtain ⟨f, f0, f1, f2, f3⟩ := h
  exact (f3 i hi).rd
theorem nr_of {w : World} {g lo hi n : Nat} {ms : List Rm} {qs : List Pl} (hn : ms.length = n) (h : UpN w g n n ms qs) (ho : OwN w lo hi n ms qs) : NR w (some ⟨g, 0, none⟩) ms qs := .inr ⟨g, 0, rfl, fun i hi => ⟨by rw [Nat.zero_add]; exact h.1 i (by omega), ho.rd (by omega)⟩⟩
theorem infoZ : ∃ i, Tryz.prog.info? 83 = some i ∧ i.zero = some (Value.agg #[.int .i64 0, .int .i64 0, .int .i64 0, .int .i64 0, .int .i64 0, .slice none 0 0, .slice none 0 0, .slice none 0 0, .slice none 0 0, .slice none 0 0, .slice none 0 0, .slice none 0 0, .int .i64 0]) ∧ i.size = 13 ∧ i.bytes = 216 := by
  have h : (Tryz.prog.info? 83).map (fun i => (i.zero, i.size, i.bytes)) = some (some (Value.agg #[.int .i64 0, .int .i64 0, .int .i64 0, .int .i64 0, .int .i64 0, .slice none 0 0, .slice none 0 0, .slice none 0 0, .slice none 0 0, .slice none 0 0, .slice none 0 0, .slice none 0 0, .int .i64 0]), 13, 216) := by kernel_rfl
  obtain ⟨i, hi, he⟩ := Option.map_eq_some_iff.1 h
  simp only [Prod.mk.injEq] at he
  exact ⟨i, hi, he.1, he.2.1, he.2.2⟩
/-- A router written whole into a row. -/
theorem storeN {ops : Array Oper} {rest : List Oper} {op : Oper} {a : Act} {w : World} {Q : Exit → Act → World → Prop} (x y : Operand) (hgd : op.guard = none) (ho : op.op = .store 83 x y) {b o : Nat} {m : Rm} {p : Pl} (ht : w.there b o 13) (hx : a.eval x = .pointer (some ⟨b, o, none⟩)) (hy : a.eval y = .agg (cl m p).toArray)
    (hk : ∀ w', w' = w.setCells b o (cl m p) → wpList Tryz.prog ops Q rest (a.put op.dst undef) w') : wpList Tryz.prog ops Q (op :: rest) a w :=
  wpList_store_mid hgd 83 x y ho b o (cl m p).toArray hx hy ht infoR.2.2 (all_oneCell_toArray (cl_ones m p).2) (hk _ rfl)
set_option maxHeartbeats 8000000 in
theorem toNS (a : Option Addr) (ms : List Rm) (ps : List Pl) (cap : Nat) (w : World) (hm : ms.length ≤ 1048576) (hs : ∀ i, i < ms.length → Sm (ms.getD i Rm.zero)) (hr : NR w a ms ps) :
    Calls Tryz.prog 46 #[.slice a ms.length cap] w fun e w' => e = .returned (.slice (some ⟨w.heap.size, 0, none⟩) ms.length ms.length) ∧ Below w.heap.size w w' ∧ w.heap.size < w'.heap.size ∧ ∃ qs : List Pl, qs.length = ms.length ∧ (∀ i, i < ms.length → Ad (qs.getD i Pl.zero)) ∧ UpN w' w.heap.size ms.length ms.length ms qs ∧ OwN w' (w.heap.size + 1) w'.heap.size ms.length ms qs := by
  obtain ⟨i0, hi, hz0, hz1, hz2⟩ := infoZ
  have hmk := run_make (P := Tryz.prog) w 28 83 i0 _ Tryz.underlying28 hi hz0 .i64 .i64 (ms.length : Int) (ms.length : Int) (by omega) (by omega) (by rw [hz2]; omega) (by omega)
  have HR := hide hr
  have HS := hide hs
  clear hr hs
  generalize hN : ms.length = n at *
  have HN := hide hN
  clear hN
  rw [Int.toNat_natCast, hz1] at hmk
  have hcs : (madeCells (Value.agg #[.int .i64 0, .int .i64 0, .int .i64 0, .int .i64 0, .int .i64 0, .slice none 0 0, .slice none 0 0, .slice none 0 0, .slice none 0 0, .slice none 0 0, .slice none 0 0, .slice none 0 0, .int .i64 0]).cells (n * 13)).size = n * 13 := size_madeCells _ _
  generalize madeCells (Value.agg #[.int .i64 0, .int .i64 0, .int .i64 0, .int .i64 0, .int .i64 0, .slice none 0 0, .slice none 0 0, .slice none 0 0, .slice none 0 0, .slice none 0 0, .slice none 0 0, .slice none 0 0, .int .i64 0]).cells (n * 13) = cs at *
  have hup0 : UpN (w.alloc (.cells cs 83)) w.heap.size n 0 ms [] := by
    refine ⟨fun i hi => by omega, fun i hi => ⟨?_, by simp⟩⟩
    rw [World.cell?_alloc_new, Array.getElem?_eq_getElem (by omega)]; rfl
  have HU := hide hup0
  clear hup0 hcs hi hz0 hz1 hz2
  go_enter Tryz.func46, Tryz.ntmps46
  go_wp2
  go_loopw [4] (fun i wr => ∃ j : Nat, j ≤ n ∧ i = .int .i64 j ∧ ∃ qs : List Pl, qs.length = j ∧ Hid (∀ i, i < j → Ad (qs.getD i Pl.zero)) ∧ Hid (w.heap.size < wr.heap.size) ∧ Hid (Below w.heap.size w wr) ∧ Hid (UpN wr w.heap.size n j ms qs) ∧ Hid (OwN wr (w.heap.size + 1) wr.heap.size j ms qs)) (fun i _ => n - (intOf i).toNat)
  case atStart => exact ⟨0, by omega, rfl, [], rfl, hide (fun i hi => absurd hi (Nat.not_lt_zero i)), hide (by simp), hide ((Below.refl _ _).alloc (Nat.le_refl _) _), HU, hide ⟨fun _ => w.heap.size + 1, Nat.le_refl _, fun _ _ => Nat.le_refl _, by simp, fun i hi => absurd hi (Nat.not_lt_zero i)⟩⟩
  case round =>
    obtain ⟨j, hj, rfl, qs, hql, HAD, hsz, hb, hu, how⟩ := hrel
    have HQL := hide hql
    clear hql
    by_cases hlt : (j : Int) < (n : Int)
    · have k0 : (0 : Int) ≤ (j : Int) := by omega
      have hlen : j < ms.length := by rw [unhide HN]; omega
      obtain ⟨g, off, rfl, hA, hD⟩ := ((unhide HR).below (unhide hb)).at hlen
      have HA := hide hA
      have HD := hide hD
      have HX := hide ((unhide HS) j (by omega))
      have HST := hide (fun w1 (b1 : Below wr.heap.size wr w1) q => ((unhide hu).under b1 (unhide hsz)).step (unhide HQL) (by omega) q)
      have HSO := hide (fun w1 (b1 : Below wr.heap.size wr w1) q (h : Ow w1 wr.heap.size w1.heap.size (ms.getD j Rm.zero) q) => (unhide how).step b1 (unhide HQL) h b1.size)
      have HTH := hide (fun w1 (b1 : Below wr.heap.size wr w1) => there_part (o := j * 13) (k := 13) ((unhide hu).under b1 (unhide hsz)).2 (by omega))
      clear hlen hA hD
      generalize ms.getD j Rm.zero = m at *
      generalize ps.getD j Pl.zero = p at *
      go_wp2_with (refine loadW _ rfl rfl (unhide HA) rfl ?_)
      refine (toN m p _ (unhide HX) (unhide HD)).mono ?_
      rintro e w1 ⟨q, rfl, b1, ho, hadq⟩
      have HAD1 : Hid (∀ i, i < j + 1 → Ad ((qs ++ [q]).getD i Pl.zero)) := hide (fun i hi => by
        by_cases e : i = j
        · rw [getD_snoc_eq _ _ _ (by rw [unhide HQL]; exact e)]; exact hadq
        · rw [getD_snoc_lt _ _ _ (by rw [unhide HQL]; omega)]; exact unhide HAD i (by omega))
      clear hadq
      have HT1 := hide (unhide HTH w1 b1)
      have HU1 := hide (unhide HST w1 b1 q)
      have HO1 := hide ((unhide HSO w1 b1 q ho).but (w' := w1.setCells w.heap.size (j * 13) (cl m q)) (Lo := w.heap.size) (Hi := w.heap.size + 1) (Nat.le_of_eq (size_cells _ _ _).symm) (fun k hk h => heap_cells (by omega) _ _ _) (.inr (Nat.le_refl _)))
      have HB1 := hide (below_cells (b := w.heap.size) (Nat.le_refl _) (cl m q) (j * 13) w1 ((unhide hb).trans (b1.mono (unhide hb).size)))
      have hsz1 := hide (Nat.lt_of_lt_of_le (unhide hsz) b1.size)
      clear HA HD HX HST HSO HTH b1 ho
      go_wp2_with (refine storeN (m := m) (p := q) _ _ rfl rfl (unhide HT1) rfl rfl ?_; intro w2 hw2; have HW2 := hide hw2; clear hw2)
      go_roundw
      case rel => exact ⟨j + 1, by omega, by go_num, qs ++ [q], by rw [List.length_append, unhide HQL]; rfl, HAD1, hide (by rw [unhide HW2, size_cells]; exact unhide hsz1), hide (by rw [unhide HW2]; exact unhide HB1), hide (by rw [unhide HW2]; exact unhide HU1), hide (by rw [unhide HW2, size_cells]; exact unhide HO1)⟩
      case measure => simp [intOf]; omega
    · obtain rfl : j = n := by omega
      go_wp2
      go_ret
      exact ⟨rfl, unhide hb, unhide hsz, qs, unhide HQL, unhide HAD, unhide hu, unhide how⟩
end Nt
end Go.Proofs.YtfooahhdikobeaaGreat
namespace Go.Proofs.YtfooahhdikobeaaGreat
open Go.ChangeShapes Go.WideShapes Go.ChangeAt Go.RowKit
set_option linter.unusedVariables false
set_option linter.unusedSimpArgs false
set_option maxRecDepth 100000
attribute [local go_sem ↓] Go.wp_at_zero Go.wp_at_succ
namespace Nt
open W1 Rt
theorem NB.other {w : World} {b : Nat} {v1 v2 v3 : Value} {t : Int} (h : NB w b v1 v2 v3 t) {p : Addr} (hne : b ≠ p.block) (v : Value) : NB (w.setCell p v) b v1 v2 v3 t := by
  have hb : (w.setCell p v).heap[b]? = w.heap[b]? := Below.heap_setCell _ _ _ _ hne
  obtain ⟨h0, h1, h2, h3⟩ := h
  exact ⟨(World.cell?_of_block (a := ⟨b, 0, none⟩) hb).trans h0, (World.cell?_of_block (a := ⟨b, 1, none⟩) hb).trans h1, (World.cell?_of_block (a := ⟨b, 2, none⟩) hb).trans h2, (World.cell?_of_block (a := ⟨b, 3, none⟩) hb).trans h3⟩
theorem NB.but {w w' : World} {b : Nat} {v1 v2 v3 : Value} {t : Int} (h : NB w b v1 v2 v3 t) (hb : w'.heap[b]? = w.heap[b]?) : NB w' b v1 v2 v3 t := by
  obtain ⟨h0, h1, h2, h3⟩ := h
  exact ⟨(World.cell?_of_block (a := ⟨b, 0, none⟩) hb).trans h0, (World.cell?_of_block (a := ⟨b, 1, none⟩) hb).trans h1, (World.cell?_of_block (a := ⟨b, 2, none⟩) hb).trans h2, (World.cell?_of_block (a := ⟨b, 3, none⟩) hb).trans h3⟩
theorem set_same {w : World} {b k : Nat} {u v : Value} (h : w.cell? ⟨b, k, none⟩ = some u) : (w.setCell ⟨b, k, none⟩ v).cell? ⟨b, k, none⟩ = some v := World.cell?_setCell_same _ _ _ h
theorem set_else {w : World} {b k j : Nat} {v : Value} (h : j ≠ k) : (w.setCell ⟨b, k, none⟩ v).cell? ⟨b, j, none⟩ = w.cell? ⟨b, j, none⟩ := World.cell?_setCell_other _ _ _ _ (by intro e; injection e with _ e2 _; exact h e2.symm)
theorem NB.set0 {w : World} {b : Nat} {v1 v2 v3 : Value} {t : Int} (h : NB w b v1 v2 v3 t) (v : Value) : NB (w.setCell ⟨b, 0, none⟩ v) b v v2 v3 t := ⟨set_same h.1, (set_else (by decide)).trans h.2.1, (set_else (by decide)).trans h.2.2.1, (set_else (by decide)).trans h.2.2.2⟩
theorem NB.set1 {w : World} {b : Nat} {v1 v2 v3 : Value} {t : Int} (h : NB w b v1 v2 v3 t) (v : Value) : NB (w.setCell ⟨b, 1, none⟩ v) b v1 v v3 t := ⟨(set_else (by decide)).trans h.1, set_same h.2.1, (set_else (by decide)).trans h.2.2.1, (set_else (by decide)).trans h.2.2.2⟩
theorem NB.set2 {w : World} {b : Nat} {v1 v2 v3 : Value} {t : Int} (h : NB w b v1 v2 v3 t) (v : Value) : NB (w.setCell ⟨b, 2, none⟩ v) b v1 v2 v t := ⟨(set_else (by decide)).trans h.1, (set_else (by decide)).trans h.2.1, set_same h.2.2.1, (set_else (by decide)).trans h.2.2.2⟩
theorem NB.set3 {w : World} {b : Nat} {v1 v2 v3 : Value} {t : Int} (h : NB w b v1 v2 v3 t) (x : Int) : NB (w.setCell ⟨b, 3, none⟩ (.int .i64 x)) b v1 v2 v3 x := ⟨(set_else (by decide)).trans h.1, (set_else (by decide)).trans h.2.1, (set_else (by decide)).trans h.2.2.1, set_same h.2.2.2⟩
theorem there_new4 (w : World) (v1 v2 v3 v4 : Value) (ty : Nat) : (w.alloc (.cells #[v1, v2, v3, v4] ty)).there w.heap.size 0 4 := fun j hj => by
  refine ⟨?_, by simp⟩
  rw [Nat.zero_add, World.cell?_alloc_new, Array.getElem?_eq_getElem (by simpa using hj)]; rfl
theorem free_at {w : World} {b k : Nat} (h : w.there b 0 4) (hk : k < 4) : w.frozen? ⟨b, k, none⟩ = false := by have := (h k hk).2; rwa [Nat.zero_add] at this
theorem there_at {w : World} {b n : Nat} {p : Addr} {v : Value} (h : w.there b 0 n) : (w.setCell p v).there b 0 n := fun j hj => by
  refine ⟨?_, by rw [World.frozen?_setCell]; exact (h j hj).2⟩
  obtain ⟨u, hu⟩ := Option.isSome_iff_exists.1 (h j hj).1
  obtain ⟨u', hu'⟩ := cell?_setCell_some (p := p) (x := v) hu
  rw [hu']; rfl
/-- A copy of a net: its row, its lists, in memory of one's own between two bounds. -/
def OwT (W : World) (lo hi g1 g2 g3 : Nat) (ms : List Rm) (qs : List Pl) (cs : List Int) (fs : List Fm.R) : Prop :=
  ∃ p, lo ≤ g1 ∧ g1 < p ∧ p ≤ g2 ∧ g2 < g3 ∧ g3 < hi ∧ hi ≤ W.heap.size ∧ (qs.length = ms.length ∧ ∀ i, i < ms.length → Ad (qs.getD i Pl.zero)) ∧ UpN W g1 ms.length ms.length ms qs ∧ OwN W (g1 + 1) p ms.length ms qs ∧ In.Upto W g2 cs.length cs.length cs ∧ Fm.Upto W g3 fs.length fs.length fs
theorem OwT.nr {W : World} {lo hi g1 g2 g3 : Nat} {ms : List Rm} {qs : List Pl} {cs : List Int} {fs : List Fm.R} (h : OwT W lo hi g1 g2 g3 ms qs cs fs) : NR W (some ⟨g1, 0, none⟩) ms qs := by
  obtain ⟨p, _, _, _, _, _, _, _, h1, h2, _, _⟩ := h
  exact nr_of rfl h1 h2
theorem OwT.ad {W : World} {lo hi g1 g2 g3 : Nat} {ms : List Rm} {qs : List Pl} {cs : List Int} {fs : List Fm.R} (h : OwT W lo hi g1 g2 g3 ms qs cs fs) : ∀ i, i < ms.length → Ad (qs.getD i Pl.zero) := by
  obtain ⟨p, _, _, _, _, _, _, ⟨_, h0⟩, _⟩ := h
  exact h0
theorem OwT.ri {W : World} {lo hi g1 g2 g3 : Nat} {ms : List Rm} {qs : List Pl} {cs : List Int} {fs : List Fm.R} (h : OwT W lo hi g1 g2 g3 ms qs cs fs) : In.RM W (some ⟨g2, 0, none⟩) cs := by
  obtain ⟨p, _, _, _, _, _, _, _, _, _, h3, _⟩ := h
  exact In.rm_of h3
theorem OwT.rf {W : World} {lo hi g1 g2 g3 : Nat} {ms : List Rm} {qs : List Pl} {cs : List Int} {fs : List Fm.R} (h : OwT W lo hi g1 g2 g3 ms qs cs fs) : Fm.RM W (some ⟨g3, 0, none⟩) fs := by
  obtain ⟨p, _, _, _, _, _, _, _, _, _, _, h4⟩ := h
  exact Fm.rm_of h4
theorem OwT.below {W W' : World} {lo hi g1 g2 g3 : Nat} {ms : List Rm} {qs : List Pl} {cs : List Int} {fs : List Fm.R} (h : OwT W lo hi g1 g2 g3 ms qs cs fs) (hb : Below W.heap.size W W') : OwT W' lo hi g1 g2 g3 ms qs cs fs := by
  obtain ⟨p, e1, e2, e3, e4, e5, e6, e7, h1, h2, h3, h4⟩ := h
  exact ⟨p, e1, e2, e3, e4, e5, Nat.le_trans e6 hb.size, e7, h1.under hb (by omega), h2.below hb, h3.below hb (by omega), h4.below hb (by omega)⟩
theorem UpN.block {w w' : World} {g n j : Nat} {ms : List Rm} {qs : List Pl} (h : UpN w g n j ms qs) (hb : w'.heap[g]? = w.heap[g]?) : UpN w' g n j ms qs :=
  ⟨fun i hi j u hu => (World.cell?_of_block (a := ⟨g, i * 13 + j, none⟩) hb).trans (h.1 i hi j u hu), fun j hj => ⟨by rw [World.cell?_of_block (a := ⟨g, 0 + j, none⟩) hb]; exact (h.2 j hj).1, by rw [World.frozen?_of_block (a := ⟨g, 0 + j, none⟩) hb]; exact (h.2 j hj).2⟩⟩
theorem OwN.set {w : World} {lo hi j : Nat} {ms : List Rm} {qs : List Pl} (h : OwN w lo hi j ms qs) {p : Addr} {v : Value} (hp : p.block < lo ∨ hi ≤ p.block) : OwN (w.setCell p v) lo hi j ms qs :=
  h.but (Lo := p.block) (Hi := p.block + 1) (by simp [World.setCell]) (fun k _ hk => Below.heap_setCell _ _ _ _ (by omega)) (by omega)
theorem infoN : Tryz.prog.underlying 31 = some (Tryz.prog.underlying 31).get! ∧ ((Tryz.prog.underlying 31).get!).isRow = true ∧ (Tryz.prog.info? 31).map (·.size) = some 4 := ⟨by kernel_rfl, by kernel_rfl, by kernel_rfl⟩
theorem nb_range {w : World} {b : Nat} {v1 v2 v3 : Value} {t : Int} (h : NB w b v1 v2 v3 t) : w.rangeAt b 0 [v1, v2, v3, .int .i64 t] := fun j u hu => by
  obtain ⟨h0, h1, h2, h3⟩ := h
  rw [Nat.zero_add]
  match j, hu with
  | 0, hu => simp at hu; subst hu; exact h0
  | 1, hu => simp at hu; subst hu; exact h1
  | 2, hu => simp at hu; subst hu; exact h2
  | 3, hu => simp at hu; subst hu; exact h3
  | j + 4, hu => simp at hu
theorem range_nb {w : World} {b : Nat} {v1 v2 v3 : Value} {t : Int} (h : w.rangeAt b 0 [v1, v2, v3, .int .i64 t]) : NB w b v1 v2 v3 t := ⟨h 0 _ rfl, h 1 _ rfl, h 2 _ rfl, h 3 _ rfl⟩
/-- A net is written whole. -/
theorem storeNB {ops : Array Oper} {rest : List Oper} {op : Oper} {a : Act} {w : World} {Q : Exit → Act → World → Prop} (x y : Operand) (hgd : op.guard = none) (ho : op.op = .store 31 x y) {b : Nat} {v1 v2 v3 : Value} {t : Int} (h1 : v1.oneCell' = true) (h2 : v2.oneCell' = true) (h3 : v3.oneCell' = true) (ht : w.there b 0 4) (hx : a.eval x = .pointer (some ⟨b, 0, none⟩)) (hy : a.eval y = .agg #[v1, v2, v3, .int .i64 t])
    (hk : ∀ w', NB w' b v1 v2 v3 t → w'.there b 0 4 → (∀ B w0, Below B w0 w → B ≤ b → Below B w0 w') → w'.heap.size = w.heap.size → (∀ k, k ≠ b → w'.heap[k]? = w.heap[k]?) → wpList Tryz.prog ops Q rest (a.put op.dst undef) w') : wpList Tryz.prog ops Q (op :: rest) a w :=
  wpList_store_mid hgd 31 x y ho b 0 #[v1, v2, v3, .int .i64 t] hx hy ht infoN.2.2 (all_oneCell_toArray (cs := [v1, v2, v3, .int .i64 t]) (by intro v hv; simp only [List.mem_cons, List.not_mem_nil, or_false] at hv; rcases hv with rfl | rfl | rfl | rfl <;> first | rfl | assumption)) (hk _ (range_nb (World.rangeAt_setCells_same w b 0 _ ht)) (World.there_setCells ht _ _ _) (fun B w0 h hb => below_cells hb _ _ _ h) (size_cells _ _ _) (fun k hk => heap_cells hk _ _ _))
/-- A net handed back. -/
theorem resultsN {fn : Func} {p : Tmp} (h : fn.results = #[.cell p 31]) (tmps : Array Value) (w : World) {b : Nat} {v1 v2 v3 : Value} {t : Int} (hp : tmps.getD p undef = .pointer (some ⟨b, 0, none⟩)) (hg : NB w b v1 v2 v3 t) : (results fn tmps).run Tryz.prog w = .ok (.agg #[v1, v2, v3, .int .i64 t]) w := by
  have hp' : tmps[p]?.getD undef = .pointer (some ⟨b, 0, none⟩) := by simpa using hp
  simp only [results, h]
  simp [Sem.run_bind, hp', asAddr, run_loadVar_mid w b 0 31 [v1, v2, v3, .int .i64 t] _ (nb_range hg) infoN.1 infoN.2.1 infoN.2.2, Result.andThen]
set_option maxHeartbeats 16000000 in
theorem toNt (a b d : Option Addr) (ca cb cd : Nat) (t : Int) (ms : List Rm) (ps : List Pl) (cs : List Int) (fs : List Fm.R) (w : World) (hm : ms.length ≤ 1048576) (hc : cs.length ≤ 1048576) (hf : fs.length ≤ 1048576) (hs : ∀ i, i < ms.length → Sm (ms.getD i Rm.zero)) (hr : NR w a ms ps) (hi : In.RM w b cs) (hz : Fm.RM w d fs) :
    Calls Tryz.prog 13 #[.agg #[.slice a ms.length ca, .slice b cs.length cb, .slice d fs.length cd, .int .i64 t]] w fun e w' => ∃ g1 g2 g3 qs, e = .returned (.agg #[.slice (some ⟨g1, 0, none⟩) ms.length ms.length, .slice (some ⟨g2, 0, none⟩) cs.length cs.length, .slice (some ⟨g3, 0, none⟩) fs.length fs.length, .int .i64 t]) ∧ Below w.heap.size w w' ∧ OwT w' w.heap.size w'.heap.size g1 g2 g3 ms qs cs fs := by
  have b0 : Below w.heap.size w (((w.alloc (.cells #[.slice a ms.length ca, .slice b cs.length cb, .slice d fs.length cd, .int .i64 t] 26)).alloc (.cells #[.slice none 0 0, .slice none 0 0, .slice none 0 0, .int .i64 0] 31)).alloc (.cells #[.slice none 0 0, .slice none 0 0, .slice none 0 0, .int .i64 0] 31)) := (((Below.refl _ _).alloc (Nat.le_refl _) _).alloc (by simp) _).alloc (by simp; omega) _
  have z1 : (w.alloc (.cells #[.slice a ms.length ca, .slice b cs.length cb, .slice d fs.length cd, .int .i64 t] 26)).heap.size = w.heap.size + 1 := by simp
  have z2 : ((w.alloc (.cells #[.slice a ms.length ca, .slice b cs.length cb, .slice d fs.length cd, .int .i64 t] 26)).alloc (.cells #[.slice none 0 0, .slice none 0 0, .slice none 0 0, .int .i64 0] 31)).heap.size = w.heap.size + 1 + 1 := by simp
  have z3 : (((w.alloc (.cells #[.slice a ms.length ca, .slice b cs.length cb, .slice d fs.length cd, .int .i64 t] 26)).alloc (.cells #[.slice none 0 0, .slice none 0 0, .slice none 0 0, .int .i64 0] 31)).alloc (.cells #[.slice none 0 0, .slice none 0 0, .slice none 0 0, .int .i64 0] 31)).heap.size = w.heap.size + 3 := by simp
  have c1 : Below (w.alloc (.cells #[.slice a ms.length ca, .slice b cs.length cb, .slice d fs.length cd, .int .i64 t] 26)).heap.size (w.alloc (.cells #[.slice a ms.length ca, .slice b cs.length cb, .slice d fs.length cd, .int .i64 t] 26)) ((w.alloc (.cells #[.slice a ms.length ca, .slice b cs.length cb, .slice d fs.length cd, .int .i64 t] 26)).alloc (.cells #[.slice none 0 0, .slice none 0 0, .slice none 0 0, .int .i64 0] 31)) := bel_new _ _
  have c2 : Below ((w.alloc (.cells #[.slice a ms.length ca, .slice b cs.length cb, .slice d fs.length cd, .int .i64 t] 26)).alloc (.cells #[.slice none 0 0, .slice none 0 0, .slice none 0 0, .int .i64 0] 31)).heap.size ((w.alloc (.cells #[.slice a ms.length ca, .slice b cs.length cb, .slice d fs.length cd, .int .i64 t] 26)).alloc (.cells #[.slice none 0 0, .slice none 0 0, .slice none 0 0, .int .i64 0] 31)) (((w.alloc (.cells #[.slice a ms.length ca, .slice b cs.length cb, .slice d fs.length cd, .int .i64 t] 26)).alloc (.cells #[.slice none 0 0, .slice none 0 0, .slice none 0 0, .int .i64 0] 31)).alloc (.cells #[.slice none 0 0, .slice none 0 0, .slice none 0 0, .int .i64 0] 31)) := bel_new _ _
  have HX0 : Hid (NB (((w.alloc (.cells #[.slice a ms.length ca, .slice b cs.length cb, .slice d fs.length cd, .int .i64 t] 26)).alloc (.cells #[.slice none 0 0, .slice none 0 0, .slice none 0 0, .int .i64 0] 31)).alloc (.cells #[.slice none 0 0, .slice none 0 0, .slice none 0 0, .int .i64 0] 31)) w.heap.size (.slice a ms.length ca) (.slice b cs.length cb) (.slice d fs.length cd) t) := hide (((nb_new w (.slice a ms.length ca) (.slice b cs.length cb) (.slice d fs.length cd) t 26).below c1).below c2)
  have HZ0 : Hid (NB (((w.alloc (.cells #[.slice a ms.length ca, .slice b cs.length cb, .slice d fs.length cd, .int .i64 t] 26)).alloc (.cells #[.slice none 0 0, .slice none 0 0, .slice none 0 0, .int .i64 0] 31)).alloc (.cells #[.slice none 0 0, .slice none 0 0, .slice none 0 0, .int .i64 0] 31)) (w.heap.size + 1) (.slice none 0 0) (.slice none 0 0) (.slice none 0 0) 0) := hide (by have h := (nb_new (w.alloc (.cells #[.slice a ms.length ca, .slice b cs.length cb, .slice d fs.length cd, .int .i64 t] 26)) (.slice none 0 0) (.slice none 0 0) (.slice none 0 0) 0 31).below c2; rw [z1] at h; exact h)
  have TZ0 : Hid ((((w.alloc (.cells #[.slice a ms.length ca, .slice b cs.length cb, .slice d fs.length cd, .int .i64 t] 26)).alloc (.cells #[.slice none 0 0, .slice none 0 0, .slice none 0 0, .int .i64 0] 31)).alloc (.cells #[.slice none 0 0, .slice none 0 0, .slice none 0 0, .int .i64 0] 31)).there (w.heap.size + 1) 0 4) := hide (by have h := there_under (there_new4 (w.alloc (.cells #[.slice a ms.length ca, .slice b cs.length cb, .slice d fs.length cd, .int .i64 t] 26)) (.slice none 0 0) (.slice none 0 0) (.slice none 0 0) (.int .i64 0) 31) c2 (by rw [z1, z2]; omega); rw [z1] at h; exact h)
  have HO0 : Hid (NB (((w.alloc (.cells #[.slice a ms.length ca, .slice b cs.length cb, .slice d fs.length cd, .int .i64 t] 26)).alloc (.cells #[.slice none 0 0, .slice none 0 0, .slice none 0 0, .int .i64 0] 31)).alloc (.cells #[.slice none 0 0, .slice none 0 0, .slice none 0 0, .int .i64 0] 31)) (w.heap.size + 1 + 1) (.slice none 0 0) (.slice none 0 0) (.slice none 0 0) 0) := hide (by have h := nb_new ((w.alloc (.cells #[.slice a ms.length ca, .slice b cs.length cb, .slice d fs.length cd, .int .i64 t] 26)).alloc (.cells #[.slice none 0 0, .slice none 0 0, .slice none 0 0, .int .i64 0] 31)) (.slice none 0 0) (.slice none 0 0) (.slice none 0 0) 0 31; rw [z2] at h; exact h)
  have TO0 : Hid ((((w.alloc (.cells #[.slice a ms.length ca, .slice b cs.length cb, .slice d fs.length cd, .int .i64 t] 26)).alloc (.cells #[.slice none 0 0, .slice none 0 0, .slice none 0 0, .int .i64 0] 31)).alloc (.cells #[.slice none 0 0, .slice none 0 0, .slice none 0 0, .int .i64 0] 31)).there (w.heap.size + 1 + 1) 0 4) := hide (by have h := there_new4 ((w.alloc (.cells #[.slice a ms.length ca, .slice b cs.length cb, .slice d fs.length cd, .int .i64 t] 26)).alloc (.cells #[.slice none 0 0, .slice none 0 0, .slice none 0 0, .int .i64 0] 31)) (.slice none 0 0) (.slice none 0 0) (.slice none 0 0) (.int .i64 0) 31; rw [z2] at h; exact h)
  have HB0 := hide b0
  have hq0 := Nat.le_of_eq z3.symm
  have HR := hide hr
  have HI := hide hi
  have HF := hide hz
  have HS := hide hs
  clear b0 z1 z2 z3 c1 c2 hr hi hz hs
  go_enter Tryz.func13, Tryz.ntmps13
  go_wp2_with fail
  generalize hW : (((w.alloc (.cells #[.slice a ms.length ca, .slice b cs.length cb, .slice d fs.length cd, .int .i64 t] 26)).alloc (.cells #[.slice none 0 0, .slice none 0 0, .slice none 0 0, .int .i64 0] 31)).alloc (.cells #[.slice none 0 0, .slice none 0 0, .slice none 0 0, .int .i64 0] 31)) = V0 at *
  clear hW
  refine (toNS _ ms ps _ _ hm (unhide HS) ((unhide HR).below (unhide HB0))).mono ?_
  rintro e V1 ⟨rfl, d1, l1, qs, hql, had, u1, ow⟩
  have HB1 := hide ((unhide HB0).trans (d1.mono (unhide HB0).size))
  have hq1 := d1.size
  have HX1 := hide ((unhide HX0).below d1)
  have HZ1 := hide ((unhide HZ0).below d1)
  have HO1 := hide ((unhide HO0).below d1)
  have TZ1 := hide (there_under (unhide TZ0) d1 (unhide HZ0).lt)
  have TO1 := hide (there_under (unhide TO0) d1 (unhide HO0).lt)
  clear HX0 HZ0 HO0 TZ0 TO0
  have HQL := hide hql
  have HAD := hide had
  have UR1 := hide u1
  have OR1 := hide ow
  have hr1 : V0.heap.size < V1.heap.size := l1
  clear hql had u1 ow l1 d1
  obtain ⟨V2, hV2⟩ : ∃ V, (V1.setCell ⟨w.heap.size + 1 + 1, 0, none⟩ (.slice (some ⟨V0.heap.size, 0, none⟩) ms.length ms.length)) = V := ⟨_, rfl⟩
  have HB2 : Hid (Below w.heap.size w V2) := hide (by rw [← hV2]; exact (unhide HB1).setCell (p := ⟨w.heap.size + 1 + 1, 0, none⟩) (by show w.heap.size ≤ w.heap.size + 1 + 1; omega) _)
  have HX2 : Hid (NB V2 w.heap.size (.slice a ms.length ca) (.slice b cs.length cb) (.slice d fs.length cd) t) := hide (by rw [← hV2]; exact (unhide HX1).other (by show w.heap.size ≠ w.heap.size + 1 + 1; omega) _)
  have HZ2 : Hid (NB V2 (w.heap.size + 1) (.slice none 0 0) (.slice none 0 0) (.slice none 0 0) 0) := hide (by rw [← hV2]; exact (unhide HZ1).other (by show (w.heap.size + 1) ≠ w.heap.size + 1 + 1; omega) _)
  have HO2 : Hid (NB V2 (w.heap.size + 1 + 1) (.slice (some ⟨V0.heap.size, 0, none⟩) ms.length ms.length) (.slice none 0 0) (.slice none 0 0) 0) := hide (by rw [← hV2]; exact (unhide HO1).set0 _)
  have TZ2 : Hid (V2.there (w.heap.size + 1) 0 4) := hide (by rw [← hV2]; exact there_at (unhide TZ1))
  have TO2 : Hid (V2.there (w.heap.size + 1 + 1) 0 4) := hide (by rw [← hV2]; exact there_at (unhide TO1))
  have hq2 : V2.heap.size = V1.heap.size := by rw [← hV2]; simp [World.setCell]
  have UR2 : Hid (UpN V2 V0.heap.size ms.length ms.length ms qs) := hide (by rw [← hV2]; exact (unhide UR1).block (Below.heap_setCell _ _ _ _ (by show V0.heap.size ≠ w.heap.size + 1 + 1; omega)))
  have OR2 : Hid (OwN V2 (V0.heap.size + 1) V1.heap.size ms.length ms qs) := hide (by rw [← hV2]; exact (unhide OR1).set (.inl (by show w.heap.size + 1 + 1 < V0.heap.size + 1; omega)))
  have HV2 := hide hV2
  clear hV2
  have f0 := free_at (unhide TO1) (k := 0) (by omega)
  obtain ⟨o0, o1, o2, o3⟩ := unhide HO1
  obtain ⟨x0, x1, x2, x3⟩ := unhide HX1
  have hne : ¬ w.heap.size = w.heap.size + 1 + 1 := by omega
  go_wp2_with fail
  rw [unhide HV2]
  clear hne f0 o0 o1 o2 o3 x0 x1 x2 x3 HX1 HZ1 HO1 TZ1 TO1 UR1 OR1
  refine (In.toS _ cs _ _ hc ((unhide HI).below (unhide HB2))).mono ?_
  rintro e V3 ⟨g2, rfl, d3, lg, l3, u3⟩
  have HB3 := hide ((unhide HB2).trans (d3.mono (unhide HB2).size))
  have hq3 := d3.size
  have HX3 := hide ((unhide HX2).below d3)
  have HZ3 := hide ((unhide HZ2).below d3)
  have HO3 := hide ((unhide HO2).below d3)
  have TZ3 := hide (there_under (unhide TZ2) d3 (unhide HZ2).lt)
  have TO3 := hide (there_under (unhide TO2) d3 (unhide HO2).lt)
  have UR3 := hide ((unhide UR2).under d3 (by omega))
  have OR3 := hide ((unhide OR2).below d3)
  clear HX2 HZ2 HO2 TZ2 TO2 UR2 OR2
  have UI3 := hide u3
  clear u3 d3
  obtain ⟨V4, hV4⟩ : ∃ V, (V3.setCell ⟨w.heap.size + 1 + 1, 1, none⟩ (.slice (some ⟨g2, 0, none⟩) cs.length cs.length)) = V := ⟨_, rfl⟩
  have HB4 : Hid (Below w.heap.size w V4) := hide (by rw [← hV4]; exact (unhide HB3).setCell (p := ⟨w.heap.size + 1 + 1, 1, none⟩) (by show w.heap.size ≤ w.heap.size + 1 + 1; omega) _)
  have HX4 : Hid (NB V4 w.heap.size (.slice a ms.length ca) (.slice b cs.length cb) (.slice d fs.length cd) t) := hide (by rw [← hV4]; exact (unhide HX3).other (by show w.heap.size ≠ w.heap.size + 1 + 1; omega) _)
  have HZ4 : Hid (NB V4 (w.heap.size + 1) (.slice none 0 0) (.slice none 0 0) (.slice none 0 0) 0) := hide (by rw [← hV4]; exact (unhide HZ3).other (by show (w.heap.size + 1) ≠ w.heap.size + 1 + 1; omega) _)
  have HO4 : Hid (NB V4 (w.heap.size + 1 + 1) (.slice (some ⟨V0.heap.size, 0, none⟩) ms.length ms.length) (.slice (some ⟨g2, 0, none⟩) cs.length cs.length) (.slice none 0 0) 0) := hide (by rw [← hV4]; exact (unhide HO3).set1 _)
  have TZ4 : Hid (V4.there (w.heap.size + 1) 0 4) := hide (by rw [← hV4]; exact there_at (unhide TZ3))
  have TO4 : Hid (V4.there (w.heap.size + 1 + 1) 0 4) := hide (by rw [← hV4]; exact there_at (unhide TO3))
  have hq4 : V4.heap.size = V3.heap.size := by rw [← hV4]; simp [World.setCell]
  have UR4 : Hid (UpN V4 V0.heap.size ms.length ms.length ms qs) := hide (by rw [← hV4]; exact (unhide UR3).block (Below.heap_setCell _ _ _ _ (by show V0.heap.size ≠ w.heap.size + 1 + 1; omega)))
  have OR4 : Hid (OwN V4 (V0.heap.size + 1) V1.heap.size ms.length ms qs) := hide (by rw [← hV4]; exact (unhide OR3).set (.inl (by show w.heap.size + 1 + 1 < V0.heap.size + 1; omega)))
  have UI4 : Hid (In.Upto V4 g2 cs.length cs.length cs) := hide (by rw [← hV4]; exact (unhide UI3).of_block (Below.heap_setCell _ _ _ _ (by show g2 ≠ w.heap.size + 1 + 1; omega)))
  have HV4 := hide hV4
  clear hV4
  have f1 := free_at (unhide TO3) (k := 1) (by omega)
  obtain ⟨o0, o1, o2, o3⟩ := unhide HO3
  obtain ⟨x0, x1, x2, x3⟩ := unhide HX3
  have hne : ¬ w.heap.size = w.heap.size + 1 + 1 := by omega
  go_wp2_with fail
  rw [unhide HV4]
  clear hne f1 o0 o1 o2 o3 x0 x1 x2 x3 HX3 HZ3 HO3 TZ3 TO3 UR3 OR3 UI3
  refine (Fm.toS _ fs _ _ hf ((unhide HF).below (unhide HB4))).mono ?_
  rintro e V5 ⟨g3, rfl, d5, lg5, l5, u5⟩
  have HB5 := hide ((unhide HB4).trans (d5.mono (unhide HB4).size))
  have hq5 := d5.size
  have HX5 := hide ((unhide HX4).below d5)
  have HZ5 := hide ((unhide HZ4).below d5)
  have HO5 := hide ((unhide HO4).below d5)
  have TZ5 := hide (there_under (unhide TZ4) d5 (unhide HZ4).lt)
  have TO5 := hide (there_under (unhide TO4) d5 (unhide HO4).lt)
  have UR5 := hide ((unhide UR4).under d5 (by omega))
  have OR5 := hide ((unhide OR4).below d5)
  have UI5 := hide ((unhide UI4).below d5 (by omega))
  clear HX4 HZ4 HO4 TZ4 TO4 UR4 OR4 UI4
  have UF5 := hide u5
  clear u5 d5
  obtain ⟨V6, hV6⟩ : ∃ V, (V5.setCell ⟨w.heap.size + 1 + 1, 2, none⟩ (.slice (some ⟨g3, 0, none⟩) fs.length fs.length)) = V := ⟨_, rfl⟩
  have HB6 : Hid (Below w.heap.size w V6) := hide (by rw [← hV6]; exact (unhide HB5).setCell (p := ⟨w.heap.size + 1 + 1, 2, none⟩) (by show w.heap.size ≤ w.heap.size + 1 + 1; omega) _)
  have HX6 : Hid (NB V6 w.heap.size (.slice a ms.length ca) (.slice b cs.length cb) (.slice d fs.length cd) t) := hide (by rw [← hV6]; exact (unhide HX5).other (by show w.heap.size ≠ w.heap.size + 1 + 1; omega) _)
  have HZ6 : Hid (NB V6 (w.heap.size + 1) (.slice none 0 0) (.slice none 0 0) (.slice none 0 0) 0) := hide (by rw [← hV6]; exact (unhide HZ5).other (by show (w.heap.size + 1) ≠ w.heap.size + 1 + 1; omega) _)
  have HO6 : Hid (NB V6 (w.heap.size + 1 + 1) (.slice (some ⟨V0.heap.size, 0, none⟩) ms.length ms.length) (.slice (some ⟨g2, 0, none⟩) cs.length cs.length) (.slice (some ⟨g3, 0, none⟩) fs.length fs.length) 0) := hide (by rw [← hV6]; exact (unhide HO5).set2 _)
  have TZ6 : Hid (V6.there (w.heap.size + 1) 0 4) := hide (by rw [← hV6]; exact there_at (unhide TZ5))
  have TO6 : Hid (V6.there (w.heap.size + 1 + 1) 0 4) := hide (by rw [← hV6]; exact there_at (unhide TO5))
  have hq6 : V6.heap.size = V5.heap.size := by rw [← hV6]; simp [World.setCell]
  have UR6 : Hid (UpN V6 V0.heap.size ms.length ms.length ms qs) := hide (by rw [← hV6]; exact (unhide UR5).block (Below.heap_setCell _ _ _ _ (by show V0.heap.size ≠ w.heap.size + 1 + 1; omega)))
  have OR6 : Hid (OwN V6 (V0.heap.size + 1) V1.heap.size ms.length ms qs) := hide (by rw [← hV6]; exact (unhide OR5).set (.inl (by show w.heap.size + 1 + 1 < V0.heap.size + 1; omega)))
  have UI6 : Hid (In.Upto V6 g2 cs.length cs.length cs) := hide (by rw [← hV6]; exact (unhide UI5).of_block (Below.heap_setCell _ _ _ _ (by show g2 ≠ w.heap.size + 1 + 1; omega)))
  have UF6 : Hid (Fm.Upto V6 g3 fs.length fs.length fs) := hide (by rw [← hV6]; exact (unhide UF5).of_block (Below.heap_setCell _ _ _ _ (by show g3 ≠ w.heap.size + 1 + 1; omega)))
  have HV6 := hide hV6
  clear hV6
  have f2 := free_at (unhide TO5) (k := 2) (by omega)
  obtain ⟨o0, o1, o2, o3⟩ := unhide HO5
  obtain ⟨x0, x1, x2, x3⟩ := unhide HX5
  have hne : ¬ w.heap.size = w.heap.size + 1 + 1 := by omega
  have f3 := free_at (unhide TO5) (k := 3) (by omega)
  have TZ7 := hide (there_at (p := ⟨w.heap.size + 1 + 1, 3, none⟩) (v := .int .i64 t) (unhide TZ6))
  have HO7 := hide ((unhide HO6).set3 t)
  have HB7 := hide ((unhide HB6).setCell (p := ⟨w.heap.size + 1 + 1, 3, none⟩) (by show w.heap.size ≤ w.heap.size + 1 + 1; omega) (.int .i64 t))
  have UR7 := hide ((unhide UR6).block (Below.heap_setCell V6 ⟨w.heap.size + 1 + 1, 3, none⟩ (.int .i64 t) _ (by show V0.heap.size ≠ w.heap.size + 1 + 1; omega)))
  have OR7 := hide ((unhide OR6).set (p := ⟨w.heap.size + 1 + 1, 3, none⟩) (v := .int .i64 t) (.inl (by show w.heap.size + 1 + 1 < V0.heap.size + 1; omega)))
  have UI7 := hide ((unhide UI6).of_block (Below.heap_setCell V6 ⟨w.heap.size + 1 + 1, 3, none⟩ (.int .i64 t) _ (by show g2 ≠ w.heap.size + 1 + 1; omega)))
  have UF7 := hide ((unhide UF6).of_block (Below.heap_setCell V6 ⟨w.heap.size + 1 + 1, 3, none⟩ (.int .i64 t) _ (by show g3 ≠ w.heap.size + 1 + 1; omega)))
  have hq7 : (V6.setCell ⟨w.heap.size + 1 + 1, 3, none⟩ (.int .i64 t)).heap.size = V6.heap.size := by simp [World.setCell]
  obtain ⟨V7, hV7⟩ : ∃ V, V6.setCell ⟨w.heap.size + 1 + 1, 3, none⟩ (.int .i64 t) = V := ⟨_, rfl⟩
  rw [hV7] at TZ7 HO7 HB7 UR7 OR7 UI7 UF7 hq7
  have HV7 := hide hV7
  clear hV7 f3
  go_upto_region 5 with fail
  rw [unhide HV6]
  clear f2 o0 o1 o2 o3 x0 x1 x2 x3
  obtain ⟨o0, o1, o2, o3⟩ := unhide HO6
  obtain ⟨x0, x1, x2, x3⟩ := unhide HX6
  have f3 := free_at (unhide TO6) (k := 3) (by omega)
  go_upto_region 6 with fail
  rw [unhide HV7]
  clear f3 o0 o1 o2 o3 x0 x1 x2 x3 hne
  obtain ⟨o0, o1, o2, o3⟩ := unhide HO7
  go_wp2_with (refine storeNB _ _ rfl rfl rfl rfl rfl (unhide TZ7) rfl rfl ?_; intro V8 n8 t8 bb8 s8 k8)
  clear o0 o1 o2 o3 t8
  refine bodyPost_ret (v := .agg #[.slice (some ⟨V0.heap.size, 0, none⟩) ms.length ms.length, .slice (some ⟨g2, 0, none⟩) cs.length cs.length, .slice (some ⟨g3, 0, none⟩) fs.length fs.length, .int .i64 t]) (resultsN rfl _ _ rfl n8) rfl ⟨V0.heap.size, g2, g3, qs, rfl, bb8 _ _ (unhide HB7) (by omega), V1.heap.size, by omega, hr1, by omega, by omega, by omega, Nat.le_refl _, ⟨unhide HQL, unhide HAD⟩, (unhide UR7).block (k8 _ (by omega)), (unhide OR7).but (Lo := w.heap.size + 1) (Hi := w.heap.size + 1 + 1) (Nat.le_of_eq s8.symm) (fun k _ hk => k8 k (by omega)) (.inr (by omega)), (unhide UI7).of_block (k8 _ (by omega)), (unhide UF7).of_block (k8 _ (by omega))⟩
end Nt
end Go.Proofs.YtfooahhdikobeaaGreat
namespace Go.Proofs.YtfooahhdikobeaaGreat
open Go.ChangeShapes Go.WideShapes Go.ChangeAt Go.RowKit
set_option linter.unusedVariables false
set_option linter.unusedSimpArgs false
set_option maxRecDepth 100000
attribute [local go_sem ↓] Go.wp_at_zero Go.wp_at_succ
namespace Rt
open W1
theorem tc_all (la : List Ed.R) : Av.tcB 0 15 la = Av.allN la la.length := by
  have h : Tim.valB 15 = true := by decide
  unfold Av.tcB; rw [h]; rfl
def Al (w W : World) (cs : List Value) : Prop := Below w.heap.size w W ∧ RA W w.heap.size cs
theorem al_below {w W W' : World} {cs : List Value} (h : Al w W cs) (hb : Below W.heap.size W W') : Al w W' cs := ⟨h.1.trans (hb.mono h.1.size), h.2.below hb⟩
set_option maxHeartbeats 32000000 in
theorem implRtr (x1 x2 x3 x4 x5 x6 : Int) (a1 a2 a3 a4 a5 a6 a7 : Option Addr) (c1 c2 c3 c4 c5 c6 c7 : Nat) (ls : List Lk.R) (tw : List Tu.R) (se : List Tu.R) (du : List Tu.R) (ss : List So.R) (es : List Tu.R) (la : List Ed.R) (w : World) (hm1 : ls.length ≤ 1048576) (hm2 : tw.length ≤ 1048576) (hm3 : se.length ≤ 1048576) (hm4 : du.length ≤ 1048576) (hm5 : ss.length ≤ 1048576) (hm6 : es.length ≤ 1048576) (hm7 : la.length ≤ 1048576) (hr1 : Lk.RM w a1 ls) (hr2 : Tu.RM w a2 tw) (hr3 : Tu.RM w a3 se) (hr4 : Tu.RM w a4 du) (hr5 : So.RM w a5 ss) (hr6 : Tu.RM w a6 es) (hr7 : Ed.RM w a7 la) :
    Calls Tryz.prog 122 #[.agg #[.int .i64 x1, .int .i64 x2, .int .i64 x3, .int .i64 x4, .int .i64 x5, .slice a1 ls.length c1, .slice a2 tw.length c2, .slice a3 se.length c3, .slice a4 du.length c4, .slice a5 ss.length c5, .slice a6 es.length c6, .slice a7 la.length c7, .int .i64 x6]] w fun e w' => e = .returned (.bool (rtrB x1 x2 x3 x4 x5 x6 ls tw se du ss es la)) ∧ Below w.heap.size w w' := by
  have HAL : Hid (Al w (w.alloc (.cells #[.int .i64 x1, .int .i64 x2, .int .i64 x3, .int .i64 x4, .int .i64 x5, .slice a1 ls.length c1, .slice a2 tw.length c2, .slice a3 se.length c3, .slice a4 du.length c4, .slice a5 ss.length c5, .slice a6 es.length c6, .slice a7 la.length c7, .int .i64 x6] 83)) (rC x1 x2 x3 x4 x5 (.slice a1 ls.length c1) (.slice a2 tw.length c2) (.slice a3 se.length c3) (.slice a4 du.length c4) (.slice a5 ss.length c5) (.slice a6 es.length c6) (.slice a7 la.length c7) x6)) := hide ⟨(Below.refl _ _).alloc (Nat.le_refl _) _, ra_new w _ rfl _⟩
  have HR1 := hide hr1
  clear hr1
  have HR2 := hide hr2
  clear hr2
  have HR3 := hide hr3
  clear hr3
  have HR4 := hide hr4
  clear hr4
  have HR5 := hide hr5
  clear hr5
  have HR6 := hide hr6
  clear hr6
  have HR7 := hide hr7
  clear hr7
  have K7 := hide (fun W => areLinksOf x1 a1 ls c1 W hm1)
  have K8 := hide (fun W => areTwoOf x1 a2 tw c2 W hm2)
  have K9 := hide (fun W => St.implOK a3 se c3 W hm3)
  have K10 := hide (fun W => St.implOK a4 du c4 W hm4)
  have K11 := hide (fun W => Tp.implOK a5 ss c5 a6 es c6 W hm5 hm6)
  have K13 := hide (fun W => Av.implOK 0 15 a7 la c7 W hm7)
  rw [tc_all] at K13
  cases h1 : inB x1 1 8
  · have hv : rtrB x1 x2 x3 x4 x5 x6 ls tw se du ss es la = false := by unfold rtrB; rw [h1]; rfl
    rw [hv]
    clear hv
    skip
    go_enter Tryz.func122, Tryz.ntmps122
    go_wp2_with (first | (go_at_call 109; refine (isAddress _ _).mono ?_; rintro e w_ ⟨rfl, rfl⟩) | (go_at_call 110; refine (Ln.isWill _ _).mono ?_; rintro e w_ ⟨rfl, rfl⟩) | (go_at_call 111; refine (isSeq _ _).mono ?_; rintro e w_ ⟨rfl, rfl⟩) | (go_at_call 88; refine (within _ _ _ _).mono ?_; rintro e w_ ⟨rfl, rfl⟩))
    go_ret
    exact ⟨rfl, (unhide HAL).1⟩
  cases h2 : inB x2 0 7
  · have hv : rtrB x1 x2 x3 x4 x5 x6 ls tw se du ss es la = false := by unfold rtrB; rw [h1, h2]; rfl
    rw [hv]
    clear hv
    skip
    go_enter Tryz.func122, Tryz.ntmps122
    go_wp2_with (first | (go_at_call 109; refine (isAddress _ _).mono ?_; rintro e w_ ⟨rfl, rfl⟩) | (go_at_call 110; refine (Ln.isWill _ _).mono ?_; rintro e w_ ⟨rfl, rfl⟩) | (go_at_call 111; refine (isSeq _ _).mono ?_; rintro e w_ ⟨rfl, rfl⟩) | (go_at_call 88; refine (within _ _ _ _).mono ?_; rintro e w_ ⟨rfl, rfl⟩))
    go_ret
    exact ⟨rfl, (unhide HAL).1⟩
  cases h3 : inB x3 0 65535
  · have hv : rtrB x1 x2 x3 x4 x5 x6 ls tw se du ss es la = false := by unfold rtrB; rw [h1, h2, h3]; rfl
    rw [hv]
    clear hv
    skip
    go_enter Tryz.func122, Tryz.ntmps122
    go_wp2_with (first | (go_at_call 109; refine (isAddress _ _).mono ?_; rintro e w_ ⟨rfl, rfl⟩) | (go_at_call 110; refine (Ln.isWill _ _).mono ?_; rintro e w_ ⟨rfl, rfl⟩) | (go_at_call 111; refine (isSeq _ _).mono ?_; rintro e w_ ⟨rfl, rfl⟩) | (go_at_call 88; refine (within _ _ _ _).mono ?_; rintro e w_ ⟨rfl, rfl⟩))
    go_ret
    exact ⟨rfl, (unhide HAL).1⟩
  cases h4 : inB x4 0 65535
  · have hv : rtrB x1 x2 x3 x4 x5 x6 ls tw se du ss es la = false := by unfold rtrB; rw [h1, h2, h3, h4]; rfl
    rw [hv]
    clear hv
    skip
    go_enter Tryz.func122, Tryz.ntmps122
    go_wp2_with (first | (go_at_call 109; refine (isAddress _ _).mono ?_; rintro e w_ ⟨rfl, rfl⟩) | (go_at_call 110; refine (Ln.isWill _ _).mono ?_; rintro e w_ ⟨rfl, rfl⟩) | (go_at_call 111; refine (isSeq _ _).mono ?_; rintro e w_ ⟨rfl, rfl⟩) | (go_at_call 88; refine (within _ _ _ _).mono ?_; rintro e w_ ⟨rfl, rfl⟩))
    go_ret
    exact ⟨rfl, (unhide HAL).1⟩
  cases h5 : inB x5 0 100000
  · have hv : rtrB x1 x2 x3 x4 x5 x6 ls tw se du ss es la = false := by unfold rtrB; rw [h1, h2, h3, h4, h5]; rfl
    rw [hv]
    clear hv
    skip
    go_enter Tryz.func122, Tryz.ntmps122
    go_wp2_with (first | (go_at_call 109; refine (isAddress _ _).mono ?_; rintro e w_ ⟨rfl, rfl⟩) | (go_at_call 110; refine (Ln.isWill _ _).mono ?_; rintro e w_ ⟨rfl, rfl⟩) | (go_at_call 111; refine (isSeq _ _).mono ?_; rintro e w_ ⟨rfl, rfl⟩) | (go_at_call 88; refine (within _ _ _ _).mono ?_; rintro e w_ ⟨rfl, rfl⟩))
    go_ret
    exact ⟨rfl, (unhide HAL).1⟩
  cases h6 : inB x6 0 1000000
  · have hv : rtrB x1 x2 x3 x4 x5 x6 ls tw se du ss es la = false := by unfold rtrB; rw [h1, h2, h3, h4, h5, h6]; rfl
    rw [hv]
    clear hv
    skip
    go_enter Tryz.func122, Tryz.ntmps122
    go_wp2_with (first | (go_at_call 109; refine (isAddress _ _).mono ?_; rintro e w_ ⟨rfl, rfl⟩) | (go_at_call 110; refine (Ln.isWill _ _).mono ?_; rintro e w_ ⟨rfl, rfl⟩) | (go_at_call 111; refine (isSeq _ _).mono ?_; rintro e w_ ⟨rfl, rfl⟩) | (go_at_call 88; refine (within _ _ _ _).mono ?_; rintro e w_ ⟨rfl, rfl⟩))
    go_ret
    exact ⟨rfl, (unhide HAL).1⟩
  cases h7 : lksB x1 ls
  · have hv : rtrB x1 x2 x3 x4 x5 x6 ls tw se du ss es la = false := by unfold rtrB; rw [h1, h2, h3, h4, h5, h6, h7]; rfl
    rw [hv]
    clear hv
    rw [h7] at K7
    clear h7
    go_enter Tryz.func122, Tryz.ntmps122
    go_wp2_with (first | (go_at_call 109; refine (isAddress _ _).mono ?_; rintro e w_ ⟨rfl, rfl⟩) | (go_at_call 110; refine (Ln.isWill _ _).mono ?_; rintro e w_ ⟨rfl, rfl⟩) | (go_at_call 111; refine (isSeq _ _).mono ?_; rintro e w_ ⟨rfl, rfl⟩) | (go_at_call 88; refine (within _ _ _ _).mono ?_; rintro e w_ ⟨rfl, rfl⟩))
    clear h1 h2 h3 h4 h5 h6
    generalize hW0 : w.alloc (.cells #[.int .i64 x1, .int .i64 x2, .int .i64 x3, .int .i64 x4, .int .i64 x5, .slice a1 ls.length c1, .slice a2 tw.length c2, .slice a3 se.length c3, .slice a4 du.length c4, .slice a5 ss.length c5, .slice a6 es.length c6, .slice a7 la.length c7, .int .i64 x6] 83) = W0 at *
    clear hW0
    refine (unhide K7 _ ((unhide HR1).below (unhide HAL).1)).mono ?_
    rintro e V7 ⟨rfl, b_⟩
    replace HAL := hide (al_below (unhide HAL) b_)
    clear b_
    go_wp2_with fail
    go_ret
    exact ⟨rfl, (unhide HAL).1⟩
  cases h8 : twoOf x1 tw
  · have hv : rtrB x1 x2 x3 x4 x5 x6 ls tw se du ss es la = false := by unfold rtrB; rw [h1, h2, h3, h4, h5, h6, h7, h8]; rfl
    rw [hv]
    clear hv
    rw [h7] at K7
    rw [h8] at K8
    clear h7 h8
    go_enter Tryz.func122, Tryz.ntmps122
    go_wp2_with (first | (go_at_call 109; refine (isAddress _ _).mono ?_; rintro e w_ ⟨rfl, rfl⟩) | (go_at_call 110; refine (Ln.isWill _ _).mono ?_; rintro e w_ ⟨rfl, rfl⟩) | (go_at_call 111; refine (isSeq _ _).mono ?_; rintro e w_ ⟨rfl, rfl⟩) | (go_at_call 88; refine (within _ _ _ _).mono ?_; rintro e w_ ⟨rfl, rfl⟩))
    clear h1 h2 h3 h4 h5 h6
    generalize hW0 : w.alloc (.cells #[.int .i64 x1, .int .i64 x2, .int .i64 x3, .int .i64 x4, .int .i64 x5, .slice a1 ls.length c1, .slice a2 tw.length c2, .slice a3 se.length c3, .slice a4 du.length c4, .slice a5 ss.length c5, .slice a6 es.length c6, .slice a7 la.length c7, .int .i64 x6] 83) = W0 at *
    clear hW0
    refine (unhide K7 _ ((unhide HR1).below (unhide HAL).1)).mono ?_
    rintro e V7 ⟨rfl, b_⟩
    replace HAL := hide (al_below (unhide HAL) b_)
    clear b_
    have z0 := (unhide HAL).2.at (i := 0) rfl
    have z6 := (unhide HAL).2.at (i := 6) rfl
    go_wp2_with fail
    clear z0 z6
    refine (unhide K8 _ ((unhide HR2).below (unhide HAL).1)).mono ?_
    rintro e V8 ⟨rfl, b_⟩
    replace HAL := hide (al_below (unhide HAL) b_)
    clear b_
    go_wp2_with fail
    go_ret
    exact ⟨rfl, (unhide HAL).1⟩
  cases h9 : St.setB se
  · have hv : rtrB x1 x2 x3 x4 x5 x6 ls tw se du ss es la = false := by unfold rtrB; rw [h1, h2, h3, h4, h5, h6, h7, h8, h9]; rfl
    rw [hv]
    clear hv
    rw [h7] at K7
    rw [h8] at K8
    rw [h9] at K9
    clear h7 h8 h9
    go_enter Tryz.func122, Tryz.ntmps122
    go_wp2_with (first | (go_at_call 109; refine (isAddress _ _).mono ?_; rintro e w_ ⟨rfl, rfl⟩) | (go_at_call 110; refine (Ln.isWill _ _).mono ?_; rintro e w_ ⟨rfl, rfl⟩) | (go_at_call 111; refine (isSeq _ _).mono ?_; rintro e w_ ⟨rfl, rfl⟩) | (go_at_call 88; refine (within _ _ _ _).mono ?_; rintro e w_ ⟨rfl, rfl⟩))
    clear h1 h2 h3 h4 h5 h6
    generalize hW0 : w.alloc (.cells #[.int .i64 x1, .int .i64 x2, .int .i64 x3, .int .i64 x4, .int .i64 x5, .slice a1 ls.length c1, .slice a2 tw.length c2, .slice a3 se.length c3, .slice a4 du.length c4, .slice a5 ss.length c5, .slice a6 es.length c6, .slice a7 la.length c7, .int .i64 x6] 83) = W0 at *
    clear hW0
    refine (unhide K7 _ ((unhide HR1).below (unhide HAL).1)).mono ?_
    rintro e V7 ⟨rfl, b_⟩
    replace HAL := hide (al_below (unhide HAL) b_)
    clear b_
    have z0 := (unhide HAL).2.at (i := 0) rfl
    have z6 := (unhide HAL).2.at (i := 6) rfl
    go_wp2_with fail
    clear z0 z6
    refine (unhide K8 _ ((unhide HR2).below (unhide HAL).1)).mono ?_
    rintro e V8 ⟨rfl, b_⟩
    replace HAL := hide (al_below (unhide HAL) b_)
    clear b_
    have z7 := (unhide HAL).2.at (i := 7) rfl
    go_wp2_with fail
    clear z7
    refine (unhide K9 _ ((unhide HR3).below (unhide HAL).1)).mono ?_
    rintro e V9 ⟨rfl, b_⟩
    replace HAL := hide (al_below (unhide HAL) b_)
    clear b_
    go_wp2_with fail
    go_ret
    exact ⟨rfl, (unhide HAL).1⟩
  cases h10 : St.setB du
  · have hv : rtrB x1 x2 x3 x4 x5 x6 ls tw se du ss es la = false := by unfold rtrB; rw [h1, h2, h3, h4, h5, h6, h7, h8, h9, h10]; rfl
    rw [hv]
    clear hv
    rw [h7] at K7
    rw [h8] at K8
    rw [h9] at K9
    rw [h10] at K10
    clear h7 h8 h9 h10
    go_enter Tryz.func122, Tryz.ntmps122
    go_wp2_with (first | (go_at_call 109; refine (isAddress _ _).mono ?_; rintro e w_ ⟨rfl, rfl⟩) | (go_at_call 110; refine (Ln.isWill _ _).mono ?_; rintro e w_ ⟨rfl, rfl⟩) | (go_at_call 111; refine (isSeq _ _).mono ?_; rintro e w_ ⟨rfl, rfl⟩) | (go_at_call 88; refine (within _ _ _ _).mono ?_; rintro e w_ ⟨rfl, rfl⟩))
    clear h1 h2 h3 h4 h5 h6
    generalize hW0 : w.alloc (.cells #[.int .i64 x1, .int .i64 x2, .int .i64 x3, .int .i64 x4, .int .i64 x5, .slice a1 ls.length c1, .slice a2 tw.length c2, .slice a3 se.length c3, .slice a4 du.length c4, .slice a5 ss.length c5, .slice a6 es.length c6, .slice a7 la.length c7, .int .i64 x6] 83) = W0 at *
    clear hW0
    refine (unhide K7 _ ((unhide HR1).below (unhide HAL).1)).mono ?_
    rintro e V7 ⟨rfl, b_⟩
    replace HAL := hide (al_below (unhide HAL) b_)
    clear b_
    have z0 := (unhide HAL).2.at (i := 0) rfl
    have z6 := (unhide HAL).2.at (i := 6) rfl
    go_wp2_with fail
    clear z0 z6
    refine (unhide K8 _ ((unhide HR2).below (unhide HAL).1)).mono ?_
    rintro e V8 ⟨rfl, b_⟩
    replace HAL := hide (al_below (unhide HAL) b_)
    clear b_
    have z7 := (unhide HAL).2.at (i := 7) rfl
    go_wp2_with fail
    clear z7
    refine (unhide K9 _ ((unhide HR3).below (unhide HAL).1)).mono ?_
    rintro e V9 ⟨rfl, b_⟩
    replace HAL := hide (al_below (unhide HAL) b_)
    clear b_
    have z8 := (unhide HAL).2.at (i := 8) rfl
    go_wp2_with fail
    clear z8
    refine (unhide K10 _ ((unhide HR4).below (unhide HAL).1)).mono ?_
    rintro e V10 ⟨rfl, b_⟩
    replace HAL := hide (al_below (unhide HAL) b_)
    clear b_
    go_wp2_with fail
    go_ret
    exact ⟨rfl, (unhide HAL).1⟩
  cases h11 : Tp.topB ss es
  · have hv : rtrB x1 x2 x3 x4 x5 x6 ls tw se du ss es la = false := by unfold rtrB; rw [h1, h2, h3, h4, h5, h6, h7, h8, h9, h10, h11]; rfl
    rw [hv]
    clear hv
    rw [h7] at K7
    rw [h8] at K8
    rw [h9] at K9
    rw [h10] at K10
    rw [h11] at K11
    clear h7 h8 h9 h10 h11
    go_enter Tryz.func122, Tryz.ntmps122
    go_wp2_with (first | (go_at_call 109; refine (isAddress _ _).mono ?_; rintro e w_ ⟨rfl, rfl⟩) | (go_at_call 110; refine (Ln.isWill _ _).mono ?_; rintro e w_ ⟨rfl, rfl⟩) | (go_at_call 111; refine (isSeq _ _).mono ?_; rintro e w_ ⟨rfl, rfl⟩) | (go_at_call 88; refine (within _ _ _ _).mono ?_; rintro e w_ ⟨rfl, rfl⟩))
    clear h1 h2 h3 h4 h5 h6
    generalize hW0 : w.alloc (.cells #[.int .i64 x1, .int .i64 x2, .int .i64 x3, .int .i64 x4, .int .i64 x5, .slice a1 ls.length c1, .slice a2 tw.length c2, .slice a3 se.length c3, .slice a4 du.length c4, .slice a5 ss.length c5, .slice a6 es.length c6, .slice a7 la.length c7, .int .i64 x6] 83) = W0 at *
    clear hW0
    refine (unhide K7 _ ((unhide HR1).below (unhide HAL).1)).mono ?_
    rintro e V7 ⟨rfl, b_⟩
    replace HAL := hide (al_below (unhide HAL) b_)
    clear b_
    have z0 := (unhide HAL).2.at (i := 0) rfl
    have z6 := (unhide HAL).2.at (i := 6) rfl
    go_wp2_with fail
    clear z0 z6
    refine (unhide K8 _ ((unhide HR2).below (unhide HAL).1)).mono ?_
    rintro e V8 ⟨rfl, b_⟩
    replace HAL := hide (al_below (unhide HAL) b_)
    clear b_
    have z7 := (unhide HAL).2.at (i := 7) rfl
    go_wp2_with fail
    clear z7
    refine (unhide K9 _ ((unhide HR3).below (unhide HAL).1)).mono ?_
    rintro e V9 ⟨rfl, b_⟩
    replace HAL := hide (al_below (unhide HAL) b_)
    clear b_
    have z8 := (unhide HAL).2.at (i := 8) rfl
    go_wp2_with fail
    clear z8
    refine (unhide K10 _ ((unhide HR4).below (unhide HAL).1)).mono ?_
    rintro e V10 ⟨rfl, b_⟩
    replace HAL := hide (al_below (unhide HAL) b_)
    clear b_
    have z9 := (unhide HAL).2.at (i := 9) rfl
    have z10 := (unhide HAL).2.at (i := 10) rfl
    go_wp2_with fail
    clear z9 z10
    refine (unhide K11 _ ((unhide HR5).below (unhide HAL).1) ((unhide HR6).below (unhide HAL).1)).mono ?_
    rintro e V11 ⟨rfl, b_⟩
    replace HAL := hide (al_below (unhide HAL) b_)
    clear b_
    go_wp2_with fail
    go_ret
    exact ⟨rfl, (unhide HAL).1⟩
  have K12 := hide (fun W h => Tp.hasSource a5 ss c5 x1 W h (Tp.up_src (Tp.top_src h11)) (by have := Tp.src_len (Tp.top_src h11); omega))
  cases h12 : Tp.hasS ss x1
  rotate_left
  · have hv : rtrB x1 x2 x3 x4 x5 x6 ls tw se du ss es la = false := by unfold rtrB; rw [h1, h2, h3, h4, h5, h6, h7, h8, h9, h10, h11, h12]; rfl
    rw [hv]
    clear hv
    rw [h7] at K7
    rw [h8] at K8
    rw [h9] at K9
    rw [h10] at K10
    rw [h11] at K11
    rw [h12] at K12
    clear h7 h8 h9 h10 h11 h12
    go_enter Tryz.func122, Tryz.ntmps122
    go_wp2_with (first | (go_at_call 109; refine (isAddress _ _).mono ?_; rintro e w_ ⟨rfl, rfl⟩) | (go_at_call 110; refine (Ln.isWill _ _).mono ?_; rintro e w_ ⟨rfl, rfl⟩) | (go_at_call 111; refine (isSeq _ _).mono ?_; rintro e w_ ⟨rfl, rfl⟩) | (go_at_call 88; refine (within _ _ _ _).mono ?_; rintro e w_ ⟨rfl, rfl⟩))
    clear h1 h2 h3 h4 h5 h6
    generalize hW0 : w.alloc (.cells #[.int .i64 x1, .int .i64 x2, .int .i64 x3, .int .i64 x4, .int .i64 x5, .slice a1 ls.length c1, .slice a2 tw.length c2, .slice a3 se.length c3, .slice a4 du.length c4, .slice a5 ss.length c5, .slice a6 es.length c6, .slice a7 la.length c7, .int .i64 x6] 83) = W0 at *
    clear hW0
    refine (unhide K7 _ ((unhide HR1).below (unhide HAL).1)).mono ?_
    rintro e V7 ⟨rfl, b_⟩
    replace HAL := hide (al_below (unhide HAL) b_)
    clear b_
    have z0 := (unhide HAL).2.at (i := 0) rfl
    have z6 := (unhide HAL).2.at (i := 6) rfl
    go_wp2_with fail
    clear z0 z6
    refine (unhide K8 _ ((unhide HR2).below (unhide HAL).1)).mono ?_
    rintro e V8 ⟨rfl, b_⟩
    replace HAL := hide (al_below (unhide HAL) b_)
    clear b_
    have z7 := (unhide HAL).2.at (i := 7) rfl
    go_wp2_with fail
    clear z7
    refine (unhide K9 _ ((unhide HR3).below (unhide HAL).1)).mono ?_
    rintro e V9 ⟨rfl, b_⟩
    replace HAL := hide (al_below (unhide HAL) b_)
    clear b_
    have z8 := (unhide HAL).2.at (i := 8) rfl
    go_wp2_with fail
    clear z8
    refine (unhide K10 _ ((unhide HR4).below (unhide HAL).1)).mono ?_
    rintro e V10 ⟨rfl, b_⟩
    replace HAL := hide (al_below (unhide HAL) b_)
    clear b_
    have z9 := (unhide HAL).2.at (i := 9) rfl
    have z10 := (unhide HAL).2.at (i := 10) rfl
    go_wp2_with fail
    clear z9 z10
    refine (unhide K11 _ ((unhide HR5).below (unhide HAL).1) ((unhide HR6).below (unhide HAL).1)).mono ?_
    rintro e V11 ⟨rfl, b_⟩
    replace HAL := hide (al_below (unhide HAL) b_)
    clear b_
    have z9 := (unhide HAL).2.at (i := 9) rfl
    have z0 := (unhide HAL).2.at (i := 0) rfl
    go_wp2_with fail
    clear z9 z0
    refine (unhide K12 _ ((unhide HR5).below (unhide HAL).1)).mono ?_
    rintro e V12 ⟨rfl, b_⟩
    replace HAL := hide (al_below (unhide HAL) b_)
    clear b_
    go_wp2_with fail
    go_ret
    exact ⟨rfl, (unhide HAL).1⟩
  cases h13 : Av.allN la la.length
  · have hv : rtrB x1 x2 x3 x4 x5 x6 ls tw se du ss es la = false := by unfold rtrB; rw [h1, h2, h3, h4, h5, h6, h7, h8, h9, h10, h11, h12, h13]; rfl
    rw [hv]
    clear hv
    rw [h7] at K7
    rw [h8] at K8
    rw [h9] at K9
    rw [h10] at K10
    rw [h11] at K11
    rw [h12] at K12
    rw [h13] at K13
    clear h7 h8 h9 h10 h11 h12 h13
    go_enter Tryz.func122, Tryz.ntmps122
    go_wp2_with (first | (go_at_call 109; refine (isAddress _ _).mono ?_; rintro e w_ ⟨rfl, rfl⟩) | (go_at_call 110; refine (Ln.isWill _ _).mono ?_; rintro e w_ ⟨rfl, rfl⟩) | (go_at_call 111; refine (isSeq _ _).mono ?_; rintro e w_ ⟨rfl, rfl⟩) | (go_at_call 88; refine (within _ _ _ _).mono ?_; rintro e w_ ⟨rfl, rfl⟩))
    clear h1 h2 h3 h4 h5 h6
    generalize hW0 : w.alloc (.cells #[.int .i64 x1, .int .i64 x2, .int .i64 x3, .int .i64 x4, .int .i64 x5, .slice a1 ls.length c1, .slice a2 tw.length c2, .slice a3 se.length c3, .slice a4 du.length c4, .slice a5 ss.length c5, .slice a6 es.length c6, .slice a7 la.length c7, .int .i64 x6] 83) = W0 at *
    clear hW0
    refine (unhide K7 _ ((unhide HR1).below (unhide HAL).1)).mono ?_
    rintro e V7 ⟨rfl, b_⟩
    replace HAL := hide (al_below (unhide HAL) b_)
    clear b_
    have z0 := (unhide HAL).2.at (i := 0) rfl
    have z6 := (unhide HAL).2.at (i := 6) rfl
    go_wp2_with fail
    clear z0 z6
    refine (unhide K8 _ ((unhide HR2).below (unhide HAL).1)).mono ?_
    rintro e V8 ⟨rfl, b_⟩
    replace HAL := hide (al_below (unhide HAL) b_)
    clear b_
    have z7 := (unhide HAL).2.at (i := 7) rfl
    go_wp2_with fail
    clear z7
    refine (unhide K9 _ ((unhide HR3).below (unhide HAL).1)).mono ?_
    rintro e V9 ⟨rfl, b_⟩
    replace HAL := hide (al_below (unhide HAL) b_)
    clear b_
    have z8 := (unhide HAL).2.at (i := 8) rfl
    go_wp2_with fail
    clear z8
    refine (unhide K10 _ ((unhide HR4).below (unhide HAL).1)).mono ?_
    rintro e V10 ⟨rfl, b_⟩
    replace HAL := hide (al_below (unhide HAL) b_)
    clear b_
    have z9 := (unhide HAL).2.at (i := 9) rfl
    have z10 := (unhide HAL).2.at (i := 10) rfl
    go_wp2_with fail
    clear z9 z10
    refine (unhide K11 _ ((unhide HR5).below (unhide HAL).1) ((unhide HR6).below (unhide HAL).1)).mono ?_
    rintro e V11 ⟨rfl, b_⟩
    replace HAL := hide (al_below (unhide HAL) b_)
    clear b_
    have z9 := (unhide HAL).2.at (i := 9) rfl
    have z0 := (unhide HAL).2.at (i := 0) rfl
    go_wp2_with fail
    clear z9 z0
    refine (unhide K12 _ ((unhide HR5).below (unhide HAL).1)).mono ?_
    rintro e V12 ⟨rfl, b_⟩
    replace HAL := hide (al_below (unhide HAL) b_)
    clear b_
    have z11 := (unhide HAL).2.at (i := 11) rfl
    go_wp2_with fail
    clear z11
    refine (unhide K13 _ ((unhide HR7).below (unhide HAL).1)).mono ?_
    rintro e V13 ⟨rfl, b_⟩
    replace HAL := hide (al_below (unhide HAL) b_)
    clear b_
    go_wp2_with fail
    go_ret
    exact ⟨rfl, (unhide HAL).1⟩
  have hv : rtrB x1 x2 x3 x4 x5 x6 ls tw se du ss es la = true := by unfold rtrB; rw [h1, h2, h3, h4, h5, h6, h7, h8, h9, h10, h11, h12, h13]; rfl
  rw [hv]
  clear hv
  rw [h7] at K7
  rw [h8] at K8
  rw [h9] at K9
  rw [h10] at K10
  rw [h11] at K11
  rw [h12] at K12
  rw [h13] at K13
  clear h7 h8 h9 h10 h11 h12 h13
  go_enter Tryz.func122, Tryz.ntmps122
  go_wp2_with (first | (go_at_call 109; refine (isAddress _ _).mono ?_; rintro e w_ ⟨rfl, rfl⟩) | (go_at_call 110; refine (Ln.isWill _ _).mono ?_; rintro e w_ ⟨rfl, rfl⟩) | (go_at_call 111; refine (isSeq _ _).mono ?_; rintro e w_ ⟨rfl, rfl⟩) | (go_at_call 88; refine (within _ _ _ _).mono ?_; rintro e w_ ⟨rfl, rfl⟩))
  clear h1 h2 h3 h4 h5 h6
  generalize hW0 : w.alloc (.cells #[.int .i64 x1, .int .i64 x2, .int .i64 x3, .int .i64 x4, .int .i64 x5, .slice a1 ls.length c1, .slice a2 tw.length c2, .slice a3 se.length c3, .slice a4 du.length c4, .slice a5 ss.length c5, .slice a6 es.length c6, .slice a7 la.length c7, .int .i64 x6] 83) = W0 at *
  clear hW0
  refine (unhide K7 _ ((unhide HR1).below (unhide HAL).1)).mono ?_
  rintro e V7 ⟨rfl, b_⟩
  replace HAL := hide (al_below (unhide HAL) b_)
  clear b_
  have z0 := (unhide HAL).2.at (i := 0) rfl
  have z6 := (unhide HAL).2.at (i := 6) rfl
  go_wp2_with fail
  clear z0 z6
  refine (unhide K8 _ ((unhide HR2).below (unhide HAL).1)).mono ?_
  rintro e V8 ⟨rfl, b_⟩
  replace HAL := hide (al_below (unhide HAL) b_)
  clear b_
  have z7 := (unhide HAL).2.at (i := 7) rfl
  go_wp2_with fail
  clear z7
  refine (unhide K9 _ ((unhide HR3).below (unhide HAL).1)).mono ?_
  rintro e V9 ⟨rfl, b_⟩
  replace HAL := hide (al_below (unhide HAL) b_)
  clear b_
  have z8 := (unhide HAL).2.at (i := 8) rfl
  go_wp2_with fail
  clear z8
  refine (unhide K10 _ ((unhide HR4).below (unhide HAL).1)).mono ?_
  rintro e V10 ⟨rfl, b_⟩
  replace HAL := hide (al_below (unhide HAL) b_)
  clear b_
  have z9 := (unhide HAL).2.at (i := 9) rfl
  have z10 := (unhide HAL).2.at (i := 10) rfl
  go_wp2_with fail
  clear z9 z10
  refine (unhide K11 _ ((unhide HR5).below (unhide HAL).1) ((unhide HR6).below (unhide HAL).1)).mono ?_
  rintro e V11 ⟨rfl, b_⟩
  replace HAL := hide (al_below (unhide HAL) b_)
  clear b_
  have z9 := (unhide HAL).2.at (i := 9) rfl
  have z0 := (unhide HAL).2.at (i := 0) rfl
  go_wp2_with fail
  clear z9 z0
  refine (unhide K12 _ ((unhide HR5).below (unhide HAL).1)).mono ?_
  rintro e V12 ⟨rfl, b_⟩
  replace HAL := hide (al_below (unhide HAL) b_)
  clear b_
  have z11 := (unhide HAL).2.at (i := 11) rfl
  go_wp2_with fail
  clear z11
  refine (unhide K13 _ ((unhide HR7).below (unhide HAL).1)).mono ?_
  rintro e V13 ⟨rfl, b_⟩
  replace HAL := hide (al_below (unhide HAL) b_)
  clear b_
  go_wp2_with fail
  go_ret
  exact ⟨rfl, (unhide HAL).1⟩
end Rt
end Go.Proofs.YtfooahhdikobeaaGreat
