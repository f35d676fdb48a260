/-
  Of the texts RtrL, SetG, SetGc, TopG, Rl, RtrC, LnkM, LnkC, Ints, LnkS, TwoN, LnkI, LnkE, LnkV, TwoV, TwoX, SetP, SetK, TwoW, TwoY: what this claim needs of them. (put together by mkprune.py)
-/
import Derived.Test.YtffclijcfngeeaaGreatQe2
import Derived.Lib.AppendZeros
import Derived.OrdersHeld
import Derived.Deep.QuietTactic
import Derived.BigQuiet
import Derived.Deep.RegionHeld3
import Derived.Deep.DrawnRows
import Derived.Deep.Slices
import Derived.Laws.AppendOwn
import Derived.Laws.NewBlocks
import Derived.Deep.AppendLies
namespace Go.Proofs.YtffclijcfngeeaaGreat
open Go.ChangeShapes Go.WideShapes Go.ChangeAt Go.RowKit
set_option linter.unusedVariables false
set_option linter.unusedSimpArgs false
set_option maxRecDepth 100000
namespace Rt
open W1
/-- Seven lists that lie one behind the other between two bounds of the heap. -/
def RL (W : World) (lo hi : Nat) (a1 a2 a3 a4 a5 a6 a7 : Option Addr) (ls : List Lk.R) (tw : List Tu.R) (se : List Tu.R) (du : List Tu.R) (ss : List So.R) (es : List Tu.R) (la : List Ed.R) : Prop :=
  ∃ b1 b2 b3 b4 b5 b6 : Nat, (lo ≤ b1 ∧ b1 ≤ b2 ∧ b2 ≤ b3 ∧ b3 ≤ b4 ∧ b4 ≤ b5 ∧ b5 ≤ b6 ∧ b6 ≤ hi) ∧ Lk.Lst W a1 (ls) lo b1 ∧ Tu.Lst W a2 (tw) b1 b2 ∧ Tu.Lst W a3 (se) b2 b3 ∧ Tu.Lst W a4 (du) b3 b4 ∧ So.Lst W a5 (ss) b4 b5 ∧ Tu.Lst W a6 (es) b5 b6 ∧ Ed.Lst W a7 (la) b6 hi
theorem RL.below {W W' : World} {lo hi : Nat} {a1 a2 a3 a4 a5 a6 a7 : Option Addr} {ls : List Lk.R} {tw : List Tu.R} {se : List Tu.R} {du : List Tu.R} {ss : List So.R} {es : List Tu.R} {la : List Ed.R} (h : RL W lo hi a1 a2 a3 a4 a5 a6 a7 ls tw se du ss es la) (hb : Below W.heap.size W W') : RL W' lo hi a1 a2 a3 a4 a5 a6 a7 ls tw se du ss es la := by
  obtain ⟨b1, b2, b3, b4, b5, b6, ⟨o0, o1, o2, o3, o4, o5, o6⟩, h1, h2, h3, h4, h5, h6, h7⟩ := h
  exact ⟨b1, b2, b3, b4, b5, b6, ⟨o0, o1, o2, o3, o4, o5, o6⟩, h1.below hb, h2.below hb, h3.below hb, h4.below hb, h5.below hb, h6.below hb, h7.below hb⟩
theorem RL.but {W W' : World} {lo hi L H : Nat} {a1 a2 a3 a4 a5 a6 a7 : Option Addr} {ls : List Lk.R} {tw : List Tu.R} {se : List Tu.R} {du : List Tu.R} {ss : List So.R} {es : List Tu.R} {la : List Ed.R} (h : RL W lo hi a1 a2 a3 a4 a5 a6 a7 ls tw se du ss es la) (hs : W.heap.size ≤ W'.heap.size) (hb : ∀ k, k < W.heap.size → (k < L ∨ H ≤ k) → W'.heap[k]? = W.heap[k]?) (hd : hi ≤ L ∨ H ≤ lo) : RL W' lo hi a1 a2 a3 a4 a5 a6 a7 ls tw se du ss es la := by
  obtain ⟨b1, b2, b3, b4, b5, b6, ⟨o0, o1, o2, o3, o4, o5, o6⟩, h1, h2, h3, h4, h5, h6, h7⟩ := h
  exact ⟨b1, b2, b3, b4, b5, b6, ⟨o0, o1, o2, o3, o4, o5, o6⟩, h1.but (p := fun k => k < L ∨ H ≤ k) hs (fun k hk h => hb k hk h) (fun k h1 h2 => by omega), h2.but (p := fun k => k < L ∨ H ≤ k) hs (fun k hk h => hb k hk h) (fun k h1 h2 => by omega), h3.but (p := fun k => k < L ∨ H ≤ k) hs (fun k hk h => hb k hk h) (fun k h1 h2 => by omega), h4.but (p := fun k => k < L ∨ H ≤ k) hs (fun k hk h => hb k hk h) (fun k h1 h2 => by omega), h5.but (p := fun k => k < L ∨ H ≤ k) hs (fun k hk h => hb k hk h) (fun k h1 h2 => by omega), h6.but (p := fun k => k < L ∨ H ≤ k) hs (fun k hk h => hb k hk h) (fun k h1 h2 => by omega), h7.but (p := fun k => k < L ∨ H ≤ k) hs (fun k hk h => hb k hk h) (fun k h1 h2 => by omega)⟩
theorem RL.r1 {W : World} {lo hi : Nat} {a1 a2 a3 a4 a5 a6 a7 : Option Addr} {ls : List Lk.R} {tw : List Tu.R} {se : List Tu.R} {du : List Tu.R} {ss : List So.R} {es : List Tu.R} {la : List Ed.R} (h : RL W lo hi a1 a2 a3 a4 a5 a6 a7 ls tw se du ss es la) : Lk.RM W a1 ls := by obtain ⟨b1, b2, b3, b4, b5, b6, ⟨o0, o1, o2, o3, o4, o5, o6⟩, h1, h2, h3, h4, h5, h6, h7⟩ := h; exact h1.rm
theorem RL.r2 {W : World} {lo hi : Nat} {a1 a2 a3 a4 a5 a6 a7 : Option Addr} {ls : List Lk.R} {tw : List Tu.R} {se : List Tu.R} {du : List Tu.R} {ss : List So.R} {es : List Tu.R} {la : List Ed.R} (h : RL W lo hi a1 a2 a3 a4 a5 a6 a7 ls tw se du ss es la) : Tu.RM W a2 tw := by obtain ⟨b1, b2, b3, b4, b5, b6, ⟨o0, o1, o2, o3, o4, o5, o6⟩, h1, h2, h3, h4, h5, h6, h7⟩ := h; exact h2.rm
theorem RL.r3 {W : World} {lo hi : Nat} {a1 a2 a3 a4 a5 a6 a7 : Option Addr} {ls : List Lk.R} {tw : List Tu.R} {se : List Tu.R} {du : List Tu.R} {ss : List So.R} {es : List Tu.R} {la : List Ed.R} (h : RL W lo hi a1 a2 a3 a4 a5 a6 a7 ls tw se du ss es la) : Tu.RM W a3 se := by obtain ⟨b1, b2, b3, b4, b5, b6, ⟨o0, o1, o2, o3, o4, o5, o6⟩, h1, h2, h3, h4, h5, h6, h7⟩ := h; exact h3.rm
theorem RL.r4 {W : World} {lo hi : Nat} {a1 a2 a3 a4 a5 a6 a7 : Option Addr} {ls : List Lk.R} {tw : List Tu.R} {se : List Tu.R} {du : List Tu.R} {ss : List So.R} {es : List Tu.R} {la : List Ed.R} (h : RL W lo hi a1 a2 a3 a4 a5 a6 a7 ls tw se du ss es la) : Tu.RM W a4 du := by obtain ⟨b1, b2, b3, b4, b5, b6, ⟨o0, o1, o2, o3, o4, o5, o6⟩, h1, h2, h3, h4, h5, h6, h7⟩ := h; exact h4.rm
theorem RL.r5 {W : World} {lo hi : Nat} {a1 a2 a3 a4 a5 a6 a7 : Option Addr} {ls : List Lk.R} {tw : List Tu.R} {se : List Tu.R} {du : List Tu.R} {ss : List So.R} {es : List Tu.R} {la : List Ed.R} (h : RL W lo hi a1 a2 a3 a4 a5 a6 a7 ls tw se du ss es la) : So.RM W a5 ss := by obtain ⟨b1, b2, b3, b4, b5, b6, ⟨o0, o1, o2, o3, o4, o5, o6⟩, h1, h2, h3, h4, h5, h6, h7⟩ := h; exact h5.rm
theorem RL.r6 {W : World} {lo hi : Nat} {a1 a2 a3 a4 a5 a6 a7 : Option Addr} {ls : List Lk.R} {tw : List Tu.R} {se : List Tu.R} {du : List Tu.R} {ss : List So.R} {es : List Tu.R} {la : List Ed.R} (h : RL W lo hi a1 a2 a3 a4 a5 a6 a7 ls tw se du ss es la) : Tu.RM W a6 es := by obtain ⟨b1, b2, b3, b4, b5, b6, ⟨o0, o1, o2, o3, o4, o5, o6⟩, h1, h2, h3, h4, h5, h6, h7⟩ := h; exact h6.rm
theorem RL.r7 {W : World} {lo hi : Nat} {a1 a2 a3 a4 a5 a6 a7 : Option Addr} {ls : List Lk.R} {tw : List Tu.R} {se : List Tu.R} {du : List Tu.R} {ss : List So.R} {es : List Tu.R} {la : List Ed.R} (h : RL W lo hi a1 a2 a3 a4 a5 a6 a7 ls tw se du ss es la) : Ed.RM W a7 la := by obtain ⟨b1, b2, b3, b4, b5, b6, ⟨o0, o1, o2, o3, o4, o5, o6⟩, h1, h2, h3, h4, h5, h6, h7⟩ := h; exact h7.rm
theorem toRL (x1 x2 x3 x4 x5 x6 : Int) (a1 a2 a3 a4 a5 a6 a7 : Option Addr) (c1 c2 c3 c4 c5 c6 c7 : Nat) (ls : List Lk.R) (tw : List Tu.R) (se : List Tu.R) (du : List Tu.R) (ss : List So.R) (es : List Tu.R) (la : List Ed.R) (w : World) (hm1 : ls.length ≤ 1048576) (hm2 : tw.length ≤ 1048576) (hm3 : se.length ≤ 1048576) (hm4 : du.length ≤ 1048576) (hm5 : ss.length ≤ 1048576) (hm6 : es.length ≤ 1048576) (hm7 : la.length ≤ 1048576) (hr1 : Lk.RM w a1 ls) (hr2 : Tu.RM w a2 tw) (hr3 : Tu.RM w a3 se) (hr4 : Tu.RM w a4 du) (hr5 : So.RM w a5 ss) (hr6 : Tu.RM w a6 es) (hr7 : Ed.RM w a7 la) :
    Calls Tryz.prog 9 #[.agg #[.int .i64 x1, .int .i64 x2, .int .i64 x3, .int .i64 x4, .int .i64 x5, .slice a1 ls.length c1, .slice a2 tw.length c2, .slice a3 se.length c3, .slice a4 du.length c4, .slice a5 ss.length c5, .slice a6 es.length c6, .slice a7 la.length c7, .int .i64 x6]] w fun e w' => ∃ g1 g2 g3 g4 g5 g6 g7, e = .returned (.agg (rC x1 x2 x3 x4 x5 (.slice (some ⟨g1, 0, none⟩) ls.length ls.length) (.slice (some ⟨g2, 0, none⟩) tw.length tw.length) (.slice (some ⟨g3, 0, none⟩) se.length se.length) (.slice (some ⟨g4, 0, none⟩) du.length du.length) (.slice (some ⟨g5, 0, none⟩) ss.length ss.length) (.slice (some ⟨g6, 0, none⟩) es.length es.length) (.slice (some ⟨g7, 0, none⟩) la.length la.length) x6).toArray) ∧ Below w.heap.size w w' ∧ RL w' w.heap.size w'.heap.size (some ⟨g1, 0, none⟩) (some ⟨g2, 0, none⟩) (some ⟨g3, 0, none⟩) (some ⟨g4, 0, none⟩) (some ⟨g5, 0, none⟩) (some ⟨g6, 0, none⟩) (some ⟨g7, 0, none⟩) ls tw se du ss es la := by
  refine (toR x1 x2 x3 x4 x5 x6 a1 a2 a3 a4 a5 a6 a7 c1 c2 c3 c4 c5 c6 c7 ls tw se du ss es la w hm1 hm2 hm3 hm4 hm5 hm6 hm7 hr1 hr2 hr3 hr4 hr5 hr6 hr7).mono ?_
  rintro e w' ⟨g1, g2, g3, g4, g5, g6, g7, rfl, hb, ⟨o0, o1, o2, o3, o4, o5, o6, o7⟩, u1, u2, u3, u4, u5, u6, u7⟩
  refine ⟨g1, g2, g3, g4, g5, g6, g7, rfl, hb, g2, g3, g4, g5, g6, g7, ⟨by omega, by omega, by omega, by omega, by omega, by omega, by omega⟩, .inr ⟨g1, rfl, by omega, by omega, by omega, u1⟩, .inr ⟨g2, rfl, by omega, by omega, by omega, u2⟩, .inr ⟨g3, rfl, by omega, by omega, by omega, u3⟩, .inr ⟨g4, rfl, by omega, by omega, by omega, u4⟩, .inr ⟨g5, rfl, by omega, by omega, by omega, u5⟩, .inr ⟨g6, rfl, by omega, by omega, by omega, u6⟩, .inr ⟨g7, rfl, by omega, by omega, by omega, u7⟩⟩
theorem markRL (x1 x2 x3 x4 x5 x6 : Int) (a1 a2 a3 a4 a5 a6 a7 : Option Addr) (c1 c2 c3 c4 c5 c6 c7 : Nat) (lo hi : Nat) (K : Int) (ls : List Lk.R) (tw : List Tu.R) (se : List Tu.R) (du : List Tu.R) (ss : List So.R) (es : List Tu.R) (la : List Ed.R) (w : World) (hK : 0 ≤ K) (hK1 : K ≤ 900000000) (hm1 : ls.length ≤ 1048576) (hm2 : tw.length ≤ 1048576) (hm3 : se.length ≤ 1048576) (hm4 : du.length ≤ 1048576) (hm5 : ss.length ≤ 1048576) (hm6 : es.length ≤ 1048576) (hm7 : la.length ≤ 1048576) (hhi : hi ≤ w.heap.size) (h : RL w lo hi a1 a2 a3 a4 a5 a6 a7 ls tw se du ss es la) :
    Calls Tryz.prog 13 #[.agg #[.int .i64 x1, .int .i64 x2, .int .i64 x3, .int .i64 x4, .int .i64 x5, .slice a1 ls.length c1, .slice a2 tw.length c2, .slice a3 se.length c3, .slice a4 du.length c4, .slice a5 ss.length c5, .slice a6 es.length c6, .slice a7 la.length c7, .int .i64 x6], .int .i64 K] w fun e w' => ∃ K7 : Int, e = .returned (.int .i64 K7) ∧ Hid (K7 = K + 6 * (ls.length : Int) + 3 * (tw.length : Int) + 3 * (se.length : Int) + 3 * (du.length : Int) + 3 * (ss.length : Int) + 3 * (es.length : Int) + 2 * (la.length : Int)) ∧ w.heap.size ≤ w'.heap.size ∧ Below (min lo w.heap.size) w w' ∧ ∀ k, k < w.heap.size → (k < lo ∨ hi ≤ k) → w'.heap[k]? = w.heap[k]? := by
  obtain ⟨b1, b2, b3, b4, b5, b6, ⟨o0, o1, o2, o3, o4, o5, o6⟩, h1, h2, h3, h4, h5, h6, h7⟩ := h
  refine (markRt x1 x2 x3 x4 x5 x6 a1 a2 a3 a4 a5 a6 a7 c1 c2 c3 c4 c5 c6 c7 lo b1 b2 b3 b4 b5 b6 hi K (K + 6 * (ls.length : Int)) ((K + 6 * (ls.length : Int)) + 3 * (tw.length : Int)) (((K + 6 * (ls.length : Int)) + 3 * (tw.length : Int)) + 3 * (se.length : Int)) ((((K + 6 * (ls.length : Int)) + 3 * (tw.length : Int)) + 3 * (se.length : Int)) + 3 * (du.length : Int)) (((((K + 6 * (ls.length : Int)) + 3 * (tw.length : Int)) + 3 * (se.length : Int)) + 3 * (du.length : Int)) + 3 * (ss.length : Int)) ((((((K + 6 * (ls.length : Int)) + 3 * (tw.length : Int)) + 3 * (se.length : Int)) + 3 * (du.length : Int)) + 3 * (ss.length : Int)) + 3 * (es.length : Int)) (((((((K + 6 * (ls.length : Int)) + 3 * (tw.length : Int)) + 3 * (se.length : Int)) + 3 * (du.length : Int)) + 3 * (ss.length : Int)) + 3 * (es.length : Int)) + 2 * (la.length : Int)) ls tw se du ss es la w hK hK1 rfl rfl rfl rfl rfl rfl rfl hm1 hm2 hm3 hm4 hm5 hm6 hm7 o0 o1 o2 o3 o4 o5 o6 hhi h1 h2 h3 h4 h5 h6 h7).mono ?_
  rintro e w' ⟨rfl, hz, hb, _, hk⟩
  exact ⟨_, rfl, hide (by omega), hz, hb, hk⟩
theorem infoL : Tryz.prog.underlying 29 = some (Tryz.prog.underlying 29).get! ∧ ((Tryz.prog.underlying 29).get!).isRow = true ∧ (Tryz.prog.info? 29).map (·.size) = some 13 := ⟨by kernel_rfl, by kernel_rfl, by kernel_rfl⟩
/-- A router of the laws is read whole. -/
theorem wpList_loadL {ops : Array Oper} {rest : List Oper} {op : Oper} {a : Act} {w : World} {Q : Exit → Act → World → Prop} (x : Operand) (hgd : op.guard = none) (ho : op.op = .load 29 x) {b : Nat} {cs : List Value} (hx : a.eval x = .pointer (some ⟨b, 0, none⟩)) (h : RA w b cs)
    (hk : wpList Tryz.prog ops Q rest (a.put op.dst (.agg cs.toArray)) w) : wpList Tryz.prog ops Q (op :: rest) a w :=
  wpList_load_mid hgd 29 x ho b 0 hx cs _ h.1 infoL.1 infoL.2.1 (h.2.2 ▸ infoL.2.2) hk
theorem run_execL {op : Oper} {a : Act} {w : World} (x : Operand) (ho : op.op = .load 29 x) {b : Nat} {cs : List Value} (hx : a.eval x = .pointer (some ⟨b, 0, none⟩)) (h : RA w b cs) : (execOp a.eval op).run Tryz.prog w = .ok (.value (.agg cs.toArray)) w := by
  unfold execOp
  simp only [ho, hx, Instr.loadAt, Instr.sureAddr, Sem.run_bind, Sem.run_pure, Result.andThen_ok, run_loadVar_mid w b 0 29 cs _ h.1 infoL.1 infoL.2.1 (h.2.2 ▸ infoL.2.2)]
end Rt
end Go.Proofs.YtffclijcfngeeaaGreat
namespace Go.Proofs.YtffclijcfngeeaaGreat
open Go.ChangeShapes Go.WideShapes Go.ChangeAt Go.RowKit
set_option linter.unusedVariables false
set_option linter.unusedSimpArgs false
attribute [local go_sem ↓] Go.wp_at_zero Go.wp_at_succ
namespace St
open W1 Tu
theorem copied (g off : Nat) (ms : List R) (cap n : Nat) (w : World) (hn : ms.length = n) (hm : ms.length ≤ 4096) (hr : RM w (some ⟨g, off, none⟩) ms) :
    Calls Tryz.prog 121 #[.slice (some ⟨g, off, none⟩) n cap] w fun e w' => ∃ v, e = .returned v ∧ Below w.heap.size w w' ∧ LstV w' v ms w.heap.size w'.heap.size := by
  have HR := hide hr
  have O0 := hide (own_nil w w.heap.size)
  clear hr
  go_enter Tryz.func121, Tryz.ntmps121
  go_wp2_with (at_builtin; refine wpList_apS (unhide O0) g off n cap ms hn (unhide HR) (by simp; omega) (by simp) rfl _ _ rfl rfl rfl ?_; intro v' w' ho hg; have HL := hide (lst_own rfl ho); have HB := hide (below_own (Below.refl _ _) (unhide O0) hg (Nat.le_refl _) (Nat.le_refl _)); clear ho hg)
  go_ret
  exact ⟨_, rfl, unhide HB, unhide HL⟩
/-- One of the lists that are put together. -/
structure Seg where
  g : Nat
  off : Nat
  cap : Nat
  ms : List R
def Seg.zero : Seg := ⟨0, 0, 0, []⟩
/-- The lists stand in block h, and read so. -/
def Segs (w : World) (h : Nat) (ss : List Seg) : Prop := ∀ i, i < ss.length → w.cell? ⟨h, i, none⟩ = some (.slice (some ⟨(ss.getD i Seg.zero).g, (ss.getD i Seg.zero).off, none⟩) (ss.getD i Seg.zero).ms.length (ss.getD i Seg.zero).cap) ∧ RM w (some ⟨(ss.getD i Seg.zero).g, (ss.getD i Seg.zero).off, none⟩) (ss.getD i Seg.zero).ms
theorem Segs.below {w w' : World} {h : Nat} {ss : List Seg} (hs : Segs w h ss) (hb : Below w.heap.size w w') : Segs w' h ss := fun i hi => by
  obtain ⟨h1, h2⟩ := hs i hi
  exact ⟨(hb.cell (p := ⟨h, i, none⟩) (World.block_lt_of_cell? _ _ h1)).trans h1, h2.below hb⟩
end St
end Go.Proofs.YtffclijcfngeeaaGreat
namespace Go.Proofs.YtffclijcfngeeaaGreat
open Go.ChangeShapes Go.WideShapes Go.ChangeAt Go.RowKit
set_option linter.unusedVariables false
set_option linter.unusedSimpArgs false
attribute [local go_sem ↓] Go.wp_at_zero Go.wp_at_succ
namespace St
open W1 Tu
/-- What a slice of one's own looks like: its capacity, and where it lies. -/
def Shp (v : Value) : Prop := ∃ a n c, v = .slice a n c ∧ n ≤ c ∧ c ≤ maxLen ∧ (a = none ∨ ∃ g, a = some ⟨g, 0, none⟩)
theorem Shp.at {a : Option Addr} {n c : Nat} (h : Shp (.slice a n c)) : n ≤ c ∧ c ≤ maxLen ∧ (a = none ∨ ∃ g, a = some ⟨g, 0, none⟩) := by
  obtain ⟨a', n', c', e, h⟩ := h
  cases e
  exact h
end St
end Go.Proofs.YtffclijcfngeeaaGreat
namespace Go.Proofs.YtffclijcfngeeaaGreat
open Go.ChangeShapes Go.WideShapes Go.ChangeAt Go.RowKit
set_option linter.unusedVariables false
set_option linter.unusedSimpArgs false
set_option maxRecDepth 100000
attribute [local go_sem ↓] Go.wp_at_zero Go.wp_at_succ
namespace Tp
open W1 So
theorem copied (g off : Nat) (ms : List R) (cap n : Nat) (w : World) (hn : ms.length = n) (hm : ms.length ≤ 4096) (hr : RM w (some ⟨g, off, none⟩) ms) :
    Calls Tryz.prog 122 #[.slice (some ⟨g, off, none⟩) n cap] w fun e w' => ∃ v, e = .returned v ∧ Below w.heap.size w w' ∧ LstV w' v ms w.heap.size w'.heap.size := by
  have HR := hide hr
  have O0 := hide (own_nil w w.heap.size)
  clear hr
  go_enter Tryz.func122, Tryz.ntmps122
  go_wp2_with (at_builtin; refine wpList_apS (unhide O0) g off n cap ms hn (unhide HR) (by simp; omega) (by simp) rfl _ _ rfl rfl rfl ?_; intro v' w' ho hg; have HL := hide (lst_own rfl ho); have HB := hide (below_own (Below.refl _ _) (unhide O0) hg (Nat.le_refl _) (Nat.le_refl _)); clear ho hg)
  go_ret
  exact ⟨_, rfl, unhide HB, unhide HL⟩
/-- One of the lists that are put together. -/
structure Seg where
  g : Nat
  off : Nat
  cap : Nat
  ms : List R
def Seg.zero : Seg := ⟨0, 0, 0, []⟩
/-- The lists stand in block h, and read so. -/
def Segs (w : World) (h : Nat) (ss : List Seg) : Prop := ∀ i, i < ss.length → w.cell? ⟨h, i, none⟩ = some (.slice (some ⟨(ss.getD i Seg.zero).g, (ss.getD i Seg.zero).off, none⟩) (ss.getD i Seg.zero).ms.length (ss.getD i Seg.zero).cap) ∧ RM w (some ⟨(ss.getD i Seg.zero).g, (ss.getD i Seg.zero).off, none⟩) (ss.getD i Seg.zero).ms
theorem Segs.below {w w' : World} {h : Nat} {ss : List Seg} (hs : Segs w h ss) (hb : Below w.heap.size w w') : Segs w' h ss := fun i hi => by
  obtain ⟨h1, h2⟩ := hs i hi
  exact ⟨(hb.cell (p := ⟨h, i, none⟩) (World.block_lt_of_cell? _ _ h1)).trans h1, h2.below hb⟩
end Tp
end Go.Proofs.YtffclijcfngeeaaGreat
namespace Go.Proofs.YtffclijcfngeeaaGreat
namespace Rl
variable {P : Program} {ops : Array Oper} {Q : Exit → Act → World → Prop} {md : Region.Mode} {S T : World → Prop} {k : Nat}
/-- Whatever order is picked from here on, S holds behind every operation that is carried out, and T as long as k has not come up. -/
def wpAnyL (P : Program) (md : Region.Mode) (ops : Array Oper) (Q : Exit → Act → World → Prop) (S T : World → Prop) (k : Nat) : Nat → Array Bool → Act → World → Prop
  | 0, listed, a, w => Region.ready md ops listed = [] ∧ Q .normal a w
  | fuel + 1, listed, a, w =>
    (Region.ready md ops listed = [] → Q .normal a w) ∧
    ∀ i ∈ Region.ready md ops listed, wpOp P ops Q i (fun a' w' => (S w' ∧ ((listed.setIfInBounds i true).getD k true = false → T w')) ∧ wpAnyL P md ops Q S T k fuel (listed.setIfInBounds i true) a' w') a w
theorem wpAny_of : ∀ (fuel : Nat) (listed : Array Bool) (a : Act) (w : World), wpAnyL P md ops Q S T k fuel listed a w → wpAny P md ops Q fuel listed a w
  | 0, _, _, _, h => h
  | fuel + 1, _, _, _, h => ⟨h.1, fun i hi => wpOp_mono (fun a' w' h' => wpAny_of fuel _ a' w' h'.2) (h.2 i hi)⟩
theorem first {i : Nat} {oi ok : Oper} {v : Value} (hi : ops[i]? = some oi) (hk : ops[k]? = some ok) (hki : k ≠ i) (hsel : ∀ (j : Nat) (o : Oper) cs b, ops[j]? = some o → o.op ≠ .select cs b)
    (hwait : ∃ e ∈ ok.after, Region.binds md e = true ∧ e.on = i)
    (hQ : ∀ c a w, Q (.panic c) (a.put oi.dst v) w → Q (.panic c) a w) :
    ∀ (fuel : Nat) (listed : Array Bool) (a : Act) (w : World),
      (∀ j oj, ops[j]? = some oj → j ≠ i → listed.getD j true = false → (∀ e ∈ oj.after, Region.binds md e = true → e.on ≠ i) → oi.apart ops oj = true) →
      i ∈ Region.ready md ops listed → YieldsIf P ops (fun w => S w ∧ T w) oi v a → listed.getD k true = false → S w ∧ T w →
      wpAnyL P md ops Q S T k fuel (listed.setIfInBounds i true) (a.put oi.dst v) w → wpAnyL P md ops Q S T k (fuel + 1) listed a w := by
  intro fuel
  induction fuel with
  | zero =>
    intro listed a w _ hr hy hlk hS H
    refine ⟨fun h => (by rw [h] at hr; cases hr), fun j hj => ?_⟩
    by_cases hji : j = i
    · subst hji; exact hy.wpOp hi hS ⟨⟨hS.1, fun _ => hS.2⟩, H⟩
    · have := ready_mono hj hji
      rw [H.1] at this
      cases this
  | succ fuel ih =>
    intro listed a w hfree hr hy hlk hS H
    refine ⟨fun h => (by rw [h] at hr; cases hr), fun j hj => ?_⟩
    by_cases hji : j = i
    · subst hji; exact hy.wpOp hi hS ⟨⟨hS.1, fun _ => hS.2⟩, H⟩
    · have h1 := H.2 j (ready_mono hj hji)
      obtain ⟨hjun, oj, hoj, hall⟩ := mem_ready.1 hj
      have hnot : ∀ e ∈ oj.after, Region.binds md e = true → e.on ≠ i := fun e he hb heq => by
        have h1 := hall e he hb
        have h0 := (mem_ready.1 hr).1
        rw [heq] at h1
        rcases Nat.lt_or_ge i listed.size with h' | h'
        · simp [h'] at h0 h1; rw [h0] at h1; cases h1
        · simp [Array.getElem?_eq_none h'] at h1
      have hjk : j ≠ k := fun e => by
        subst e
        rw [hk] at hoj; cases hoj
        obtain ⟨e, he, hb, hon⟩ := hwait
        exact hnot e he hb hon
      have hlj : (listed.setIfInBounds j true).getD k true = false := by rw [getD_set_ne true hjk]; exact hlk
      have hlij : ((listed.setIfInBounds i true).setIfInBounds j true).getD k true = false := by rw [getD_set_ne true hjk, getD_set_ne true (Ne.symm hki)]; exact hlk
      have h2 := wpOp_putIf hoj (hfree j oj hoj hji hjun hnot) (fun cs b => hsel i oi cs b hi) (fun cs b => hsel j oj cs b hoj) hQ hy h1
      have hfree' : ∀ k ok, ops[k]? = some ok → k ≠ i → (listed.setIfInBounds j true).getD k true = false →
          (∀ e ∈ ok.after, Region.binds md e = true → e.on ≠ i) → oi.apart ops ok = true := fun k ok hk hki hun hno => by
        refine hfree k ok hk hki ?_ hno
        by_cases hjk : j = k
        · subst hjk; exact hjun
        · rw [getD_set_ne true hjk] at hun; exact hun
      refine wpOp_mono (fun a' w' h3 => ⟨⟨h3.2.1.1, fun _ => h3.2.1.2 hlij⟩, ih (listed.setIfInBounds j true) a' w' hfree' (ready_mono hr (Ne.symm hji)) h3.1 hlj ⟨h3.2.1.1, h3.2.1.2 hlij⟩ ?_⟩) h2
      rw [Array.setIfInBounds_comm _ _ hji]
      exact h3.2.2
/-- Whether operation k waits for i. -/
def waits (md : Region.Mode) (ops : Array Oper) (k i : Nat) : Bool := match ops[k]? with | some ok => ok.after.any (fun e => Region.binds md e && e.on == i) | none => false
theorem waits_spec {i : Nat} (h : waits md ops k i = true) : ∃ ok, ops[k]? = some ok ∧ ∃ e ∈ ok.after, Region.binds md e = true ∧ e.on = i := by
  unfold waits at h
  split at h
  · rename_i ok ho
    obtain ⟨e, he, hh⟩ := Array.any_eq_true'.1 h
    rw [Bool.and_eq_true] at hh
    exact ⟨ok, ho, e, he, hh.1, by simpa using hh.2⟩
  · cases h
/-- Take number i first, into slot d. -/
theorem tk {i d : Nat} {oi : Oper} {v : Value} {fuel : Nat} {listed : Array Bool} {a : Act} {w : World} (hi : ops[i]? = some oi) (hd : oi.dst = some d)
    (hs : Region.noSelect ops = true) (hf : Region.free md ops listed i = true) (hr : (Region.ready md ops listed).contains i = true) (hw : waits md ops k i = true) (hki : (k == i) = false) (hlk : listed.getD k true = false)
    (hQ : ∀ c a w, Q (.panic c) (a.put oi.dst v) w → Q (.panic c) a w) (hy : Region.wanted oi (yielded ops a.tmps) = true) (hv : ∀ w, S w ∧ T w → (execOp a.eval oi).run P w = .ok (.value v) w) (hS : S w ∧ T w)
    (h : wpAnyL P md ops Q S T k fuel (listed.setIfInBounds i true) (a.put (some d) v) w) : wpAnyL P md ops Q S T k (fuel + 1) listed a w := by
  obtain ⟨ok, hok, hwt⟩ := waits_spec hw
  exact first hi hok (fun e => by subst e; simp at hki) (Region.noSelect_spec hs) hwt hQ fuel listed a w (Region.free_spec hi hf) (by simpa using hr) (.inl ⟨hy, hv⟩) hlk hS (by rw [hd]; exact h)
/-- What yields under S alone may be taken first whether k waits for it or not. -/
theorem firstS {i : Nat} {oi : Oper} {v : Value} (hi : ops[i]? = some oi) (hki : k ≠ i) (hsel : ∀ (j : Nat) (o : Oper) cs b, ops[j]? = some o → o.op ≠ .select cs b)
    (hQ : ∀ c a w, Q (.panic c) (a.put oi.dst v) w → Q (.panic c) a w) :
    ∀ (fuel : Nat) (listed : Array Bool) (a : Act) (w : World),
      (∀ j oj, ops[j]? = some oj → j ≠ i → listed.getD j true = false → (∀ e ∈ oj.after, Region.binds md e = true → e.on ≠ i) → oi.apart ops oj = true) →
      i ∈ Region.ready md ops listed → YieldsIf P ops S oi v a → S w ∧ (listed.getD k true = false → T w) →
      wpAnyL P md ops Q S T k fuel (listed.setIfInBounds i true) (a.put oi.dst v) w → wpAnyL P md ops Q S T k (fuel + 1) listed a w := by
  intro fuel
  induction fuel with
  | zero =>
    intro listed a w _ hr hy hS H
    refine ⟨fun h => (by rw [h] at hr; cases hr), fun j hj => ?_⟩
    by_cases hji : j = i
    · subst hji; exact hy.wpOp hi hS.1 ⟨⟨hS.1, fun h => hS.2 (by rw [getD_set_ne true (Ne.symm hki)] at h; exact h)⟩, H⟩
    · have := ready_mono hj hji
      rw [H.1] at this
      cases this
  | succ fuel ih =>
    intro listed a w hfree hr hy hS H
    refine ⟨fun h => (by rw [h] at hr; cases hr), fun j hj => ?_⟩
    by_cases hji : j = i
    · subst hji; exact hy.wpOp hi hS.1 ⟨⟨hS.1, fun h => hS.2 (by rw [getD_set_ne true (Ne.symm hki)] at h; exact h)⟩, H⟩
    · have h1 := H.2 j (ready_mono hj hji)
      obtain ⟨hjun, oj, hoj, hall⟩ := mem_ready.1 hj
      have hnot : ∀ e ∈ oj.after, Region.binds md e = true → e.on ≠ i := fun e he hb heq => by
        have h1 := hall e he hb
        have h0 := (mem_ready.1 hr).1
        rw [heq] at h1
        rcases Nat.lt_or_ge i listed.size with h' | h'
        · simp [h'] at h0 h1; rw [h0] at h1; cases h1
        · simp [Array.getElem?_eq_none h'] at h1
      have hsame : ((listed.setIfInBounds i true).setIfInBounds j true).getD k true = (listed.setIfInBounds j true).getD k true := by rw [Array.setIfInBounds_comm _ _ (Ne.symm hji), getD_set_ne true (Ne.symm hki)]
      have h2 := wpOp_putIf hoj (hfree j oj hoj hji hjun hnot) (fun cs b => hsel i oi cs b hi) (fun cs b => hsel j oj cs b hoj) hQ hy h1
      have hfree' : ∀ k ok, ops[k]? = some ok → k ≠ i → (listed.setIfInBounds j true).getD k true = false →
          (∀ e ∈ ok.after, Region.binds md e = true → e.on ≠ i) → oi.apart ops ok = true := fun k ok hk hki hun hno => by
        refine hfree k ok hk hki ?_ hno
        by_cases hjk : j = k
        · subst hjk; exact hjun
        · rw [getD_set_ne true hjk] at hun; exact hun
      refine wpOp_mono (fun a' w' h3 => ⟨⟨h3.2.1.1, fun h => h3.2.1.2 (hsame.trans h)⟩, ih (listed.setIfInBounds j true) a' w' hfree' (ready_mono hr (Ne.symm hji)) h3.1 ⟨h3.2.1.1, fun h => h3.2.1.2 (hsame.trans h)⟩ ?_⟩) h2
      rw [Array.setIfInBounds_comm _ _ hji]
      exact h3.2.2
theorem tkS {i d : Nat} {oi : Oper} {v : Value} {fuel : Nat} {listed : Array Bool} {a : Act} {w : World} (hi : ops[i]? = some oi) (hd : oi.dst = some d)
    (hs : Region.noSelect ops = true) (hf : Region.free md ops listed i = true) (hr : (Region.ready md ops listed).contains i = true) (hki : (k == i) = false)
    (hQ : ∀ c a w, Q (.panic c) (a.put oi.dst v) w → Q (.panic c) a w) (hy : Region.wanted oi (yielded ops a.tmps) = true) (hv : ∀ w, S w → (execOp a.eval oi).run P w = .ok (.value v) w) (hS : S w ∧ T w)
    (h : wpAnyL P md ops Q S T k fuel (listed.setIfInBounds i true) (a.put (some d) v) w) : wpAnyL P md ops Q S T k (fuel + 1) listed a w :=
  firstS hi (fun e => by subst e; simp at hki) (Region.noSelect_spec hs) hQ fuel listed a w (Region.free_spec hi hf) (by simpa using hr) (.inl ⟨hy, hv⟩) ⟨hS.1, fun _ => hS.2⟩ (by rw [hd]; exact h)
/-- Each of the operations rs comes up next. -/
def AllReadyL (P : Program) (md : Region.Mode) (ops : Array Oper) (Q : Exit → Act → World → Prop) (S T : World → Prop) (k : Nat) (fuel : Nat) (listed : Array Bool) (a : Act) (w : World) (rs : List Nat) : Prop :=
  ∀ i ∈ rs, wpOp P ops Q i (fun a' w' => (S w' ∧ ((listed.setIfInBounds i true).getD k true = false → T w')) ∧ wpAnyL P md ops Q S T k fuel (listed.setIfInBounds i true) a' w') a w
theorem AllReadyL.nil {fuel : Nat} {listed : Array Bool} {a : Act} {w : World} : AllReadyL P md ops Q S T k fuel listed a w [] := fun _ h => by cases h
theorem AllReadyL.cons {fuel : Nat} {listed : Array Bool} {a : Act} {w : World} {i : Nat} {o : Oper} {rs : List Nat} (ho : ops[i]? = some o) (hik : (i == k) = false)
    (h : ∀ K' : Act → World → Prop, Shut (∀ a w, S w ∧ T w → (S w ∧ T w → wpAnyL P md ops Q S T k fuel (listed.setIfInBounds i true) a w) → K' a w) → if Region.wanted o (yielded ops a.tmps) = true then Oper.wp P o a w K' Q else K' (a.put o.dst undef) w)
    (hs : AllReadyL P md ops Q S T k fuel listed a w rs) : AllReadyL P md ops Q S T k fuel listed a w (i :: rs) := fun j hj => by
  rcases List.mem_cons.1 hj with rfl | hj
  · exact wpOp_step ho (fun K' hK => h K' (fun a w hS hW => hK a w ⟨⟨hS.1, fun _ => hS.2⟩, hW hS⟩))
  · exact hs j hj
theorem AllReadyL.last {fuel : Nat} {listed : Array Bool} {a : Act} {w : World} {o : Oper} (ho : ops[k]? = some o) (hlk : (listed.setIfInBounds k true).getD k true = true)
    (h : ∀ K' : Act → World → Prop, Shut (∀ a w, S w → (S w → wpAnyL P md ops Q S T k fuel (listed.setIfInBounds k true) a w) → K' a w) → if Region.wanted o (yielded ops a.tmps) = true then Oper.wp P o a w K' Q else K' (a.put o.dst undef) w) :
    AllReadyL P md ops Q S T k fuel listed a w [k] := fun j hj => by
  rcases List.mem_cons.1 hj with rfl | hj
  · exact wpOp_step ho (fun K' hK => h K' (fun a w hS hW => hK a w ⟨⟨hS, fun e => by rw [hlk] at e; cases e⟩, hW hS⟩))
  · cases hj
theorem ready {rs : List Nat} {fuel : Nat} {listed : Array Bool} {a : Act} {w : World} (hr : Region.ready md ops listed = rs) (hne : rs ≠ [])
    (h : AllReadyL P md ops Q S T k fuel listed a w rs) : wpAnyL P md ops Q S T k (fuel + 1) listed a w :=
  ⟨fun h0 => absurd (hr ▸ h0) hne, hr ▸ h⟩
theorem done {listed : Array Bool} {a : Act} {w : World} (hr : Region.ready md ops listed = []) (h : Q .normal a w) : ∀ fuel, wpAnyL P md ops Q S T k fuel listed a w
  | 0 => ⟨hr, h⟩
  | _ + 1 => ⟨fun _ => h, by rw [hr]; simp⟩
/-- The beginning. -/
theorem drew {id : Nat} {a : Act} {w : World} (k : Nat) (hm : P.follows .mixedOrders = true) (hS : S w.drew ∧ T w.drew)
    (h : S w.drew ∧ T w.drew → wpAnyL P .any ops Q S T k ops.size (Array.replicate ops.size false) a w.drew) : (Code.region id ops true).wp P Q a w :=
  wp_region_any hm (wpAny_of _ _ _ _ (h hS))
end Rl
end Go.Proofs.YtffclijcfngeeaaGreat
namespace Go.Proofs.YtffclijcfngeeaaGreat
open Go.ChangeShapes Go.WideShapes Go.ChangeAt Go.RowKit
set_option linter.unusedVariables false
set_option linter.unusedSimpArgs false
set_option maxRecDepth 100000
attribute [local go_sem ↓] Go.wp_at_zero Go.wp_at_succ
namespace Rt
open W1
/-- A core's cells: five numbers, seven lists, a number. -/
def cC (x1 x2 x3 x4 x5 : Int) (v1 v2 v3 v4 v5 v6 v7 : Value) (x6 : Int) (v8 : Value) : List Value := [.int .i64 x1, .int .i64 x2, .int .i64 x3, .int .i64 x4, .int .i64 x5, v1, v2, v3, v4, v5, v6, v7, .int .i64 x6, v8]
def ones14 (cs : List Value) : Prop := cs.length = 14 ∧ ∀ v ∈ cs, v.oneCell' = true
theorem cC_ones {x1 x2 x3 x4 x5 : Int} {v1 v2 v3 v4 v5 v6 v7 : Value} {x6 : Int} {v8 : Value} (h1 : v1.oneCell' = true) (h2 : v2.oneCell' = true) (h3 : v3.oneCell' = true) (h4 : v4.oneCell' = true) (h5 : v5.oneCell' = true) (h6 : v6.oneCell' = true) (h7 : v7.oneCell' = true) (h8 : v8.oneCell' = true) : ones14 (cC x1 x2 x3 x4 x5 v1 v2 v3 v4 v5 v6 v7 x6 v8) := by
  refine ⟨rfl, ?_⟩
  intro v hv
  unfold cC at hv
  simp only [List.mem_cons, List.not_mem_nil, or_false] at hv
  rcases hv with rfl | rfl | rfl | rfl | rfl | rfl | rfl | rfl | rfl | rfl | rfl | rfl | rfl | rfl <;> first | rfl | assumption
def CA (w : World) (b : Nat) (cs : List Value) : Prop := w.rangeAt b 0 cs ∧ w.there b 0 14 ∧ cs.length = 14
theorem CA.at {w : World} {b : Nat} {cs : List Value} (h : CA w b cs) {i : Nat} {v : Value} (hi : cs[i]? = some v) : w.cell? ⟨b, i, none⟩ = some v := by
  have := h.1 i v hi; rwa [Nat.zero_add] at this
theorem CA.lt {w : World} {b : Nat} {cs : List Value} (h : CA w b cs) : b < w.heap.size := by
  obtain ⟨u, hu⟩ := Option.isSome_iff_exists.1 (h.2.1 0 (by omega)).1
  exact World.block_lt_of_cell? _ _ hu
theorem CA.free {w : World} {b : Nat} {cs : List Value} (h : CA w b cs) {i : Nat} (hi : i < 14) : w.frozen? ⟨b, i, none⟩ = false := by
  have := (h.2.1 i hi).2; rwa [Nat.zero_add] at this
theorem CA.under {w w' : World} {B b : Nat} {cs : List Value} (h : CA w b cs) (hb : Below B w w') (hg : b < B) : CA w' b cs :=
  ⟨fun j v hv => (hb.cell (p := ⟨b, 0 + j, none⟩) hg).trans (h.1 j v hv), fun j hj => ⟨by rw [hb.cell (p := ⟨b, 0 + j, none⟩) hg]; exact (h.2.1 j hj).1, by rw [hb.frozen (p := ⟨b, 0 + j, none⟩) hg]; exact (h.2.1 j hj).2⟩, h.2.2⟩
theorem CA.below {w w' : World} {b : Nat} {cs : List Value} (h : CA w b cs) (hb : Below w.heap.size w w') : CA w' b cs := h.under hb h.lt
theorem CA.drew {w : World} {b : Nat} {cs : List Value} (h : CA w b cs) : CA w.drew b cs := h
theorem CA.set {w : World} {b : Nat} {cs : List Value} (h : CA w b cs) {k : Nat} (hk : k < 14) (v : Value) : CA (w.setCell ⟨b, k, none⟩ v) b (cs.set k v) := ⟨range_set h.1 (by rw [h.2.2]; exact hk), there_set h.2.1, by rw [List.length_set]; exact h.2.2⟩
theorem infoC : Tryz.prog.underlying 86 = some (Tryz.prog.underlying 86).get! ∧ ((Tryz.prog.underlying 86).get!).isRow = true ∧ (Tryz.prog.info? 86).map (·.size) = some 14 := ⟨by kernel_rfl, by kernel_rfl, by kernel_rfl⟩
/-- A core is written whole. -/
theorem wpList_storeC {ops : Array Oper} {rest : List Oper} {op : Oper} {a : Act} {w : World} {Q : Exit → Act → World → Prop} (x y : Operand) (hgd : op.guard = none) (ho : op.op = .store 86 x y) {b : Nat} (cs : List Value) (h14 : ones14 cs) (hx : a.eval x = .pointer (some ⟨b, 0, none⟩)) (hy : a.eval y = .agg cs.toArray) (ht : w.there b 0 14)
    (hk : ∀ w', CA w' b cs → (∀ B w0, Below B w0 w → B ≤ b → Below B w0 w') → w'.heap.size = w.heap.size → wpList Tryz.prog ops Q rest (a.put op.dst undef) w') : wpList Tryz.prog ops Q (op :: rest) a w := by
  have ht' : w.there b 0 cs.length := h14.1.symm ▸ ht
  exact wpList_store_mid hgd 86 x y ho b 0 cs.toArray hx hy (by simpa using ht') (by simpa [h14.1] using infoC.2.2) (all_oneCell_toArray h14.2) (hk _ ⟨World.rangeAt_setCells_same w b 0 _ ht', there_cells _ _ _ ht, h14.1⟩ (fun B w0 h hb => below_cells hb _ _ _ h) (size_cells _ _ _))
/-- The same, with all other blocks as they were. -/
theorem wpList_storeC2 {ops : Array Oper} {rest : List Oper} {op : Oper} {a : Act} {w : World} {Q : Exit → Act → World → Prop} (x y : Operand) (hgd : op.guard = none) (ho : op.op = .store 86 x y) {b : Nat} (cs : List Value) (h14 : ones14 cs) (hx : a.eval x = .pointer (some ⟨b, 0, none⟩)) (hy : a.eval y = .agg cs.toArray) (ht : w.there b 0 14)
    (hk : ∀ w', CA w' b cs → (∀ B w0, Below B w0 w → B ≤ b → Below B w0 w') → w'.heap.size = w.heap.size → (∀ k, k ≠ b → w'.heap[k]? = w.heap[k]?) → wpList Tryz.prog ops Q rest (a.put op.dst undef) w') : wpList Tryz.prog ops Q (op :: rest) a w := by
  have ht' : w.there b 0 cs.length := h14.1.symm ▸ ht
  exact wpList_store_mid hgd 86 x y ho b 0 cs.toArray hx hy (by simpa using ht') (by simpa [h14.1] using infoC.2.2) (all_oneCell_toArray h14.2) (hk _ ⟨World.rangeAt_setCells_same w b 0 _ ht', there_cells _ _ _ ht, h14.1⟩ (fun B w0 h hb => below_cells hb _ _ _ h) (size_cells _ _ _) (fun k hk => heap_cells hk _ _ _))
/-- A core handed back, alone or with a number. -/
theorem resultsC {fn : Func} {p : Tmp} (h : fn.results = #[.cell p 86]) (tmps : Array Value) (w : World) {b : Nat} {cs : List Value} (hp : tmps.getD p undef = .pointer (some ⟨b, 0, none⟩)) (hg : CA w b cs) : (results fn tmps).run Tryz.prog w = .ok (.agg cs.toArray) w := by
  have hp' : tmps[p]?.getD undef = .pointer (some ⟨b, 0, none⟩) := by simpa using hp
  simp only [results, h]
  simp [Sem.run_bind, hp', asAddr, run_loadVar_mid w b 0 86 cs _ hg.1 infoC.1 infoC.2.1 (hg.2.2 ▸ infoC.2.2), Result.andThen]
theorem ca_new (w : World) (cs : List Value) (h14 : cs.length = 14) (t : Nat) : CA (w.alloc (.cells cs.toArray t)) w.heap.size cs := by
  have hb : (w.alloc (.cells cs.toArray t)).heap[w.heap.size]? = some (.cells cs.toArray t) := heap_alloc_last w _
  refine ⟨fun j v hv => ?_, fun j hj => ⟨?_, ?_⟩, h14⟩
  · rw [Nat.zero_add]
    unfold World.cell?
    simp only [hb]
    simpa using hv
  · rw [Nat.zero_add]
    unfold World.cell?
    simp only [hb]
    simp [h14, hj]
  · unfold World.frozen?
    simp only [hb]
    simp
theorem CA.other {w : World} {b : Nat} {cs : List Value} (h : CA w b cs) {p : Addr} (hne : b ≠ p.block) (v : Value) : CA (w.setCell p v) b cs := by
  have hb : (w.setCell p v).heap[b]? = w.heap[b]? := Below.heap_setCell _ _ _ _ hne
  refine ⟨fun j u hu => ?_, fun j hj => ⟨?_, ?_⟩, h.2.2⟩
  · exact (World.cell?_of_block (a := ⟨b, 0 + j, none⟩) hb).trans (h.1 j u hu)
  · rw [World.cell?_of_block (a := ⟨b, 0 + j, none⟩) hb]; exact (h.2.1 j hj).1
  · rw [World.frozen?_setCell]; exact (h.2.1 j hj).2
theorem copyE (g off : Nat) (ms : List Ed.R) (cap n : Nat) (w : World) (hn : ms.length = n) (hm : ms.length ≤ 4096) (hr : Ed.RM w (some ⟨g, off, none⟩) ms) :
    Calls Tryz.prog 123 #[.slice (some ⟨g, off, none⟩) n cap] w fun e w' => ∃ v, e = .returned v ∧ Below w.heap.size w w' ∧ Ed.LstV w' v ms w.heap.size w'.heap.size := by
  have HR := hide hr
  have O0 := hide (Ed.own_nil w w.heap.size)
  clear hr
  go_enter Tryz.func123, Tryz.ntmps123
  go_wp2_with (at_builtin; refine Ed.wpList_apS (unhide O0) g off n cap ms hn (unhide HR) (by simp; omega) (by simp) rfl _ _ rfl rfl rfl ?_; intro v' w' ho hg; have HL := hide (Ed.lst_own rfl ho); have HB := hide (Ed.below_own (Below.refl _ _) (unhide O0) hg (Nat.le_refl _) (Nat.le_refl _)); clear ho hg)
  go_ret
  exact ⟨_, rfl, unhide HB, unhide HL⟩
theorem copyL (g off : Nat) (ms : List Lk.R) (cap n : Nat) (w : World) (hn : ms.length = n) (hm : ms.length ≤ 4096) (hr : Lk.RM w (some ⟨g, off, none⟩) ms) :
    Calls Tryz.prog 120 #[.slice (some ⟨g, off, none⟩) n cap] w fun e w' => ∃ v, e = .returned v ∧ Below w.heap.size w w' ∧ Lk.LstV w' v ms w.heap.size w'.heap.size := by
  have HR := hide hr
  have O0 := hide (Lk.own_nil w w.heap.size)
  clear hr
  go_enter Tryz.func120, Tryz.ntmps120
  go_wp2_with (at_builtin; refine Lk.wpList_apS (unhide O0) g off n cap ms hn (unhide HR) (by simp; omega) (by simp) rfl _ _ rfl rfl rfl ?_; intro v' w' ho hg; have HL := hide (Lk.lst_own rfl ho); have HB := hide (Lk.below_own (Below.refl _ _) (unhide O0) hg (Nat.le_refl _) (Nat.le_refl _)); clear ho hg)
  go_ret
  exact ⟨_, rfl, unhide HB, unhide HL⟩
set_option maxHeartbeats 16000000 in
theorem coreOf (x1 x2 x3 x4 x5 x6 : Int) (h1 h2 h3 h4 h5 h6 h7 : Nat) (c1 c2 c3 c4 c5 c6 c7 : Nat) (ls : List Lk.R) (tw : List Tu.R) (se : List Tu.R) (du : List Tu.R) (ss : List So.R) (es : List Tu.R) (la : List Ed.R) (w : World) (hm1 : ls.length ≤ 4096) (hm2 : tw.length ≤ 4096) (hm3 : se.length ≤ 4096) (hm4 : du.length ≤ 4096) (hm5 : ss.length ≤ 4096) (hm6 : es.length ≤ 4096) (hm7 : la.length ≤ 4096) (hr1 : Lk.RM w (some ⟨h1, 0, none⟩) ls) (hr2 : Tu.RM w (some ⟨h2, 0, none⟩) tw) (hr3 : Tu.RM w (some ⟨h3, 0, none⟩) se) (hr4 : Tu.RM w (some ⟨h4, 0, none⟩) du) (hr5 : So.RM w (some ⟨h5, 0, none⟩) ss) (hr6 : Tu.RM w (some ⟨h6, 0, none⟩) es) (hr7 : Ed.RM w (some ⟨h7, 0, none⟩) la) :
    Calls Tryz.prog 42 #[.agg #[.int .i64 x1, .int .i64 x2, .int .i64 x3, .int .i64 x4, .int .i64 x5, .slice (some ⟨h1, 0, none⟩) ls.length c1, .slice (some ⟨h2, 0, none⟩) tw.length c2, .slice (some ⟨h3, 0, none⟩) se.length c3, .slice (some ⟨h4, 0, none⟩) du.length c4, .slice (some ⟨h5, 0, none⟩) ss.length c5, .slice (some ⟨h6, 0, none⟩) es.length c6, .slice (some ⟨h7, 0, none⟩) la.length c7, .int .i64 x6]] w fun e w' => ∃ a1 a2 a3 a4 a5 a6 a7 d1 d2 d3 d4 d5 d6 d7, e = .returned (.agg (cC x1 x2 x3 x4 x5 (.slice a1 ls.length d1) (.slice a2 tw.length d2) (.slice a3 se.length d3) (.slice a4 du.length d4) (.slice a5 ss.length d5) (.slice a6 es.length d6) (.slice a7 la.length d7) x6 (.slice none 0 0)).toArray) ∧ Below w.heap.size w w' ∧ RL w' w.heap.size w'.heap.size a1 a2 a3 a4 a5 a6 a7 ls tw se du ss es la := by
  have HA1 : Hid (Below w.heap.size w (w.alloc (.cells #[.int .i64 x1, .int .i64 x2, .int .i64 x3, .int .i64 x4, .int .i64 x5, .slice (some ⟨h1, 0, none⟩) ls.length c1, .slice (some ⟨h2, 0, none⟩) tw.length c2, .slice (some ⟨h3, 0, none⟩) se.length c3, .slice (some ⟨h4, 0, none⟩) du.length c4, .slice (some ⟨h5, 0, none⟩) ss.length c5, .slice (some ⟨h6, 0, none⟩) es.length c6, .slice (some ⟨h7, 0, none⟩) la.length c7, .int .i64 x6] 38))) := hide ((Below.refl _ _).alloc (Nat.le_refl _) _)
  have HB0 : Hid (Below w.heap.size w ((w.alloc (.cells #[.int .i64 x1, .int .i64 x2, .int .i64 x3, .int .i64 x4, .int .i64 x5, .slice (some ⟨h1, 0, none⟩) ls.length c1, .slice (some ⟨h2, 0, none⟩) tw.length c2, .slice (some ⟨h3, 0, none⟩) se.length c3, .slice (some ⟨h4, 0, none⟩) du.length c4, .slice (some ⟨h5, 0, none⟩) ss.length c5, .slice (some ⟨h6, 0, none⟩) es.length c6, .slice (some ⟨h7, 0, none⟩) la.length c7, .int .i64 x6] 38)).alloc (.cells #[.int .i64 0, .int .i64 0, .int .i64 0, .int .i64 0, .int .i64 0, .slice none 0 0, .slice none 0 0, .slice none 0 0, .slice none 0 0, .slice none 0 0, .slice none 0 0, .slice none 0 0, .int .i64 0, .slice none 0 0] 86))) := hide ((unhide HA1).alloc (unhide HA1).size _)
  have HX0 : Hid (RA ((w.alloc (.cells #[.int .i64 x1, .int .i64 x2, .int .i64 x3, .int .i64 x4, .int .i64 x5, .slice (some ⟨h1, 0, none⟩) ls.length c1, .slice (some ⟨h2, 0, none⟩) tw.length c2, .slice (some ⟨h3, 0, none⟩) se.length c3, .slice (some ⟨h4, 0, none⟩) du.length c4, .slice (some ⟨h5, 0, none⟩) ss.length c5, .slice (some ⟨h6, 0, none⟩) es.length c6, .slice (some ⟨h7, 0, none⟩) la.length c7, .int .i64 x6] 38)).alloc (.cells #[.int .i64 0, .int .i64 0, .int .i64 0, .int .i64 0, .int .i64 0, .slice none 0 0, .slice none 0 0, .slice none 0 0, .slice none 0 0, .slice none 0 0, .slice none 0 0, .slice none 0 0, .int .i64 0, .slice none 0 0] 86)) w.heap.size (rC x1 x2 x3 x4 x5 (.slice (some ⟨h1, 0, none⟩) ls.length c1) (.slice (some ⟨h2, 0, none⟩) tw.length c2) (.slice (some ⟨h3, 0, none⟩) se.length c3) (.slice (some ⟨h4, 0, none⟩) du.length c4) (.slice (some ⟨h5, 0, none⟩) ss.length c5) (.slice (some ⟨h6, 0, none⟩) es.length c6) (.slice (some ⟨h7, 0, none⟩) la.length c7) x6)) := hide ((ra_new w _ rfl _).below ((Below.refl _ _).alloc (Nat.le_refl _) _))
  have HZ0 : Hid (CA ((w.alloc (.cells #[.int .i64 x1, .int .i64 x2, .int .i64 x3, .int .i64 x4, .int .i64 x5, .slice (some ⟨h1, 0, none⟩) ls.length c1, .slice (some ⟨h2, 0, none⟩) tw.length c2, .slice (some ⟨h3, 0, none⟩) se.length c3, .slice (some ⟨h4, 0, none⟩) du.length c4, .slice (some ⟨h5, 0, none⟩) ss.length c5, .slice (some ⟨h6, 0, none⟩) es.length c6, .slice (some ⟨h7, 0, none⟩) la.length c7, .int .i64 x6] 38)).alloc (.cells #[.int .i64 0, .int .i64 0, .int .i64 0, .int .i64 0, .int .i64 0, .slice none 0 0, .slice none 0 0, .slice none 0 0, .slice none 0 0, .slice none 0 0, .slice none 0 0, .slice none 0 0, .int .i64 0, .slice none 0 0] 86)) (w.heap.size + 1) (cC 0 0 0 0 0 (.slice none 0 0) (.slice none 0 0) (.slice none 0 0) (.slice none 0 0) (.slice none 0 0) (.slice none 0 0) (.slice none 0 0) 0 (.slice none 0 0))) := hide (by have := ca_new (w.alloc (.cells #[.int .i64 x1, .int .i64 x2, .int .i64 x3, .int .i64 x4, .int .i64 x5, .slice (some ⟨h1, 0, none⟩) ls.length c1, .slice (some ⟨h2, 0, none⟩) tw.length c2, .slice (some ⟨h3, 0, none⟩) se.length c3, .slice (some ⟨h4, 0, none⟩) du.length c4, .slice (some ⟨h5, 0, none⟩) ss.length c5, .slice (some ⟨h6, 0, none⟩) es.length c6, .slice (some ⟨h7, 0, none⟩) la.length c7, .int .i64 x6] 38)) (cC 0 0 0 0 0 (.slice none 0 0) (.slice none 0 0) (.slice none 0 0) (.slice none 0 0) (.slice none 0 0) (.slice none 0 0) (.slice none 0 0) 0 (.slice none 0 0)) rfl 86; rw [show (w.alloc (.cells #[.int .i64 x1, .int .i64 x2, .int .i64 x3, .int .i64 x4, .int .i64 x5, .slice (some ⟨h1, 0, none⟩) ls.length c1, .slice (some ⟨h2, 0, none⟩) tw.length c2, .slice (some ⟨h3, 0, none⟩) se.length c3, .slice (some ⟨h4, 0, none⟩) du.length c4, .slice (some ⟨h5, 0, none⟩) ss.length c5, .slice (some ⟨h6, 0, none⟩) es.length c6, .slice (some ⟨h7, 0, none⟩) la.length c7, .int .i64 x6] 38)).heap.size = w.heap.size + 1 by simp] at this; exact this)
  have hq0 : (((w.alloc (.cells #[.int .i64 x1, .int .i64 x2, .int .i64 x3, .int .i64 x4, .int .i64 x5, .slice (some ⟨h1, 0, none⟩) ls.length c1, .slice (some ⟨h2, 0, none⟩) tw.length c2, .slice (some ⟨h3, 0, none⟩) se.length c3, .slice (some ⟨h4, 0, none⟩) du.length c4, .slice (some ⟨h5, 0, none⟩) ss.length c5, .slice (some ⟨h6, 0, none⟩) es.length c6, .slice (some ⟨h7, 0, none⟩) la.length c7, .int .i64 x6] 38)).alloc (.cells #[.int .i64 0, .int .i64 0, .int .i64 0, .int .i64 0, .int .i64 0, .slice none 0 0, .slice none 0 0, .slice none 0 0, .slice none 0 0, .slice none 0 0, .slice none 0 0, .slice none 0 0, .int .i64 0, .slice none 0 0] 86))).heap.size = w.heap.size + 2 := by simp
  have HR1 := hide hr1
  have HR2 := hide hr2
  have HR3 := hide hr3
  have HR4 := hide hr4
  have HR5 := hide hr5
  have HR6 := hide hr6
  have HR7 := hide hr7
  clear hr1 hr2 hr3 hr4 hr5 hr6 hr7 HA1
  go_enter Tryz.func42, Tryz.ntmps42
  go_wp2_with fail
  generalize hW : ((w.alloc (.cells #[.int .i64 x1, .int .i64 x2, .int .i64 x3, .int .i64 x4, .int .i64 x5, .slice (some ⟨h1, 0, none⟩) ls.length c1, .slice (some ⟨h2, 0, none⟩) tw.length c2, .slice (some ⟨h3, 0, none⟩) se.length c3, .slice (some ⟨h4, 0, none⟩) du.length c4, .slice (some ⟨h5, 0, none⟩) ss.length c5, .slice (some ⟨h6, 0, none⟩) es.length c6, .slice (some ⟨h7, 0, none⟩) la.length c7, .int .i64 x6] 38)).alloc (.cells #[.int .i64 0, .int .i64 0, .int .i64 0, .int .i64 0, .int .i64 0, .slice none 0 0, .slice none 0 0, .slice none 0 0, .slice none 0 0, .slice none 0 0, .slice none 0 0, .slice none 0 0, .int .i64 0, .slice none 0 0] 86)) = V0 at *
  clear hW
  refine (copyL h1 0 ls c1 ls.length _ rfl hm1 ((unhide HR1).below (unhide HB0))).mono ?_
  rintro e V1 ⟨v1, rfl, b1, l1⟩
  obtain ⟨a1, d1, rfl, L1⟩ := l1
  have HB1 := hide ((unhide HB0).trans (b1.mono (unhide HB0).size))
  have HX1 := hide ((unhide HX0).below b1)
  have HZ1 := hide ((unhide HZ0).below b1)
  have hq1 := b1.size
  clear HX0 HZ0 
  have U1_1 := hide L1
  clear L1 b1
  obtain ⟨V2, hV2⟩ : ∃ V, (V1.setCell ⟨w.heap.size, 5, none⟩ (.slice a1 ls.length d1)) = V := ⟨_, rfl⟩
  have HB2 : Hid (Below w.heap.size w V2) := hide (by rw [← hV2]; exact ((unhide HB1).setCell (p := ⟨w.heap.size, 5, none⟩) (Nat.le_refl _) (.slice a1 ls.length d1)))
  have HX2 : Hid (RA V2 w.heap.size (rC x1 x2 x3 x4 x5 (.slice a1 ls.length d1) (.slice (some ⟨h2, 0, none⟩) tw.length c2) (.slice (some ⟨h3, 0, none⟩) se.length c3) (.slice (some ⟨h4, 0, none⟩) du.length c4) (.slice (some ⟨h5, 0, none⟩) ss.length c5) (.slice (some ⟨h6, 0, none⟩) es.length c6) (.slice (some ⟨h7, 0, none⟩) la.length c7) x6)) := hide (by rw [← hV2]; exact (RA.set (unhide HX1) (k := 5) (by omega) (.slice a1 ls.length d1)))
  have HZ2 : Hid (CA V2 (w.heap.size + 1) (cC 0 0 0 0 0 (.slice none 0 0) (.slice none 0 0) (.slice none 0 0) (.slice none 0 0) (.slice none 0 0) (.slice none 0 0) (.slice none 0 0) 0 (.slice none 0 0))) := hide (by rw [← hV2]; exact (CA.other (unhide HZ1) (p := ⟨w.heap.size, 5, none⟩) (by show w.heap.size + 1 ≠ w.heap.size; omega) (.slice a1 ls.length d1)))
  have hq2 : V2.heap.size = V1.heap.size := by rw [← hV2]; simp [World.setCell]
  have hk2 : ∀ k, k < V1.heap.size → k ≠ w.heap.size → V2.heap[k]? = V1.heap[k]? := fun k _ h => by rw [← hV2]; exact (Below.heap_setCell _ _ _ _ h)
  have U1_2 := hide ((unhide U1_1).but (p := fun k => k ≠ w.heap.size) (by omega) hk2 (fun k h1 h2 => by omega))
  have HV2 := hide hV2
  clear hV2 hk2
  have o5 := (unhide HX1).at (i := 5) rfl
  have f5 := (unhide HX1).free (i := 5) (by omega)
  have z6 := (unhide HX1).at (i := 6) rfl
  go_wp2_with fail
  rw [unhide HV2]
  clear o5 f5 z6 HX1 HZ1 U1_1
  refine (St.copied h2 0 tw c2 tw.length _ rfl hm2 ((unhide HR2).below (unhide HB2))).mono ?_
  rintro e V3 ⟨v3, rfl, b3, l3⟩
  obtain ⟨a2, d2, rfl, L3⟩ := l3
  have HB3 := hide ((unhide HB2).trans (b3.mono (unhide HB2).size))
  have HX3 := hide ((unhide HX2).below b3)
  have HZ3 := hide ((unhide HZ2).below b3)
  have U1_3 := hide ((unhide U1_2).below b3)
  have hq3 := b3.size
  clear HX2 HZ2 U1_2
  have U2_3 := hide L3
  clear L3 b3
  obtain ⟨V4, hV4⟩ : ∃ V, (V3.setCell ⟨w.heap.size, 6, none⟩ (.slice a2 tw.length d2)) = V := ⟨_, rfl⟩
  have HB4 : Hid (Below w.heap.size w V4) := hide (by rw [← hV4]; exact ((unhide HB3).setCell (p := ⟨w.heap.size, 6, none⟩) (Nat.le_refl _) (.slice a2 tw.length d2)))
  have HX4 : Hid (RA V4 w.heap.size (rC x1 x2 x3 x4 x5 (.slice a1 ls.length d1) (.slice a2 tw.length d2) (.slice (some ⟨h3, 0, none⟩) se.length c3) (.slice (some ⟨h4, 0, none⟩) du.length c4) (.slice (some ⟨h5, 0, none⟩) ss.length c5) (.slice (some ⟨h6, 0, none⟩) es.length c6) (.slice (some ⟨h7, 0, none⟩) la.length c7) x6)) := hide (by rw [← hV4]; exact (RA.set (unhide HX3) (k := 6) (by omega) (.slice a2 tw.length d2)))
  have HZ4 : Hid (CA V4 (w.heap.size + 1) (cC 0 0 0 0 0 (.slice none 0 0) (.slice none 0 0) (.slice none 0 0) (.slice none 0 0) (.slice none 0 0) (.slice none 0 0) (.slice none 0 0) 0 (.slice none 0 0))) := hide (by rw [← hV4]; exact (CA.other (unhide HZ3) (p := ⟨w.heap.size, 6, none⟩) (by show w.heap.size + 1 ≠ w.heap.size; omega) (.slice a2 tw.length d2)))
  have hq4 : V4.heap.size = V3.heap.size := by rw [← hV4]; simp [World.setCell]
  have hk4 : ∀ k, k < V3.heap.size → k ≠ w.heap.size → V4.heap[k]? = V3.heap[k]? := fun k _ h => by rw [← hV4]; exact (Below.heap_setCell _ _ _ _ h)
  have U1_4 := hide ((unhide U1_3).but (p := fun k => k ≠ w.heap.size) (by omega) hk4 (fun k h1 h2 => by omega))
  have U2_4 := hide ((unhide U2_3).but (p := fun k => k ≠ w.heap.size) (by omega) hk4 (fun k h1 h2 => by omega))
  have HV4 := hide hV4
  clear hV4 hk4
  have o6 := (unhide HX3).at (i := 6) rfl
  have f6 := (unhide HX3).free (i := 6) (by omega)
  have z7 := (unhide HX3).at (i := 7) rfl
  go_wp2_with fail
  rw [unhide HV4]
  clear o6 f6 z7 HX3 HZ3 U1_3 U2_3
  refine (St.copied h3 0 se c3 se.length _ rfl hm3 ((unhide HR3).below (unhide HB4))).mono ?_
  rintro e V5 ⟨v5, rfl, b5, l5⟩
  obtain ⟨a3, d3, rfl, L5⟩ := l5
  have HB5 := hide ((unhide HB4).trans (b5.mono (unhide HB4).size))
  have HX5 := hide ((unhide HX4).below b5)
  have HZ5 := hide ((unhide HZ4).below b5)
  have U1_5 := hide ((unhide U1_4).below b5)
  have U2_5 := hide ((unhide U2_4).below b5)
  have hq5 := b5.size
  clear HX4 HZ4 U1_4 U2_4
  have U3_5 := hide L5
  clear L5 b5
  obtain ⟨V6, hV6⟩ : ∃ V, (V5.setCell ⟨w.heap.size, 7, none⟩ (.slice a3 se.length d3)) = V := ⟨_, rfl⟩
  have HB6 : Hid (Below w.heap.size w V6) := hide (by rw [← hV6]; exact ((unhide HB5).setCell (p := ⟨w.heap.size, 7, none⟩) (Nat.le_refl _) (.slice a3 se.length d3)))
  have HX6 : Hid (RA V6 w.heap.size (rC x1 x2 x3 x4 x5 (.slice a1 ls.length d1) (.slice a2 tw.length d2) (.slice a3 se.length d3) (.slice (some ⟨h4, 0, none⟩) du.length c4) (.slice (some ⟨h5, 0, none⟩) ss.length c5) (.slice (some ⟨h6, 0, none⟩) es.length c6) (.slice (some ⟨h7, 0, none⟩) la.length c7) x6)) := hide (by rw [← hV6]; exact (RA.set (unhide HX5) (k := 7) (by omega) (.slice a3 se.length d3)))
  have HZ6 : Hid (CA V6 (w.heap.size + 1) (cC 0 0 0 0 0 (.slice none 0 0) (.slice none 0 0) (.slice none 0 0) (.slice none 0 0) (.slice none 0 0) (.slice none 0 0) (.slice none 0 0) 0 (.slice none 0 0))) := hide (by rw [← hV6]; exact (CA.other (unhide HZ5) (p := ⟨w.heap.size, 7, none⟩) (by show w.heap.size + 1 ≠ w.heap.size; omega) (.slice a3 se.length d3)))
  have hq6 : V6.heap.size = V5.heap.size := by rw [← hV6]; simp [World.setCell]
  have hk6 : ∀ k, k < V5.heap.size → k ≠ w.heap.size → V6.heap[k]? = V5.heap[k]? := fun k _ h => by rw [← hV6]; exact (Below.heap_setCell _ _ _ _ h)
  have U1_6 := hide ((unhide U1_5).but (p := fun k => k ≠ w.heap.size) (by omega) hk6 (fun k h1 h2 => by omega))
  have U2_6 := hide ((unhide U2_5).but (p := fun k => k ≠ w.heap.size) (by omega) hk6 (fun k h1 h2 => by omega))
  have U3_6 := hide ((unhide U3_5).but (p := fun k => k ≠ w.heap.size) (by omega) hk6 (fun k h1 h2 => by omega))
  have HV6 := hide hV6
  clear hV6 hk6
  have o7 := (unhide HX5).at (i := 7) rfl
  have f7 := (unhide HX5).free (i := 7) (by omega)
  have z8 := (unhide HX5).at (i := 8) rfl
  go_wp2_with fail
  rw [unhide HV6]
  clear o7 f7 z8 HX5 HZ5 U1_5 U2_5 U3_5
  refine (St.copied h4 0 du c4 du.length _ rfl hm4 ((unhide HR4).below (unhide HB6))).mono ?_
  rintro e V7 ⟨v7, rfl, b7, l7⟩
  obtain ⟨a4, d4, rfl, L7⟩ := l7
  have HB7 := hide ((unhide HB6).trans (b7.mono (unhide HB6).size))
  have HX7 := hide ((unhide HX6).below b7)
  have HZ7 := hide ((unhide HZ6).below b7)
  have U1_7 := hide ((unhide U1_6).below b7)
  have U2_7 := hide ((unhide U2_6).below b7)
  have U3_7 := hide ((unhide U3_6).below b7)
  have hq7 := b7.size
  clear HX6 HZ6 U1_6 U2_6 U3_6
  have U4_7 := hide L7
  clear L7 b7
  obtain ⟨V8, hV8⟩ : ∃ V, (V7.setCell ⟨w.heap.size, 8, none⟩ (.slice a4 du.length d4)) = V := ⟨_, rfl⟩
  have HB8 : Hid (Below w.heap.size w V8) := hide (by rw [← hV8]; exact ((unhide HB7).setCell (p := ⟨w.heap.size, 8, none⟩) (Nat.le_refl _) (.slice a4 du.length d4)))
  have HX8 : Hid (RA V8 w.heap.size (rC x1 x2 x3 x4 x5 (.slice a1 ls.length d1) (.slice a2 tw.length d2) (.slice a3 se.length d3) (.slice a4 du.length d4) (.slice (some ⟨h5, 0, none⟩) ss.length c5) (.slice (some ⟨h6, 0, none⟩) es.length c6) (.slice (some ⟨h7, 0, none⟩) la.length c7) x6)) := hide (by rw [← hV8]; exact (RA.set (unhide HX7) (k := 8) (by omega) (.slice a4 du.length d4)))
  have HZ8 : Hid (CA V8 (w.heap.size + 1) (cC 0 0 0 0 0 (.slice none 0 0) (.slice none 0 0) (.slice none 0 0) (.slice none 0 0) (.slice none 0 0) (.slice none 0 0) (.slice none 0 0) 0 (.slice none 0 0))) := hide (by rw [← hV8]; exact (CA.other (unhide HZ7) (p := ⟨w.heap.size, 8, none⟩) (by show w.heap.size + 1 ≠ w.heap.size; omega) (.slice a4 du.length d4)))
  have hq8 : V8.heap.size = V7.heap.size := by rw [← hV8]; simp [World.setCell]
  have hk8 : ∀ k, k < V7.heap.size → k ≠ w.heap.size → V8.heap[k]? = V7.heap[k]? := fun k _ h => by rw [← hV8]; exact (Below.heap_setCell _ _ _ _ h)
  have U1_8 := hide ((unhide U1_7).but (p := fun k => k ≠ w.heap.size) (by omega) hk8 (fun k h1 h2 => by omega))
  have U2_8 := hide ((unhide U2_7).but (p := fun k => k ≠ w.heap.size) (by omega) hk8 (fun k h1 h2 => by omega))
  have U3_8 := hide ((unhide U3_7).but (p := fun k => k ≠ w.heap.size) (by omega) hk8 (fun k h1 h2 => by omega))
  have U4_8 := hide ((unhide U4_7).but (p := fun k => k ≠ w.heap.size) (by omega) hk8 (fun k h1 h2 => by omega))
  have HV8 := hide hV8
  clear hV8 hk8
  have o8 := (unhide HX7).at (i := 8) rfl
  have f8 := (unhide HX7).free (i := 8) (by omega)
  go_wp2_with fail
  rw [unhide HV8]
  clear o8 f8  HX7 HZ7 U1_7 U2_7 U3_7 U4_7
  refine wp_region_noPanic ?_
  refine Rl.drew (S := fun _ => True) (T := fun w' => RA w' w.heap.size (rC x1 x2 x3 x4 x5 (.slice a1 ls.length d1) (.slice a2 tw.length d2) (.slice a3 se.length d3) (.slice a4 du.length d4) (.slice (some ⟨h5, 0, none⟩) ss.length c5) (.slice (some ⟨h6, 0, none⟩) es.length c6) (.slice (some ⟨h7, 0, none⟩) la.length c7) x6) ∧ w'.cell? ⟨w.heap.size, 9, none⟩ = some (.slice (some ⟨h5, 0, none⟩) ss.length c5) ∧ w'.cell? ⟨w.heap.size, 10, none⟩ = some (.slice (some ⟨h6, 0, none⟩) es.length c6)) 10 (by kernel_rfl) ⟨trivial, ⟨(unhide HX8).drew, (unhide HX8).drew.at (i := 9) rfl, (unhide HX8).drew.at (i := 10) rfl⟩⟩ (fun hHeld => ?_)

  (refine Rl.tkS (k := 10) (i := 0) (d := 19) (v := ?_) rfl rfl (by kernel_rfl) (by kernel_rfl) (by kernel_rfl) rfl (fun _ _ _ h => h) (by rfl) ?_ (by assumption) ?_; rotate_left; (focus (intro w0 hSw; (try dsimp only at hSw); go_simp; (try with_reducible rfl))); (try simp only [Act.put, List.setIfInBounds_toArray, List.set_cons_zero, List.set_cons_succ]))
  (refine Rl.tkS (k := 10) (i := 1) (d := 20) (v := ?_) rfl rfl (by kernel_rfl) (by kernel_rfl) (by kernel_rfl) rfl (fun _ _ _ h => h) (by rfl) ?_ (by assumption) ?_; rotate_left; (focus (intro w0 hSw; (try dsimp only at hSw); go_simp; (try with_reducible rfl))); (try simp only [Act.put, List.setIfInBounds_toArray, List.set_cons_zero, List.set_cons_succ]))
  (refine Rl.tk (k := 10) (i := 2) (d := 21) (v := ?_) rfl rfl (by kernel_rfl) (by kernel_rfl) (by kernel_rfl) (by kernel_rfl) rfl (by kernel_rfl) (fun _ _ _ h => h) (by rfl) ?_ (by assumption) ?_; rotate_left; (focus (intro w0 hSw; (try dsimp only at hSw); go_simp; (try with_reducible rfl))); (try simp only [Act.put, List.setIfInBounds_toArray, List.set_cons_zero, List.set_cons_succ]))
  (refine Rl.tkS (k := 10) (i := 4) (d := 23) (v := ?_) rfl rfl (by kernel_rfl) (by kernel_rfl) (by kernel_rfl) rfl (fun _ _ _ h => h) (by rfl) ?_ (by assumption) ?_; rotate_left; (focus (intro w0 hSw; (try dsimp only at hSw); go_simp; (try with_reducible rfl))); (try simp only [Act.put, List.setIfInBounds_toArray, List.set_cons_zero, List.set_cons_succ]))
  (refine Rl.tkS (k := 10) (i := 5) (d := 24) (v := ?_) rfl rfl (by kernel_rfl) (by kernel_rfl) (by kernel_rfl) rfl (fun _ _ _ h => h) (by rfl) ?_ (by assumption) ?_; rotate_left; (focus (intro w0 hSw; (try dsimp only at hSw); go_simp; (try with_reducible rfl))); (try simp only [Act.put, List.setIfInBounds_toArray, List.set_cons_zero, List.set_cons_succ]))
  (refine Rl.tk (k := 10) (i := 6) (d := 25) (v := ?_) rfl rfl (by kernel_rfl) (by kernel_rfl) (by kernel_rfl) (by kernel_rfl) rfl (by kernel_rfl) (fun _ _ _ h => h) (by rfl) ?_ (by assumption) ?_; rotate_left; (focus (intro w0 hSw; (try dsimp only at hSw); go_simp; (try with_reducible rfl))); (try simp only [Act.put, List.setIfInBounds_toArray, List.set_cons_zero, List.set_cons_succ]))
  (refine Rl.ready (rs := [3]) (by kernel_rfl) (by simp) ?_; refine Rl.AllReadyL.cons (o := _) rfl rfl (fun K hK => ?_) Rl.AllReadyL.nil; go_simp)
  refine (Tp.copied h5 0 ss c5 ss.length _ rfl hm5 ((unhide HR5).below (unhide HB8).drew)).mono ?_
  rintro e V9 ⟨v9, rfl, b_, l9⟩
  have b9 : Below V8.heap.size V8 V9 := (Below.refl _ _).drew.trans b_
  obtain ⟨a5, d5, rfl, L9⟩ := l9
  have HB9 := hide ((unhide HB8).trans (b9.mono (unhide HB8).size))
  have HX9 := hide ((unhide HX8).below b9)
  have HZ9 := hide ((unhide HZ8).below b9)
  have U1_9 := hide ((unhide U1_8).below b9)
  have U2_9 := hide ((unhide U2_8).below b9)
  have U3_9 := hide ((unhide U3_8).below b9)
  have U4_9 := hide ((unhide U4_8).below b9)
  have hq9 := b9.size
  clear HX8 HZ8 U1_8 U2_8 U3_8 U4_8
  have U5_9 : Hid (So.Lst V9 a5 ss V8.heap.size V9.heap.size) := hide L9
  clear L9 b9 b_ hHeld
  refine hK.out _ _ ⟨trivial, ⟨(unhide HX9), (unhide HX9).at (i := 9) rfl, (unhide HX9).at (i := 10) rfl⟩⟩ (fun hHeld => ?_)
  clear hK K
  (try simp only [Act.put, List.setIfInBounds_toArray, List.set_cons_zero, List.set_cons_succ])
  (refine Rl.ready (rs := [7]) (by kernel_rfl) (by simp) ?_; refine Rl.AllReadyL.cons (o := _) rfl rfl (fun K hK => ?_) Rl.AllReadyL.nil; go_simp)
  refine (St.copied h6 0 es c6 es.length _ rfl hm6 ((unhide HR6).below (unhide HB9))).mono ?_
  rintro e V10 ⟨v10, rfl, b10, l10⟩
  obtain ⟨a6, d6, rfl, L10⟩ := l10
  have HB10 := hide ((unhide HB9).trans (b10.mono (unhide HB9).size))
  have HX10 := hide ((unhide HX9).below b10)
  have HZ10 := hide ((unhide HZ9).below b10)
  have U1_10 := hide ((unhide U1_9).below b10)
  have U2_10 := hide ((unhide U2_9).below b10)
  have U3_10 := hide ((unhide U3_9).below b10)
  have U4_10 := hide ((unhide U4_9).below b10)
  have U5_10 := hide ((unhide U5_9).below b10)
  have hq10 := b10.size
  clear HX9 HZ9 U1_9 U2_9 U3_9 U4_9 U5_9
  have U6_10 := hide L10
  clear L10 b10 hHeld
  refine hK.out _ _ ⟨trivial, ⟨(unhide HX10), (unhide HX10).at (i := 9) rfl, (unhide HX10).at (i := 10) rfl⟩⟩ (fun hHeld => ?_)
  clear hK K
  (try simp only [Act.put, List.setIfInBounds_toArray, List.set_cons_zero, List.set_cons_succ])
  (refine Rl.tkS (k := 10) (i := 8) (d := 27) (v := ?_) rfl rfl (by kernel_rfl) (by kernel_rfl) (by kernel_rfl) rfl (fun _ _ _ h => h) (by rfl) ?_ (by assumption) ?_; rotate_left; (focus (intro w0 hSw; (try dsimp only at hSw); go_simp; (try with_reducible rfl))); (try simp only [Act.put, List.setIfInBounds_toArray, List.set_cons_zero, List.set_cons_succ]))
  (refine Rl.tkS (k := 10) (i := 9) (d := 28) (v := ?_) rfl rfl (by kernel_rfl) (by kernel_rfl) (by kernel_rfl) rfl (fun _ _ _ h => h) (by rfl) ?_ (by assumption) ?_; rotate_left; (focus (intro w0 hSw; (try dsimp only at hSw); go_simp; (try with_reducible rfl))); (try simp only [Act.put, List.setIfInBounds_toArray, List.set_cons_zero, List.set_cons_succ]))
  obtain ⟨V11, hV11⟩ : ∃ V, ((V10.setCell ⟨w.heap.size, 9, none⟩ (.slice a5 ss.length d5)).setCell ⟨w.heap.size, 10, none⟩ (.slice a6 es.length d6)) = V := ⟨_, rfl⟩
  have HB11 : Hid (Below w.heap.size w V11) := hide (by rw [← hV11]; exact (((unhide HB10).setCell (p := ⟨w.heap.size, 9, none⟩) (Nat.le_refl _) (.slice a5 ss.length d5)).setCell (p := ⟨w.heap.size, 10, none⟩) (Nat.le_refl _) (.slice a6 es.length d6)))
  have HX11 : Hid (RA V11 w.heap.size (rC x1 x2 x3 x4 x5 (.slice a1 ls.length d1) (.slice a2 tw.length d2) (.slice a3 se.length d3) (.slice a4 du.length d4) (.slice a5 ss.length d5) (.slice a6 es.length d6) (.slice (some ⟨h7, 0, none⟩) la.length c7) x6)) := hide (by rw [← hV11]; exact (RA.set (RA.set (unhide HX10) (k := 9) (by omega) (.slice a5 ss.length d5)) (k := 10) (by omega) (.slice a6 es.length d6)))
  have HZ11 : Hid (CA V11 (w.heap.size + 1) (cC 0 0 0 0 0 (.slice none 0 0) (.slice none 0 0) (.slice none 0 0) (.slice none 0 0) (.slice none 0 0) (.slice none 0 0) (.slice none 0 0) 0 (.slice none 0 0))) := hide (by rw [← hV11]; exact (CA.other (CA.other (unhide HZ10) (p := ⟨w.heap.size, 9, none⟩) (by show w.heap.size + 1 ≠ w.heap.size; omega) (.slice a5 ss.length d5)) (p := ⟨w.heap.size, 10, none⟩) (by show w.heap.size + 1 ≠ w.heap.size; omega) (.slice a6 es.length d6)))
  have hq11 : V11.heap.size = V10.heap.size := by rw [← hV11]; simp [World.setCell]
  have hk11 : ∀ k, k < V10.heap.size → k ≠ w.heap.size → V11.heap[k]? = V10.heap[k]? := fun k _ h => by rw [← hV11]; exact ((Below.heap_setCell _ _ _ _ h).trans (Below.heap_setCell _ _ _ _ h))
  have U1_11 := hide ((unhide U1_10).but (p := fun k => k ≠ w.heap.size) (by omega) hk11 (fun k h1 h2 => by omega))
  have U2_11 := hide ((unhide U2_10).but (p := fun k => k ≠ w.heap.size) (by omega) hk11 (fun k h1 h2 => by omega))
  have U3_11 := hide ((unhide U3_10).but (p := fun k => k ≠ w.heap.size) (by omega) hk11 (fun k h1 h2 => by omega))
  have U4_11 := hide ((unhide U4_10).but (p := fun k => k ≠ w.heap.size) (by omega) hk11 (fun k h1 h2 => by omega))
  have U5_11 := hide ((unhide U5_10).but (p := fun k => k ≠ w.heap.size) (by omega) hk11 (fun k h1 h2 => by omega))
  have U6_11 := hide ((unhide U6_10).but (p := fun k => k ≠ w.heap.size) (by omega) hk11 (fun k h1 h2 => by omega))
  have HV11 := hide hV11
  clear hV11 hk11
  have o9 := (unhide HX10).at (i := 9) rfl
  have f9 := (unhide HX10).free (i := 9) (by omega)
  have o10 := (unhide HX10).at (i := 10) rfl
  have f10 := (unhide HX10).free (i := 10) (by omega)
  (refine Rl.ready (rs := [10]) (by kernel_rfl) (by simp) ?_; refine Rl.AllReadyL.last (o := _) rfl (by kernel_rfl) (fun K hK => ?_); go_simp)
  rw [unhide HV11]
  clear o9 f9 o10 f10 hHeld HX10 HZ10 U1_10 U2_10 U3_10 U4_10 U5_10 U6_10
  refine hK.out _ _ trivial (fun hHeld => ?_)
  clear hK K hHeld
  (try simp only [Act.put, List.setIfInBounds_toArray, List.set_cons_zero, List.set_cons_succ])
  refine Rl.done (by kernel_rfl) (NoPanic.normal ?_) _
  have z11 := (unhide HX11).at (i := 11) rfl
  go_wp2_with fail
  clear z11
  refine (copyE h7 0 la c7 la.length _ rfl hm7 ((unhide HR7).below (unhide HB11))).mono ?_
  rintro e V12 ⟨v12, rfl, b12, l12⟩
  obtain ⟨a7, d7, rfl, L12⟩ := l12
  have HB12 := hide ((unhide HB11).trans (b12.mono (unhide HB11).size))
  have HX12 := hide ((unhide HX11).below b12)
  have HZ12 := hide ((unhide HZ11).below b12)
  have U1_12 := hide ((unhide U1_11).below b12)
  have U2_12 := hide ((unhide U2_11).below b12)
  have U3_12 := hide ((unhide U3_11).below b12)
  have U4_12 := hide ((unhide U4_11).below b12)
  have U5_12 := hide ((unhide U5_11).below b12)
  have U6_12 := hide ((unhide U6_11).below b12)
  have hq12 := b12.size
  clear HX11 HZ11 U1_11 U2_11 U3_11 U4_11 U5_11 U6_11
  have U7_12 := hide L12
  clear L12 b12
  obtain ⟨V13, hV13⟩ : ∃ V, (V12.setCell ⟨w.heap.size, 11, none⟩ (.slice a7 la.length d7)) = V := ⟨_, rfl⟩
  have HB13 : Hid (Below w.heap.size w V13) := hide (by rw [← hV13]; exact ((unhide HB12).setCell (p := ⟨w.heap.size, 11, none⟩) (Nat.le_refl _) (.slice a7 la.length d7)))
  have HX13 : Hid (RA V13 w.heap.size (rC x1 x2 x3 x4 x5 (.slice a1 ls.length d1) (.slice a2 tw.length d2) (.slice a3 se.length d3) (.slice a4 du.length d4) (.slice a5 ss.length d5) (.slice a6 es.length d6) (.slice a7 la.length d7) x6)) := hide (by rw [← hV13]; exact (RA.set (unhide HX12) (k := 11) (by omega) (.slice a7 la.length d7)))
  have HZ13 : Hid (CA V13 (w.heap.size + 1) (cC 0 0 0 0 0 (.slice none 0 0) (.slice none 0 0) (.slice none 0 0) (.slice none 0 0) (.slice none 0 0) (.slice none 0 0) (.slice none 0 0) 0 (.slice none 0 0))) := hide (by rw [← hV13]; exact (CA.other (unhide HZ12) (p := ⟨w.heap.size, 11, none⟩) (by show w.heap.size + 1 ≠ w.heap.size; omega) (.slice a7 la.length d7)))
  have hq13 : V13.heap.size = V12.heap.size := by rw [← hV13]; simp [World.setCell]
  have hk13 : ∀ k, k < V12.heap.size → k ≠ w.heap.size → V13.heap[k]? = V12.heap[k]? := fun k _ h => by rw [← hV13]; exact (Below.heap_setCell _ _ _ _ h)
  have U1_13 := hide ((unhide U1_12).but (p := fun k => k ≠ w.heap.size) (by omega) hk13 (fun k h1 h2 => by omega))
  have U2_13 := hide ((unhide U2_12).but (p := fun k => k ≠ w.heap.size) (by omega) hk13 (fun k h1 h2 => by omega))
  have U3_13 := hide ((unhide U3_12).but (p := fun k => k ≠ w.heap.size) (by omega) hk13 (fun k h1 h2 => by omega))
  have U4_13 := hide ((unhide U4_12).but (p := fun k => k ≠ w.heap.size) (by omega) hk13 (fun k h1 h2 => by omega))
  have U5_13 := hide ((unhide U5_12).but (p := fun k => k ≠ w.heap.size) (by omega) hk13 (fun k h1 h2 => by omega))
  have U6_13 := hide ((unhide U6_12).but (p := fun k => k ≠ w.heap.size) (by omega) hk13 (fun k h1 h2 => by omega))
  have U7_13 := hide ((unhide U7_12).but (p := fun k => k ≠ w.heap.size) (by omega) hk13 (fun k h1 h2 => by omega))
  have HV13 := hide hV13
  clear hV13 hk13
  have o11 := (unhide HX12).at (i := 11) rfl
  have f11 := (unhide HX12).free (i := 11) (by omega)
  have HOF : Hid (RA (V12.setCell ⟨w.heap.size, 11, none⟩ (.slice a7 la.length d7)) w.heap.size (rC x1 x2 x3 x4 x5 (.slice a1 ls.length d1) (.slice a2 tw.length d2) (.slice a3 se.length d3) (.slice a4 du.length d4) (.slice a5 ss.length d5) (.slice a6 es.length d6) (.slice a7 la.length d7) x6)) := hide (by rw [unhide HV13]; exact unhide HX13)
  have HZF : Hid ((V12.setCell ⟨w.heap.size, 11, none⟩ (.slice a7 la.length d7)).there (w.heap.size + 1) 0 14) := hide (by rw [unhide HV13]; exact (unhide HZ13).2.1)
  go_wp2_with (first | (refine wpList_loadR (cs := [.int .i64 x1, .int .i64 x2, .int .i64 x3, .int .i64 x4, .int .i64 x5, .slice a1 ls.length d1, .slice a2 tw.length d2, .slice a3 se.length d3, .slice a4 du.length d4, .slice a5 ss.length d5, .slice a6 es.length d6, .slice a7 la.length d7, .int .i64 x6]) _ rfl rfl rfl (unhide HOF) ?_) | (refine wpList_storeC2 _ _ rfl rfl (cC x1 x2 x3 x4 x5 (.slice a1 ls.length d1) (.slice a2 tw.length d2) (.slice a3 se.length d3) (.slice a4 du.length d4) (.slice a5 ss.length d5) (.slice a6 es.length d6) (.slice a7 la.length d7) x6 (.slice none 0 0)) (cC_ones rfl rfl rfl rfl rfl rfl rfl rfl) rfl rfl (unhide HZF) ?_; rw [unhide HV13]; intro VF raF bbF hsF kkF; have HRF := hide raF; have HBF := hide (bbF _ _ (unhide HB13) (by omega)); have HUF := hide kkF; have hqF := hsF; clear raF bbF hsF kkF))
  refine bodyPost_ret (resultsC rfl _ _ rfl (unhide HRF)) rfl ⟨a1, a2, a3, a4, a5, a6, a7, d1, d2, d3, d4, d5, d6, d7, rfl, unhide HBF, V1.heap.size, V3.heap.size, V5.heap.size, V7.heap.size, V9.heap.size, V10.heap.size, ⟨by omega, by omega, by omega, by omega, by omega, by omega, by omega⟩, ((unhide U1_13).but (p := fun k => k ≠ w.heap.size + 1) (by omega) (fun k hk h => unhide HUF k h) (fun k h1 h2 => by omega)).mono (by omega) (by omega), ((unhide U2_13).but (p := fun k => k ≠ w.heap.size + 1) (by omega) (fun k hk h => unhide HUF k h) (fun k h1 h2 => by omega)).mono (by omega) (by omega), ((unhide U3_13).but (p := fun k => k ≠ w.heap.size + 1) (by omega) (fun k hk h => unhide HUF k h) (fun k h1 h2 => by omega)).mono (by omega) (by omega), ((unhide U4_13).but (p := fun k => k ≠ w.heap.size + 1) (by omega) (fun k hk h => unhide HUF k h) (fun k h1 h2 => by omega)).mono (by omega) (by omega), ((unhide U5_13).but (p := fun k => k ≠ w.heap.size + 1) (by omega) (fun k hk h => unhide HUF k h) (fun k h1 h2 => by omega)).mono (by omega) (by omega), ((unhide U6_13).but (p := fun k => k ≠ w.heap.size + 1) (by omega) (fun k hk h => unhide HUF k h) (fun k h1 h2 => by omega)).mono (by omega) (by omega), ((unhide U7_13).but (p := fun k => k ≠ w.heap.size + 1) (by omega) (fun k hk h => unhide HUF k h) (fun k h1 h2 => by omega)).mono (by omega) (by omega)⟩
end Rt
end Go.Proofs.YtffclijcfngeeaaGreat
namespace Go.Proofs.YtffclijcfngeeaaGreat
open Go.ChangeShapes Go.WideShapes Go.ChangeAt Go.RowKit
set_option linter.unusedVariables false
set_option linter.unusedSimpArgs false
attribute [local go_sem ↓] Go.wp_at_zero Go.wp_at_succ
namespace Ln
open W1 Lk
def okL (m : R) : Bool := inB m.ad 1 8 && (inB m.hd 0 1073741824 && (inB m.sy 0 1073741824 && (inB m.ci 1 256 && (inB m.co 0 16744448 && inB m.wl 0 7))))
abbrev allL (ms : List R) (j : Nat) : Bool := Ri.all R.zero okL R.ad ms j
/-- Whether links are right. -/
def linksB (ms : List R) : Bool := allL ms ms.length
/-- The code of a list of links: too long, not right, or none. -/
def codeL (ms : List R) : Int := if 4096 < ms.length then 2 else if linksB ms = true then 0 else 1
/-- A link's status at a time. -/
def statusV (m : R) (now : Int) : Int := if m.hd ≤ now then 0 else if now < m.sy then 2 else 1
theorem ok_ad {m : R} (h : okL m = true) : 1 ≤ m.ad ∧ m.ad ≤ 8 := by
  unfold okL inB at h; simp at h; exact h.1
theorem ok_sy {m : R} (h : okL m = true) : 0 ≤ m.sy ∧ m.sy ≤ 1073741824 := by
  unfold okL inB at h; simp at h; exact h.2.2.1
theorem ok_co {m : R} (h : okL m = true) : 0 ≤ m.co ∧ m.co ≤ 16744448 := by
  unfold okL inB at h; simp at h; exact h.2.2.2.2.1
theorem links_len {ms : List R} (h : linksB ms = true) : ms.length ≤ 8 := by
  have := Ri.all_long (lo := 1) (hi := 8) (fun m hm => ok_ad hm) h; omega
theorem code_long {ms : List R} (h : 4096 < ms.length) : codeL ms = 2 := by unfold codeL; rw [if_pos h]
theorem code_bad {ms : List R} (h : ¬ 4096 < ms.length) (hs : linksB ms = false) : codeL ms = 1 := by unfold codeL; rw [if_neg h, if_neg (by simp [hs])]
theorem code_zero {ms : List R} (h : linksB ms = true) : codeL ms = 0 := by
  have := links_len h
  unfold codeL; rw [if_neg (by omega), if_pos h]
set_option maxHeartbeats 1000000 in
theorem l06Link (ad hd sy ci co wl : Int) (w : World) :
    Calls Tryz.prog 164 #[.agg #[.int .i64 ad, .int .i64 hd, .int .i64 sy, .int .i64 ci, .int .i64 co, .int .i64 wl]] w fun e w' => e = .returned (.bool (okL ⟨ad, hd, sy, ci, co, wl⟩)) ∧ Below w.heap.size w w' := by
  have E : Hid (okL ⟨ad, hd, sy, ci, co, wl⟩ = (inB ad 1 8 && (inB hd 0 1073741824 && (inB sy 0 1073741824 && (inB ci 1 256 && (inB co 0 16744448 && inB wl 0 7)))))) := hide rfl
  cases h1 : inB ad 1 8
  rotate_left
  cases h2 : inB hd 0 1073741824
  rotate_left
  cases h3 : inB sy 0 1073741824
  rotate_left
  cases h4 : inB ci 1 256
  rotate_left
  cases h5 : inB co 0 16744448
  rotate_left
  cases h6 : inB wl 0 7
  all_goals
    go_enter Tryz.func164, Tryz.ntmps164
    go_wp2_with (first | (go_at_call 64; refine (l01In _ _ _ _).mono ?_; rintro e w' ⟨rfl, rfl⟩) | (go_at_call 63; refine (l01Addr _ _).mono ?_; rintro e w' ⟨rfl, rfl⟩))
    go_ret
    exact ⟨ret_bool (by rw [unhide E]; simp [*]), (Below.refl _ _).alloc (Nat.le_refl _) _⟩
set_option maxHeartbeats 1000000 in
theorem l06Status (ad hd sy ci co wl now : Int) (w : World) :
    Calls Tryz.prog 155 #[.agg #[.int .i64 ad, .int .i64 hd, .int .i64 sy, .int .i64 ci, .int .i64 co, .int .i64 wl], .int .i64 now] w fun e w' => e = .returned (.int .i64 (statusV ⟨ad, hd, sy, ci, co, wl⟩ now)) ∧ Below w.heap.size w w' := by
  have E : Hid (statusV ⟨ad, hd, sy, ci, co, wl⟩ now = if hd ≤ now then 0 else if now < sy then 2 else 1) := hide rfl
  by_cases h1 : hd ≤ now
  · go_enter Tryz.func155, Tryz.ntmps155
    go_wp2
    go_ret
    exact ⟨ret_int (by rw [unhide E, if_pos (by omega)]), (Below.refl _ _).alloc (Nat.le_refl _) _⟩
  · by_cases h2 : now < sy
    · go_enter Tryz.func155, Tryz.ntmps155
      go_wp2
      go_ret
      exact ⟨ret_int (by rw [unhide E, if_neg (by omega), if_pos (by omega)]), (Below.refl _ _).alloc (Nat.le_refl _) _⟩
    · go_enter Tryz.func155, Tryz.ntmps155
      go_wp2
      go_ret
      exact ⟨ret_int (by rw [unhide E, if_neg (by omega), if_neg (by omega)]), (Below.refl _ _).alloc (Nat.le_refl _) _⟩
theorem isWill (n : Int) (w : World) : Calls Tryz.prog 112 #[.int .i64 n] w fun e w' => e = .returned (.bool (inB n 0 7)) ∧ w' = w := by
  go_enter Tryz.func112, Tryz.ntmps112
  go_wp2_with (go_at_call 82; refine (within _ _ _ _).mono ?_; rintro e w' ⟨rfl, rfl⟩)
  go_ret
  exact ⟨rfl, rfl⟩
theorem isIn (n : Int) (w : World) : Calls Tryz.prog 150 #[.int .i64 n] w fun e w' => e = .returned (.bool (inB n 1 256)) ∧ w' = w := by
  go_enter Tryz.func150, Tryz.ntmps150
  go_wp2_with (go_at_call 82; refine (within _ _ _ _).mono ?_; rintro e w' ⟨rfl, rfl⟩)
  go_ret
  exact ⟨rfl, rfl⟩
set_option maxHeartbeats 1000000 in
theorem isLink (ad hd sy ci co wl : Int) (w : World) :
    Calls Tryz.prog 241 #[.agg #[.int .i64 ad, .int .i64 hd, .int .i64 sy, .int .i64 ci, .int .i64 co, .int .i64 wl]] w fun e w' => e = .returned (.bool (okL ⟨ad, hd, sy, ci, co, wl⟩)) ∧ Below w.heap.size w w' := by
  have E : Hid (okL ⟨ad, hd, sy, ci, co, wl⟩ = (inB ad 1 8 && (inB hd 0 1073741824 && (inB sy 0 1073741824 && (inB ci 1 256 && (inB co 0 16744448 && inB wl 0 7)))))) := hide rfl
  cases h1 : inB ad 1 8
  rotate_left
  cases h2 : inB hd 0 1073741824
  rotate_left
  cases h3 : inB sy 0 1073741824
  rotate_left
  cases h4 : inB ci 1 256
  rotate_left
  cases h5 : inB co 0 16744448
  rotate_left
  cases h6 : inB wl 0 7
  all_goals
    go_enter Tryz.func241, Tryz.ntmps241
    go_wp2_with (first | (go_at_call 82; refine (within _ _ _ _).mono ?_; rintro e w' ⟨rfl, rfl⟩) | (go_at_call 111; refine (isAddress _ _).mono ?_; rintro e w' ⟨rfl, rfl⟩) | (go_at_call 150; refine (isIn _ _).mono ?_; rintro e w' ⟨rfl, rfl⟩) | (go_at_call 112; refine (isWill _ _).mono ?_; rintro e w' ⟨rfl, rfl⟩))
    go_ret
    exact ⟨ret_bool (by rw [unhide E]; simp [*]), (Below.refl _ _).alloc (Nat.le_refl _) _⟩
set_option maxHeartbeats 1000000 in
theorem implStatus (ad hd sy ci co wl now : Int) (w : World) :
    Calls Tryz.prog 134 #[.agg #[.int .i64 ad, .int .i64 hd, .int .i64 sy, .int .i64 ci, .int .i64 co, .int .i64 wl], .int .i64 now] w fun e w' => e = .returned (.int .i64 (statusV ⟨ad, hd, sy, ci, co, wl⟩ now)) ∧ Below w.heap.size w w' := by
  have E : Hid (statusV ⟨ad, hd, sy, ci, co, wl⟩ now = if hd ≤ now then 0 else if now < sy then 2 else 1) := hide rfl
  by_cases h1 : hd ≤ now
  · go_enter Tryz.func134, Tryz.ntmps134
    go_wp2
    go_ret
    exact ⟨ret_int (by rw [unhide E, if_pos (by omega)]), (Below.refl _ _).alloc (Nat.le_refl _) _⟩
  · by_cases h2 : now < sy
    · go_enter Tryz.func134, Tryz.ntmps134
      go_wp2
      go_ret
      exact ⟨ret_int (by rw [unhide E, if_neg (by omega), if_pos (by omega)]), (Below.refl _ _).alloc (Nat.le_refl _) _⟩
    · go_enter Tryz.func134, Tryz.ntmps134
      go_wp2
      go_ret
      exact ⟨ret_int (by rw [unhide E, if_neg (by omega), if_neg (by omega)]), (Below.refl _ _).alloc (Nat.le_refl _) _⟩
end Ln
end Go.Proofs.YtffclijcfngeeaaGreat
namespace Go.Proofs.YtffclijcfngeeaaGreat
open Go.ChangeShapes Go.WideShapes Go.ChangeAt Go.RowKit
set_option linter.unusedVariables false
set_option linter.unusedSimpArgs false
attribute [local go_sem ↓] Go.wp_at_zero Go.wp_at_succ
namespace Ln
open W1 Lk
theorem sOne {w : World} {g o : Nat} {ad hd sy ci co wl : Int} (h : At w g o ⟨ad, hd, sy, ci, co, wl⟩) : At w g o ⟨ad, hd, sy, ci, co, wl⟩ ∧ w.cell? ⟨g, o, none⟩ = some (.int .i64 ad) ∧ w.cell? ⟨g, o + 1, none⟩ = some (.int .i64 hd) ∧ w.cell? ⟨g, o + 2, none⟩ = some (.int .i64 sy) ∧ w.cell? ⟨g, o + 3, none⟩ = some (.int .i64 ci) ∧ w.cell? ⟨g, o + 4, none⟩ = some (.int .i64 co) ∧ w.cell? ⟨g, o + 5, none⟩ = some (.int .i64 wl) := ⟨h, h⟩
theorem sTwo {w : World} {g o p : Nat} {m : R} {ad hd sy ci co wl : Int} (h : At w g o ⟨ad, hd, sy, ci, co, wl⟩) (h' : At w g p m) :
    (At w g o ⟨ad, hd, sy, ci, co, wl⟩ ∧ At w g p m) ∧ w.cell? ⟨g, o, none⟩ = some (.int .i64 ad) ∧ w.cell? ⟨g, o + 1, none⟩ = some (.int .i64 hd) ∧ w.cell? ⟨g, o + 2, none⟩ = some (.int .i64 sy) ∧ w.cell? ⟨g, o + 3, none⟩ = some (.int .i64 ci) ∧ w.cell? ⟨g, o + 4, none⟩ = some (.int .i64 co) ∧ w.cell? ⟨g, o + 5, none⟩ = some (.int .i64 wl) ∧ w.cell? ⟨g, p, none⟩ = some (.int .i64 m.ad) := ⟨⟨h, h'⟩, h.1, h.2.1, h.2.2.1, h.2.2.2.1, h.2.2.2.2.1, h.2.2.2.2.2, h'.1⟩
set_option maxRecDepth 100000 in
set_option maxHeartbeats 4000000 in
theorem specOK (a : Option Addr) (ms : List R) (cap : Nat) (w : World) (hm : ms.length ≤ 1048576) (hr : RM w a ms) :
    Calls Tryz.prog 90 #[.slice a ms.length cap] w fun e w' => e = .returned (.bool (linksB ms)) ∧ Below w.heap.size w w' := by
  by_cases hbig : (4096 : Int) < ms.length
  · have hf : Hid (linksB ms = false) := hide (by cases hh : linksB ms; rfl; have := links_len hh; omega)
    go_enter Tryz.func90, Tryz.ntmps90
    go_wp2
    go_ret
    exact ⟨ret_bool (unhide hf).symm, Below.refl _ _⟩
  have HR := hide hr
  clear hr
  generalize hN : ms.length = n at *
  have HN := hide hN
  clear hN
  go_enter Tryz.func90, Tryz.ntmps90
  go_wp2
  go_loopw [3] (fun i wr => ∃ j : Nat, j ≤ n ∧ i = .int .i64 j ∧ Hid (allL ms j = true) ∧ Hid (Below w.heap.size w wr)) (fun i _ => n - (intOf i).toNat)
  case atStart => exact ⟨0, by omega, rfl, hide (Ri.all_zero), hide (Below.refl _ _)⟩
  case round =>
    obtain ⟨j, hj, rfl, hrl, hbl⟩ := hrel
    by_cases hlt : (j : Int) < (n : Int)
    · have k0 : (0 : Int) ≤ (j : Int) := by omega
      have hlen : j < ms.length := by rw [unhide HN]; omega
      rcases (unhide HR).below (by exact (unhide hbl)) with e0 | ⟨g, off, rfl, hc⟩
      · exfalso; rw [e0] at hlen; simp at hlen
      have HL := hide hlen
      have hA := hc j hlen
      cases hk : okL (ms.getD j R.zero)
      · clear hc
        have HST := hide (Ri.all_no hlen (Ri.step_bad (key := R.ad) hk))
        have HK := hide hk
        clear hk
        generalize ms.getD j R.zero = m at *
        obtain ⟨ad, hd, sy, ci, co, wl⟩ := m
        go_wp2_with fail
        refine wp_region_noPanic ?_
        refine wp_region_held_drew (S := fun w' => At w' g (off + j * 6) ⟨ad, hd, sy, ci, co, wl⟩ ∧ w'.cell? ⟨g, off + j * 6, none⟩ = some (.int .i64 ad) ∧ w'.cell? ⟨g, off + j * 6 + 1, none⟩ = some (.int .i64 hd) ∧ w'.cell? ⟨g, off + j * 6 + 2, none⟩ = some (.int .i64 sy) ∧ w'.cell? ⟨g, off + j * 6 + 3, none⟩ = some (.int .i64 ci) ∧ w'.cell? ⟨g, off + j * 6 + 4, none⟩ = some (.int .i64 co) ∧ w'.cell? ⟨g, off + j * 6 + 5, none⟩ = some (.int .i64 wl)) (by kernel_rfl) (sOne hA.drew) (fun hHeld => ?_)
        refine Rg.t 0 13 ?_
        refine Rg.t 1 14 ?_
        refine Rg.t 2 15 ?_
        refine Rg.t 3 16 ?_
        (refine Rg.o 4 (fun K hK => ?_); go_simp)
        refine (l06Link ad hd sy ci co wl _).mono ?_
        rintro e w1 ⟨rfl, b1⟩
        rw [unhide HK]
        refine hK.out _ _ (sOne (hA.drew.below b1)) (fun hHeld => ?_)
        clear hK K
        (try simp only [Act.put, List.setIfInBounds_toArray, List.set_cons_zero, List.set_cons_succ])
        refine Rg.t 5 18 ?_
        refine Rg.t 6 19 ?_
        refine Rg.s 7 20 ?_
        refine Rg.s 8 21 ?_
        refine Rg.s 9 22 ?_
        refine Rg.s 10 23 ?_
        refine Rg.s 11 24 ?_
        refine Rg.s 12 25 ?_
        refine Rg.s 13 26 ?_
        refine Rg.s 14 27 ?_
        refine Rg.s 15 28 ?_
        refine Rg.s 16 29 ?_
        refine Rg.s 17 30 ?_
        refine Rg.s 18 31 ?_
        refine Rg.s 19 32 ?_
        refine Rg.s 20 33 ?_
        refine Rg.s 21 34 ?_
        refine Rg.s 22 35 ?_
        refine Rg.t 23 36 ?_
        refine wpAnyH_done (by kernel_rfl) (NoPanic.normal ?_) _
        have hb1 := hide ((unhide hbl).drew.trans (b1.mono (by show w.heap.size ≤ wr.heap.size; exact (unhide hbl).size)))
        go_wp2_with fail
        go_ret
        exact ⟨ret_bool (unhide HST).symm, unhide hb1⟩
      have HK := hide hk
      clear hk
      by_cases hj0 : j = 0
      · subst hj0
        clear hc
        rw [Nat.zero_mul, Nat.add_zero] at hA
        have HST := hide (Ri.all_succ (unhide hrl) (Ri.step_zero (key := R.ad) (unhide HK)))
        generalize ms.getD 0 R.zero = m at *
        obtain ⟨ad, hd, sy, ci, co, wl⟩ := m
        go_wp2_with fail
        refine wp_region_noPanic ?_
        refine wp_region_held_drew (S := fun w' => At w' g off ⟨ad, hd, sy, ci, co, wl⟩ ∧ w'.cell? ⟨g, off, none⟩ = some (.int .i64 ad) ∧ w'.cell? ⟨g, off + 1, none⟩ = some (.int .i64 hd) ∧ w'.cell? ⟨g, off + 2, none⟩ = some (.int .i64 sy) ∧ w'.cell? ⟨g, off + 3, none⟩ = some (.int .i64 ci) ∧ w'.cell? ⟨g, off + 4, none⟩ = some (.int .i64 co) ∧ w'.cell? ⟨g, off + 5, none⟩ = some (.int .i64 wl)) (by kernel_rfl) (sOne hA.drew) (fun hHeld => ?_)
        refine Rg.t 0 13 ?_
        refine Rg.t 1 14 ?_
        refine Rg.t 2 15 ?_
        refine Rg.t 3 16 ?_
        (refine Rg.o 4 (fun K hK => ?_); go_simp)
        refine (l06Link ad hd sy ci co wl _).mono ?_
        rintro e w1 ⟨rfl, b1⟩
        rw [unhide HK]
        refine hK.out _ _ (sOne (hA.drew.below b1)) (fun hHeld => ?_)
        clear hK K
        (try simp only [Act.put, List.setIfInBounds_toArray, List.set_cons_zero, List.set_cons_succ])
        refine Rg.t 5 18 ?_
        refine Rg.t 6 19 ?_
        refine Rg.t 7 20 ?_
        refine Rg.t 8 21 ?_
        refine Rg.t 9 22 ?_
        refine Rg.s 10 23 ?_
        refine Rg.s 11 24 ?_
        refine Rg.s 12 25 ?_
        refine Rg.s 13 26 ?_
        refine Rg.s 14 27 ?_
        refine Rg.s 15 28 ?_
        refine Rg.s 16 29 ?_
        refine Rg.s 17 30 ?_
        refine Rg.s 18 31 ?_
        refine Rg.s 19 32 ?_
        refine Rg.s 20 33 ?_
        refine Rg.s 21 34 ?_
        refine Rg.t 22 35 ?_
        refine Rg.t 23 36 ?_
        refine wpAnyH_done (by kernel_rfl) (NoPanic.normal ?_) _
        have hb1 := hide ((unhide hbl).drew.trans (b1.mono (by show w.heap.size ≤ wr.heap.size; exact (unhide hbl).size)))
        go_wp2_with fail
        go_roundw
        case rel => exact ⟨0 + 1, by omega, by go_num, HST, hb1⟩
        case measure => simp [intOf]; omega
      · obtain ⟨i, hji⟩ : ∃ i, j = i + 1 := ⟨j - 1, by omega⟩
        have HJ := hide hji
        have e1 : (j : Int) - 1 = (i : Int) := by omega
        have i0 : (0 : Int) ≤ (i : Int) := by omega
        have wi : IntKind.i64.wrap (i : Int) = (i : Int) := by rw [IntKind.wrap_i64]; omega
        have i1 : (i : Int) < (n : Int) := by omega
        have j1 : (0 : Int) < (j : Int) := by omega
        have j2 : 0 < j := by omega
        have hP := hc i (by omega)
        have EJ : ms.getD j R.zero = ms.getD (i + 1) R.zero := by rw [hji]
        clear hc hji
        by_cases hk : (ms.getD i R.zero).ad < (ms.getD j R.zero).ad
        · have HST : Hid (allL ms (j + 1) = true) := hide (Ri.all_succ (unhide hrl) (by rw [unhide HJ]; exact Ri.step_lt (by rw [← EJ]; exact unhide HK) (by rw [← EJ]; exact hk)))
          clear EJ
          generalize ms.getD j R.zero = m at *
          generalize ms.getD i R.zero = m0 at *
          obtain ⟨ad, hd, sy, ci, co, wl⟩ := m
          obtain ⟨ad0, hd0, sy0, ci0, co0, wl0⟩ := m0
          dsimp only at hk
          go_wp2_with fail
          refine wp_region_noPanic ?_
          refine wp_region_held_drew (S := fun w' => (At w' g (off + j * 6) ⟨ad, hd, sy, ci, co, wl⟩ ∧ At w' g (off + i * 6) ⟨ad0, hd0, sy0, ci0, co0, wl0⟩) ∧ w'.cell? ⟨g, off + j * 6, none⟩ = some (.int .i64 ad) ∧ w'.cell? ⟨g, off + j * 6 + 1, none⟩ = some (.int .i64 hd) ∧ w'.cell? ⟨g, off + j * 6 + 2, none⟩ = some (.int .i64 sy) ∧ w'.cell? ⟨g, off + j * 6 + 3, none⟩ = some (.int .i64 ci) ∧ w'.cell? ⟨g, off + j * 6 + 4, none⟩ = some (.int .i64 co) ∧ w'.cell? ⟨g, off + j * 6 + 5, none⟩ = some (.int .i64 wl) ∧ w'.cell? ⟨g, off + i * 6, none⟩ = some (.int .i64 ad0)) (by kernel_rfl) (sTwo hA.drew hP.drew) (fun hHeld => ?_)
          refine Rg.t 0 13 ?_
          refine Rg.t 1 14 ?_
          refine Rg.t 2 15 ?_
          refine Rg.t 3 16 ?_
          (refine Rg.o 4 (fun K hK => ?_); go_simp)
          refine (l06Link ad hd sy ci co wl _).mono ?_
          rintro e w1 ⟨rfl, b1⟩
          rw [unhide HK]
          refine hK.out _ _ (sTwo (hA.drew.below b1) (hP.drew.below b1)) (fun hHeld => ?_)
          clear hK K
          (try simp only [Act.put, List.setIfInBounds_toArray, List.set_cons_zero, List.set_cons_succ])
          refine Rg.t 5 18 ?_
          refine Rg.t 6 19 ?_
          refine Rg.t 7 20 ?_
          refine Rg.t 8 21 ?_
          refine Rg.t 9 22 ?_
          refine Rg.t 10 23 ?_
          refine Rg.t 11 24 ?_
          refine Rg.t 12 25 ?_
          refine Rg.t 13 26 ?_
          refine Rg.t 14 27 ?_
          refine Rg.t 15 28 ?_
          refine Rg.t 16 29 ?_
          refine Rg.t 17 30 ?_
          refine Rg.t 18 31 ?_
          refine Rg.t 19 32 ?_
          refine Rg.t 20 33 ?_
          refine Rg.t 21 34 ?_
          refine Rg.t 22 35 ?_
          refine Rg.t 23 36 ?_
          refine wpAnyH_done (by kernel_rfl) (NoPanic.normal ?_) _
          have hb1 := hide ((unhide hbl).drew.trans (b1.mono (by show w.heap.size ≤ wr.heap.size; exact (unhide hbl).size)))
          go_wp2_with fail
          go_roundw
          case rel => exact ⟨j + 1, by omega, by go_num, HST, hb1⟩
          case measure => simp [intOf]; omega
        · have HST : Hid (linksB ms = false) := hide (Ri.all_no (unhide HL) (show Ri.step R.zero okL R.ad ms j = false by rw [unhide HJ]; exact Ri.step_ge (by rw [← EJ]; omega)))
          clear EJ
          generalize ms.getD j R.zero = m at *
          generalize ms.getD i R.zero = m0 at *
          obtain ⟨ad, hd, sy, ci, co, wl⟩ := m
          obtain ⟨ad0, hd0, sy0, ci0, co0, wl0⟩ := m0
          dsimp only at hk
          go_wp2_with fail
          refine wp_region_noPanic ?_
          refine wp_region_held_drew (S := fun w' => (At w' g (off + j * 6) ⟨ad, hd, sy, ci, co, wl⟩ ∧ At w' g (off + i * 6) ⟨ad0, hd0, sy0, ci0, co0, wl0⟩) ∧ w'.cell? ⟨g, off + j * 6, none⟩ = some (.int .i64 ad) ∧ w'.cell? ⟨g, off + j * 6 + 1, none⟩ = some (.int .i64 hd) ∧ w'.cell? ⟨g, off + j * 6 + 2, none⟩ = some (.int .i64 sy) ∧ w'.cell? ⟨g, off + j * 6 + 3, none⟩ = some (.int .i64 ci) ∧ w'.cell? ⟨g, off + j * 6 + 4, none⟩ = some (.int .i64 co) ∧ w'.cell? ⟨g, off + j * 6 + 5, none⟩ = some (.int .i64 wl) ∧ w'.cell? ⟨g, off + i * 6, none⟩ = some (.int .i64 ad0)) (by kernel_rfl) (sTwo hA.drew hP.drew) (fun hHeld => ?_)
          refine Rg.t 0 13 ?_
          refine Rg.t 1 14 ?_
          refine Rg.t 2 15 ?_
          refine Rg.t 3 16 ?_
          (refine Rg.o 4 (fun K hK => ?_); go_simp)
          refine (l06Link ad hd sy ci co wl _).mono ?_
          rintro e w1 ⟨rfl, b1⟩
          rw [unhide HK]
          refine hK.out _ _ (sTwo (hA.drew.below b1) (hP.drew.below b1)) (fun hHeld => ?_)
          clear hK K
          (try simp only [Act.put, List.setIfInBounds_toArray, List.set_cons_zero, List.set_cons_succ])
          refine Rg.t 5 18 ?_
          refine Rg.t 6 19 ?_
          refine Rg.t 7 20 ?_
          refine Rg.t 8 21 ?_
          refine Rg.t 9 22 ?_
          refine Rg.t 10 23 ?_
          refine Rg.t 11 24 ?_
          refine Rg.t 12 25 ?_
          refine Rg.t 13 26 ?_
          refine Rg.t 14 27 ?_
          refine Rg.t 15 28 ?_
          refine Rg.t 16 29 ?_
          refine Rg.t 17 30 ?_
          refine Rg.t 18 31 ?_
          refine Rg.t 19 32 ?_
          refine Rg.t 20 33 ?_
          refine Rg.t 21 34 ?_
          refine Rg.t 22 35 ?_
          refine Rg.t 23 36 ?_
          refine wpAnyH_done (by kernel_rfl) (NoPanic.normal ?_) _
          have hb1 := hide ((unhide hbl).drew.trans (b1.mono (by show w.heap.size ≤ wr.heap.size; exact (unhide hbl).size)))
          go_wp2_with fail
          go_ret
          exact ⟨ret_bool (unhide HST).symm, unhide hb1⟩
    · obtain rfl : j = n := by omega
      have hok : linksB ms = true := by unfold linksB; rw [unhide HN]; exact unhide hrl
      have h8 := links_len hok
      have h8' : (j : Int) ≤ 8 := by have := unhide HN; omega
      have HO := hide hok
      clear hok h8
      go_wp2
      go_ret
      exact ⟨ret_bool (unhide HO).symm, unhide hbl⟩
end Ln
end Go.Proofs.YtffclijcfngeeaaGreat
namespace Go.Proofs.YtffclijcfngeeaaGreat
open Go.ChangeShapes Go.WideShapes Go.ChangeAt Go.RowKit
set_option linter.unusedVariables false
set_option linter.unusedSimpArgs false
attribute [local go_sem ↓] Go.wp_at_zero Go.wp_at_succ
namespace In
open W1
def flat (zs : List Int) : List Value := zs.map (Value.int .i64)
theorem flat_len (zs : List Int) : (flat zs).length = zs.length * 1 := by simp [flat]
theorem flat_append (xs ys : List Int) : flat (xs ++ ys) = flat xs ++ flat ys := by simp [flat]
theorem flat_one_cell {zs : List Int} {u : Value} (h : u ∈ flat zs) : u.oneCell' = true := by
  obtain ⟨z, _, rfl⟩ := List.mem_map.1 h; rfl
theorem flat_get {zs : List Int} {i : Nat} (h : i < zs.length) : (flat zs)[i]? = some (.int .i64 (zs.getD i 0)) := by
  unfold flat
  rw [List.getElem?_map, List.getElem?_eq_getElem h, List.getD_eq_getElem?_getD, List.getElem?_eq_getElem h]; rfl
/-- The slice at a reads as these. -/
def RM (w : World) (a : Option Addr) (zs : List Int) : Prop :=
  zs = [] ∨ ∃ g off, a = some ⟨g, off, none⟩ ∧ ∀ i, i < zs.length → w.cell? ⟨g, off + i, none⟩ = some (.int .i64 (zs.getD i 0))
theorem RM.below {w w' : World} {a : Option Addr} {zs : List Int} (h : RM w a zs) (hb : Below w.heap.size w w') : RM w' a zs := by
  rcases h with h | ⟨g, off, rfl, hc⟩
  · exact .inl h
  · exact .inr ⟨g, off, rfl, fun i hi => (hb.cell (p := ⟨g, off + i, none⟩) (World.block_lt_of_cell? _ _ (hc i hi))).trans (hc i hi)⟩
theorem RM.at {w : World} {g off : Nat} {zs : List Int} {i : Nat} (h : RM w (some ⟨g, off, none⟩) zs) (hi : i < zs.length) : w.cell? ⟨g, off + i, none⟩ = some (.int .i64 (zs.getD i 0)) := by
  rcases h with rfl | ⟨g', off', e, hc⟩
  · simp at hi
  · cases e; exact hc i hi
theorem plain_add (b off k : Nat) : (⟨b, off, none⟩ : Addr).add k = ⟨b, off + k, none⟩ := by unfold Addr.add; split <;> simp_all
theorem RM.cells {w : World} {g off : Nat} {zs : List Int} (h : RM w (some ⟨g, off, none⟩) zs) : ∀ j u, (flat zs)[j]? = some u → w.cell? ((⟨g, off, none⟩ : Addr).add j) = some u := by
  intro j u hj
  have hl : j < zs.length := by have := (List.getElem?_eq_some_iff.1 hj).1; rw [flat_len] at this; omega
  rw [flat_get hl] at hj
  rw [plain_add, ← hj]
  exact h.at hl
/-- The first j stand at the head of block g, whose n cells may be written. -/
def Upto (w : World) (g n j : Nat) (zs : List Int) : Prop :=
  (∀ i, i < j → w.cell? ⟨g, i, none⟩ = some (.int .i64 (zs.getD i 0))) ∧ ∀ i, i < n → (w.cell? ⟨g, i, none⟩).isSome = true ∧ w.frozen? ⟨g, i, none⟩ = false
theorem Upto.step {w : World} {g n j : Nat} {zs : List Int} (h : Upto w g n j zs) (hj : j < n) : Upto (w.setCell ⟨g, j, none⟩ (.int .i64 (zs.getD j 0))) g n (j + 1) zs := by
  refine ⟨fun i hi => ?_, fun i hi => ⟨?_, by rw [World.frozen?_setCell]; exact (h.2 i hi).2⟩⟩
  · by_cases e : i = j
    · subst e
      obtain ⟨v, hv⟩ := Option.isSome_iff_exists.1 (h.2 i hj).1
      rw [World.cell?_setCell_same _ _ _ hv]
    · rw [World.cell?_setCell_other _ _ _ _ (by intro e'; cases e'; exact e rfl)]
      exact h.1 i (by omega)
  · obtain ⟨v, hv⟩ := Option.isSome_iff_exists.1 (h.2 i hi).1
    obtain ⟨v', hv'⟩ := cell?_setCell_some (p := ⟨g, j, none⟩) (x := .int .i64 (zs.getD j 0)) hv
    rw [hv']; rfl
theorem Upto.below {w w' : World} {g n j : Nat} {zs : List Int} (h : Upto w g n j zs) (hb : Below w.heap.size w w') (hg : g < w.heap.size) : Upto w' g n j zs :=
  ⟨fun i hi => (hb.cell (p := ⟨g, i, none⟩) hg).trans (h.1 i hi), fun i hi => ⟨by rw [hb.cell (p := ⟨g, i, none⟩) hg]; exact (h.2 i hi).1, by rw [hb.frozen (p := ⟨g, i, none⟩) hg]; exact (h.2 i hi).2⟩⟩
theorem Upto.of_block {w w' : World} {g n j : Nat} {zs : List Int} (h : Upto w g n j zs) (hb : w'.heap[g]? = w.heap[g]?) : Upto w' g n j zs := by
  have c : ∀ q, w'.cell? ⟨g, q, none⟩ = w.cell? ⟨g, q, none⟩ := fun q => World.cell?_of_block (a := ⟨g, q, none⟩) hb
  have f : ∀ q, w'.frozen? ⟨g, q, none⟩ = w.frozen? ⟨g, q, none⟩ := fun q => World.frozen?_of_block (a := ⟨g, q, none⟩) hb
  exact ⟨fun i hi => (c _).trans (h.1 i hi), fun i hi => ⟨by rw [c]; exact (h.2 i hi).1, by rw [f]; exact (h.2 i hi).2⟩⟩
theorem rm_of {w : World} {g n : Nat} {zs : List Int} (h : Upto w g n zs.length zs) : RM w (some ⟨g, 0, none⟩) zs := .inr ⟨g, 0, rfl, fun i hi => by rw [Nat.zero_add]; exact h.1 i hi⟩
/-- A list between two bounds of the heap, in memory that may be written. -/
def Lst (W : World) (a : Option Addr) (zs : List Int) (lo hi : Nat) : Prop := zs = [] ∨ ∃ g, a = some ⟨g, 0, none⟩ ∧ lo ≤ g ∧ g < hi ∧ g < W.heap.size ∧ Upto W g zs.length zs.length zs
theorem Lst.rm {W : World} {a : Option Addr} {zs : List Int} {lo hi : Nat} (h : Lst W a zs lo hi) : RM W a zs := by
  rcases h with rfl | ⟨g, rfl, _, _, _, hu⟩
  · exact .inl rfl
  · exact rm_of hu
theorem Lst.below {W W' : World} {a : Option Addr} {zs : List Int} {lo hi : Nat} (h : Lst W a zs lo hi) (hb : Below W.heap.size W W') : Lst W' a zs lo hi := by
  rcases h with rfl | ⟨g, rfl, h1, h2, h3, hu⟩
  · exact .inl rfl
  · exact .inr ⟨g, rfl, h1, h2, Nat.lt_of_lt_of_le h3 hb.size, hu.below hb h3⟩
theorem Lst.mono {W : World} {a : Option Addr} {zs : List Int} {lo hi lo' hi' : Nat} (h : Lst W a zs lo hi) (h1 : lo' ≤ lo) (h2 : hi ≤ hi') : Lst W a zs lo' hi' := by
  rcases h with rfl | ⟨g, rfl, h3, h4, h5, hu⟩
  · exact .inl rfl
  · exact .inr ⟨g, rfl, by omega, by omega, h5, hu⟩
theorem Lst.but {W W' : World} {a : Option Addr} {zs : List Int} {lo hi : Nat} {p : Nat → Prop} (h : Lst W a zs lo hi) (hs : W.heap.size ≤ W'.heap.size) (hb : ∀ k, k < W.heap.size → p k → W'.heap[k]? = W.heap[k]?) (hp : ∀ k, lo ≤ k → k < hi → p k) : Lst W' a zs lo hi := by
  rcases h with rfl | ⟨g, rfl, h1, h2, h3, hu⟩
  · exact .inl rfl
  · exact .inr ⟨g, rfl, h1, h2, Nat.lt_of_lt_of_le h3 hs, hu.of_block (hb g h3 (hp g h1 h2))⟩
def LstV (W : World) (v : Value) (zs : List Int) (lo hi : Nat) : Prop := ∃ a c, v = .slice a zs.length c ∧ Lst W a zs lo hi
theorem LstV.mono {W : World} {v : Value} {zs : List Int} {lo hi lo' hi' : Nat} (h : LstV W v zs lo hi) (h1 : lo' ≤ lo) (h2 : hi ≤ hi') : LstV W v zs lo' hi' := by
  obtain ⟨a, c, e, hl⟩ := h; exact ⟨a, c, e, hl.mono h1 h2⟩
theorem lstV_nil (W : World) (a : Option Addr) (c lo hi : Nat) : LstV W (.slice a 0 c) [] lo hi := ⟨a, c, rfl, .inl rfl⟩
theorem upto_own {w : World} {base g cap n : Nat} {zs : List Int} (hn : n = zs.length) (h : w.ownsRow base 3 1 (.slice (some ⟨g, 0, none⟩) n cap) n (flat zs)) : Upto w g n n zs := by
  subst hn
  refine ⟨fun i hi => ?_, fun i hi => ?_⟩
  · have := h.cells (g := g) rfl i _ (flat_get hi)
    rw [plain_add, Nat.zero_add] at this
    exact this
  · obtain ⟨_, ⟨e, _⟩ | ⟨g', cap', cur, e, _, hg, h1, _, h3, _⟩⟩ := h
    · cases e
    · cases e
      have hlt : i < cur.size := by rw [h3]; omega
      exact ⟨by simp [World.cell?, hg, hlt], by simp [World.frozen?, hg]⟩
theorem lst_own {w : World} {base n : Nat} {v : Value} {zs : List Int} (hn : n = zs.length) (h : w.ownsRow base 3 1 v n (flat zs)) : LstV w v zs base w.heap.size := by
  unfold LstV
  have h' := h
  obtain ⟨hl, ⟨rfl, h0⟩ | ⟨g, cap, cur, rfl, hb, hg, _, _, _, _⟩⟩ := h
  · exact ⟨none, 0, by rw [← hn, h0], .inl (List.eq_nil_of_length_eq_zero (by omega))⟩
  · have hlt : g < w.heap.size := by
      rcases Nat.lt_or_ge g w.heap.size with h | h
      · exact h
      · rw [Array.getElem?_eq_none h] at hg; cases hg
    refine ⟨_, cap, by rw [hn], .inr ⟨g, rfl, hb, hlt, hlt, ?_⟩⟩
    have := upto_own hn h'
    rw [hn] at this; exact this
theorem infoI : ∃ i, Tryz.prog.info? 3 = some i ∧ i.zero = some (.int .i64 0) ∧ i.size = 1 ∧ i.bytes = 8 := by
  have h : (Tryz.prog.info? 3).map (fun i => (i.zero, i.size, i.bytes)) = some (some (.int .i64 0), 1, 8) := by kernel_rfl
  obtain ⟨i, hi, he⟩ := Option.map_eq_some_iff.1 h
  simp only [Prod.mk.injEq] at he
  exact ⟨i, hi, he.1, he.2.1, he.2.2⟩
/-- append of a list to a row of one's own, as a walk meets it. -/
theorem wpList_apS {ops : Array Oper} {rest : List Oper} {o : Oper} {a : Act} {Q : Exit → Act → World → Prop} {w : World} {base : Nat} {v : Value} {xs : List Int} (hown : w.ownsRow base 3 1 v xs.length (flat xs)) (g off m c : Nat) (ms : List Int) (hm : ms.length = m) (hr : RM w (some ⟨g, off, none⟩) ms) (hlen : xs.length + ms.length ≤ 4194304) (hbase : base ≤ w.heap.size)
    (hgd : o.guard = none) (s x : Operand) (ho : o.op = .call { callee := .builtin .append, args := #[s, x], argTypes := #[59, 59] }) (hs : a.eval s = v) (hx : a.eval x = .slice (some ⟨g, off, none⟩) m c)
    (h : ∀ v' w', w'.ownsRow base 3 1 v' (xs ++ ms).length (flat (xs ++ ms)) → w.grownBy w' v.ownBlock → wpList Tryz.prog ops Q rest (a.put o.dst v') w') : wpList Tryz.prog ops Q (o :: rest) a w := by
  subst hm
  obtain ⟨i0, hi, hz0, hz1, hz2⟩ := infoI
  refine wpList_append_own w hgd s x _ ho base 3 i0 _ 1 8 Tryz.underlying59 hi hz0 hz1 hz2 rfl (by decide) v xs.length (flat xs) hs hown ⟨g, off, none⟩ ms.length c (flat ms) hx (flat_len ms) hr.cells (fun u hu => flat_one_cell hu) (by unfold maxLen; omega) (by omega) hbase (fun v' w' h1 h2 _ => ?_)
  refine h v' w' ?_ h2
  rw [List.length_append, flat_append]; exact h1
theorem rm_new (w : World) (z : Int) : RM (w.alloc (.cells #[.int .i64 z] 3)) (some ⟨w.heap.size, 0, none⟩) [z] := by
  refine .inr ⟨_, _, rfl, fun i hi => ?_⟩
  obtain rfl : i = 0 := by simp at hi; omega
  simp [World.cell?_alloc_new]
theorem own_empty (w : World) (base : Nat) (hb : base ≤ w.heap.size) : (w.alloc (.cells #[] 3)).ownsRow base 3 1 (.slice (some ⟨w.heap.size, 0, none⟩) 0 0) ([] : List Int).length (flat []) := World.ownsRow_made w #[] 0 hb (Nat.zero_le _) (by simp)
theorem own_nil (w : World) (base : Nat) : w.ownsRow base 3 1 (.slice none 0 0) ([] : List Int).length (flat []) := World.ownsRow_nil w base _ _
theorem below_own {B : Nat} {w0 w w' : World} {base : Nat} {v : Value} {n : Nat} {xs : List Value} (h : Below B w0 w) (ho : w.ownsRow base 3 1 v n xs) (hg : w.grownBy w' v.ownBlock) (hb : B ≤ base) (hB : B ≤ w.heap.size) : Below B w0 w' :=
  h.grown hg hB (fun k hk => Nat.le_trans hb (ho.lt k hk).1)
set_option maxRecDepth 100000 in
set_option maxHeartbeats 2000000 in
theorem eqS (a b : Option Addr) (zs : List Int) (ca cb : Nat) (w : World) (hm : zs.length ≤ 1048576) (hr : RM w a zs) (hr' : RM w b zs) :
    Calls Tryz.prog 87 #[.slice a zs.length ca, .slice b zs.length cb] w fun e w' => e = .returned (.bool true) ∧ Below w.heap.size w w' := by
  have HR := hide hr
  have HR' := hide hr'
  clear hr hr'
  generalize hN : zs.length = n at *
  have HN := hide hN
  clear hN
  go_enter Tryz.func87, Tryz.ntmps87
  go_wp2
  go_loopw [5] (fun i wr => ∃ j : Nat, j ≤ n ∧ i = .int .i64 j ∧ Hid (Below w.heap.size w wr)) (fun i _ => n - (intOf i).toNat)
  case atStart => exact ⟨0, by omega, rfl, hide (Below.refl _ _)⟩
  case round =>
    obtain ⟨j, hj, rfl, hbl⟩ := hrel
    by_cases hlt : (j : Int) < (n : Int)
    · have k0 : (0 : Int) ≤ (j : Int) := by omega
      have hlen : j < zs.length := by rw [unhide HN]; omega
      rcases (unhide HR).below (by exact (unhide hbl)) with e0 | ⟨g, off, rfl, hc⟩
      · exfalso; rw [e0] at hlen; simp at hlen
      rcases (unhide HR').below (by exact (unhide hbl)) with e0 | ⟨g', off', rfl, hc'⟩
      · exfalso; rw [e0] at hlen; simp at hlen
      have hA := hc j hlen
      have hA' := hc' j hlen
      clear hc hc'
      generalize zs.getD j 0 = z at *
      have hzb : (z == z) = true := by simp
      go_wp2_with fail
      go_region_held3 (fun w' => w'.cell? ⟨g, off + j, none⟩ = some (.int .i64 z) ∧ w'.cell? ⟨g', off' + j, none⟩ = some (.int .i64 z)) (exact ⟨hA, hA'⟩) (fail)
      have hb1 := hide ((unhide hbl).drew)
      go_wp2_with fail
      go_roundw
      case rel => exact ⟨j + 1, by omega, by go_num, hb1⟩
      case measure => simp [intOf]; omega
    · go_wp2
      go_ret
      exact ⟨rfl, unhide hbl⟩
/-- The marks from K on. -/
def marks (K : Int) (n : Nat) : List Int := (List.range n).map fun t : Nat => K + 1 * (t : Int)
theorem marks_len (K : Int) (n : Nat) : (marks K n).length = n := by simp [marks]
theorem marks_at (K : Int) (n t : Nat) (h : t < n) : (marks K n).getD t 0 = K + 1 * (t : Int) := by
  unfold marks
  rw [List.getD_eq_getElem?_getD, List.getElem?_map, List.getElem?_range h]; rfl
theorem grown_set {w w1 : World} {g o : Nat} {v : Value} (h : w.grownBy w1 (some g)) : w.grownBy (w1.setCell ⟨g, o, none⟩ v) (some g) :=
  ⟨h.os, h.tape, h.output, by have := h.size; simp [World.setCell]; exact this, fun k hk hne => (Below.heap_setCell _ _ _ _ (fun e => hne (by rw [e]))).trans (h.block k hk hne)⟩
end In
end Go.Proofs.YtffclijcfngeeaaGreat
namespace Go.Proofs.YtffclijcfngeeaaGreat
open Go.ChangeShapes Go.WideShapes Go.ChangeAt Go.RowKit
set_option linter.unusedVariables false
set_option linter.unusedSimpArgs false
attribute [local go_sem ↓] Go.wp_at_zero Go.wp_at_succ
namespace Ln
open W1 Lk
def isSym (now : Int) (m : R) : Bool := statusV m now == 2
def symN (now : Int) (ms : List R) (j : Nat) : List Int := ((ms.take j).filter (isSym now)).map (·.ad)
def symA (ms : List R) (now : Int) : List Int := if codeL ms = 0 then symN now ms ms.length else []
theorem symN_yes {now : Int} {ms : List R} {j : Nat} (h : j < ms.length) (hs : isSym now (ms.getD j R.zero) = true) : symN now ms (j + 1) = symN now ms j ++ [(ms.getD j R.zero).ad] := by
  unfold symN
  rw [List.getD_eq_getElem?_getD, List.getElem?_eq_getElem h] at hs ⊢
  rw [List.take_add_one, List.getElem?_eq_getElem h, List.filter_append, List.map_append]
  simp only [Option.toList_some, Option.getD_some] at hs ⊢
  rw [List.filter_cons_of_pos hs]; rfl
theorem symN_no {now : Int} {ms : List R} {j : Nat} (h : j < ms.length) (hs : isSym now (ms.getD j R.zero) = false) : symN now ms (j + 1) = symN now ms j := by
  unfold symN
  rw [List.getD_eq_getElem?_getD, List.getElem?_eq_getElem h] at hs
  rw [List.take_add_one, List.getElem?_eq_getElem h, List.filter_append, List.map_append]
  simp only [Option.toList_some, Option.getD_some] at hs ⊢
  rw [List.filter_cons_of_neg (by simp [hs])]; simp
theorem symN_len (now : Int) (ms : List R) (j : Nat) : (symN now ms j).length ≤ j := by
  unfold symN; rw [List.length_map]
  have := List.length_filter_le (isSym now) (ms.take j)
  rw [List.length_take] at this; omega
theorem sym_len (ms : List R) (now : Int) : (symA ms now).length ≤ ms.length := by
  unfold symA; split
  · exact symN_len _ _ _
  · exact Nat.zero_le _
theorem own_belowI {w w' : World} {base : Nat} {v : Value} {n : Nat} {xs : List Value} (h : w.ownsRow base 3 1 v n xs) (hb : Below w.heap.size w w') : w'.ownsRow base 3 1 v n xs := by
  refine h.kept (row := none) ⟨hb.os, hb.tape, hb.output, hb.size, fun k hk _ => hb.block k hk⟩ ?_
  cases v.ownBlock
  · exact .inl rfl
  · exact .inr (by simp)
set_option maxRecDepth 100000 in
set_option maxHeartbeats 4000000 in
theorem l06Sym (a : Option Addr) (ms : List R) (cap : Nat) (now : Int) (w : World) (hm : ms.length ≤ 4096) (hr : RM w a ms) :
    Calls Tryz.prog 301 #[.slice a ms.length cap, .int .i64 now] w fun e w' => ∃ v, e = .returned v ∧ Below w.heap.size w w' ∧ In.LstV w' v (symN now ms ms.length) w.heap.size w'.heap.size := by
  have HR1 := hide hr
  clear hr
  have O0 := hide (In.own_empty w w.heap.size (Nat.le_refl _))
  have P0 := hide ((Below.refl w.heap.size w).alloc (Nat.le_refl _) (.cells #[] 3))
  generalize hN : ms.length = n at *
  have HN := hide hN
  clear hN
  go_enter Tryz.func301, Tryz.ntmps301
  go_wp2_with fail
  go_loopw [5, 6] (fun v i wr => ∃ j : Nat, j ≤ n ∧ i = .int .i64 j ∧ Hid (wr.ownsRow w.heap.size 3 1 v (symN now ms j).length (In.flat (symN now ms j))) ∧ Hid (Below w.heap.size w wr)) (fun _ i _ => n - (intOf i).toNat)
  case atStart => exact ⟨0, by omega, rfl, O0, P0⟩
  case round =>
    obtain ⟨j, hj, rfl, how, hbl⟩ := hrel
    by_cases hlt : (j : Int) < (n : Int)
    · have k0 : (0 : Int) ≤ (j : Int) := by omega
      have hlen : j < ms.length := by rw [unhide HN]; omega
      obtain ⟨g, off, rfl⟩ := (unhide HR1).form (by omega)
      obtain ⟨c0, c1, c2, c3, c4, c5⟩ := ((unhide HR1).below (unhide hbl)).at hlen
      have HC := hide (fun (w2 : World) (b : Below wr.heap.size wr w2) => (((unhide HR1).below (unhide hbl)).below b).at hlen)
      have HY := hide (fun (h : isSym now (ms.getD j R.zero) = true) => symN_yes hlen h)
      have HZ := hide (fun (h : isSym now (ms.getD j R.zero) = false) => symN_no hlen h)
      generalize ms.getD j R.zero = m at *
      have hfl := symN_len now ms j
      have hbs := (unhide hbl).size
      go_wp2_with fail
      refine (l06Status _ _ _ _ _ _ now _).mono ?_
      rintro e w2 ⟨rfl, b2⟩
      have HBL := hide ((unhide hbl).trans (b2.mono hbs))
      have HOW := hide (own_belowI (unhide how) b2)
      have hsz := b2.size
      obtain ⟨d0, d1, d2, d3, d4, d5⟩ := unhide HC w2 b2
      clear b2 c0 c1 c2 c3 c4 c5
      have e2 : statusV ⟨m.ad, m.hd, m.sy, m.ci, m.co, m.wl⟩ now = statusV m now := rfl
      rw [e2]
      clear e2
      have hsw := (unhide HBL).size
      cases hs : isSym now m
      · have HTF := hide (unhide HZ hs)
        have hne : (statusV m now == 2) = false := hs
        clear hs
        clear HY HZ HC
        generalize statusV m now = sv at *
        have HOS : Hid (w2.ownsRow w.heap.size 3 1 u5 (symN now ms (j + 1)).length (In.flat (symN now ms (j + 1)))) := hide (by rw [unhide HTF]; exact unhide HOW)
        go_wp2_with fail
        go_roundw
        case rel => exact ⟨j + 1, by omega, by go_num, HOS, HBL⟩
        case measure => simp [intOf]; omega
      · have HTF := hide (unhide HY hs)
        have hne : (statusV m now == 2) = true := hs
        clear hs
        clear HY HZ HC
        generalize statusV m now = sv at *
        go_wp2_with (at_builtin; refine In.wpList_apS ((unhide HOW).alloc _) w2.heap.size 0 1 1 [m.ad] rfl (In.rm_new w2 m.ad) (by simp only [List.length_cons, List.length_nil]; omega) (by simp; omega) rfl _ _ rfl rfl rfl ?_; intro v' w' ho hg; have HO : Hid (w'.ownsRow w.heap.size 3 1 v' (symN now ms (j + 1)).length (In.flat (symN now ms (j + 1)))) := hide (by rw [unhide HTF]; exact ho); have HB := hide (In.below_own ((unhide HBL).alloc hsw _) ((unhide HOW).alloc _) hg (Nat.le_refl _) (by simp; omega)); clear ho hg)
        go_roundw
        case rel => exact ⟨j + 1, by omega, by go_num, HO, HB⟩
        case measure => simp [intOf]; omega
    · obtain rfl : j = n := by omega
      have hl := In.lst_own rfl (unhide how)
      have ej : symN now ms j = symN now ms ms.length := by rw [unhide HN]
      rw [ej, unhide HN] at hl
      have HL := hide hl
      clear hl ej
      go_wp2_with fail
      go_ret
      exact ⟨_, rfl, unhide hbl, unhide HL⟩
end Ln
end Go.Proofs.YtffclijcfngeeaaGreat
namespace Go.Proofs.YtffclijcfngeeaaGreat
set_option linter.unusedVariables false
namespace Tw
open W1 Tu St
def keptB (o : Option R) (now : Int) : Bool := match o with | some t => decide (now < t.til) | none => false
def viaOk (f : Int → Int → Option R) (addr now : Int) (m : Lk.R) : Bool := (Ln.statusV m now == 2) && (decide (0 < m.wl) && keptB (f m.ad addr) now)
def viaL (f : Int → Int → Option R) (ls : List Lk.R) (addr now : Int) (j : Nat) : List Int := ((ls.take j).filter (viaOk f addr now)).map (·.ad)
theorem ls_take {ls : List Lk.R} {j : Nat} (h : j < ls.length) : ls.take (j + 1) = ls.take j ++ [ls.getD j Lk.R.zero] := by
  rw [List.take_add_one, List.getElem?_eq_getElem h, List.getD_eq_getElem?_getD, List.getElem?_eq_getElem h]; rfl
theorem viaL_yes {f : Int → Int → Option R} {ls : List Lk.R} {addr now : Int} {j : Nat} (h : j < ls.length) (hs : viaOk f addr now (ls.getD j Lk.R.zero) = true) : viaL f ls addr now (j + 1) = viaL f ls addr now j ++ [(ls.getD j Lk.R.zero).ad] := by
  unfold viaL; rw [ls_take h, List.filter_append, List.filter_cons_of_pos hs, List.map_append]; rfl
theorem viaL_no {f : Int → Int → Option R} {ls : List Lk.R} {addr now : Int} {j : Nat} (h : j < ls.length) (hs : viaOk f addr now (ls.getD j Lk.R.zero) = false) : viaL f ls addr now (j + 1) = viaL f ls addr now j := by
  unfold viaL; rw [ls_take h, List.filter_append, List.filter_cons_of_neg (by rw [hs]; simp), List.filter_nil, List.append_nil]
theorem viaL_len (f : Int → Int → Option R) (ls : List Lk.R) (addr now : Int) (j : Nat) : (viaL f ls addr now j).length ≤ j := by
  unfold viaL; rw [List.length_map]
  have := List.length_filter_le (viaOk f addr now) (ls.take j)
  have := List.length_take_le j ls
  omega
/-- What a key finds in a right set. -/
theorem find_there {ms : List R} (h : setB ms = true) {v a : Int} (h1 : 0 ≤ v) (h2 : 0 ≤ a) (h3 : a < 100) : findT ms v a = if thereB ms (100 * v + a) = true then some (ms.getD (place ms (100 * v + a)) R.zero) else none := by
  cases ht : thereB ms (100 * v + a)
  · rw [if_neg (by simp)]
    exact find_no (fun m hm hh => by
      have hk : m.key = 100 * v + a := by rw [key_eq m, hh.1, hh.2]
      have := (mem_find h hm).2.2
      rw [hk, ht] at this; cases this)
  · rw [if_pos rfl]
    unfold thereB at ht
    rw [Bool.and_eq_true] at ht
    have hp := of_decide_eq_true ht.1
    have hk := of_decide_eq_true ht.2
    have hop : hv (ms.getD (place ms (100 * v + a)) R.zero) = v ∧ ha (ms.getD (place ms (100 * v + a)) R.zero) = a := by
      unfold hv ha; rw [hk]; exact hop_mk (t := 0) (u := 0) h1 h2 h3
    generalize place ms (100 * v + a) = p at *
    have e : ms = ms.take p ++ ms.getD p R.zero :: ms.drop (p + 1) := by
      rw [getD_get hp, ← List.drop_eq_getElem_cons hp]; exact (List.take_append_drop _ _).symm
    have hn : (ms.take p).find? (isHp v a) = none := find_no (fun m hm hh => by
      obtain ⟨i, hi, rfl⟩ := List.getElem_of_mem hm
      have hij : i < p ∧ i < ms.length := by simp at hi; omega
      have hr := rises h p i hij.1 hp
      rw [List.getElem_take] at hh
      have hk2 : (ms[i]'hij.2).key = 100 * v + a := by rw [key_eq, hh.1, hh.2]
      rw [getD_get hij.2, hk2, hk] at hr
      omega)
    unfold findT
    conv => lhs; rw [e]
    rw [List.find?_append, hn, List.find?_cons_of_pos (by rw [isHp_iff]; exact hop)]
    rfl
def keptM (ms : List R) (k now : Int) : Bool := thereB ms k && decide (now < (ms.getD (place ms k) R.zero).til)
theorem kept_eq {ms : List R} (h : setB ms = true) {v a : Int} (now : Int) (h1 : 0 ≤ v) (h2 : 0 ≤ a) (h3 : a < 100) : keptM ms (100 * v + a) now = keptB (findT ms v a) now := by
  rw [find_there h h1 h2 h3]
  unfold keptM
  cases thereB ms (100 * v + a) <;> rfl
/-- Those of the first n addresses of which a condition holds. -/
def strN (c : Int → Bool) (n : Nat) : List Int := ((List.range n).filter (fun t : Nat => c ((t : Int) + 1))).map (fun t : Nat => (t : Int) + 1)
theorem strN_yes {c : Int → Bool} {n : Nat} (h : c ((n : Int) + 1) = true) : strN c (n + 1) = strN c n ++ [(n : Int) + 1] := by
  have e : (List.filter (fun t : Nat => c ((t : Int) + 1)) [n]) = [n] := by simp [h]
  unfold strN; rw [List.range_succ, List.filter_append, e, List.map_append]; rfl
theorem strN_no {c : Int → Bool} {n : Nat} (h : c ((n : Int) + 1) = false) : strN c (n + 1) = strN c n := by
  have e : (List.filter (fun t : Nat => c ((t : Int) + 1)) [n]) = [] := by simp [h]
  unfold strN; rw [List.range_succ, List.filter_append, e, List.append_nil]
theorem strN_len (c : Int → Bool) (n : Nat) : (strN c n).length ≤ n := by
  unfold strN; rw [List.length_map]
  have := List.length_filter_le (fun t : Nat => c ((t : Int) + 1)) (List.range n)
  rw [List.length_range] at this; exact this
def condS (ms : List R) (ls : List Lk.R) (me now a : Int) : Bool := (a != me) && (!(Ln.symN now ls ls.length).contains a && decide (0 < (viaL (findT ms) ls a now ls.length).length))
/-- The code of a set and of links; what StrictTwo, ViaOf answer. -/
def codeTL (ms : List R) (ls : List Lk.R) : Int := if 4096 < ms.length ∨ 4096 < ls.length then 2 else if (twoB ms && Ln.linksB ls) = true then 0 else 1
theorem codeTL_ok {ms : List R} {ls : List Lk.R} (h : codeTL ms ls = 0) : twoB ms = true ∧ Ln.linksB ls = true := by
  unfold codeTL at h
  split at h
  · omega
  · split at h
    · rename_i h2; rw [Bool.and_eq_true] at h2; exact h2
    · omega
theorem has_succ {zs : List Int} {z : Int} {j : Nat} (hj : j < zs.length) (h : (zs.take j).contains z = false) (hk : (z == zs.getD j 0) = false) : (zs.take (j + 1)).contains z = false := by
  have e : zs.take (j + 1) = zs.take j ++ [zs.getD j 0] := by rw [List.take_add_one, List.getElem?_eq_getElem hj, List.getD_eq_getElem?_getD, List.getElem?_eq_getElem hj]; rfl
  rw [e]
  generalize zs.take j = A at *
  generalize zs.getD j 0 = y at *
  simp at h hk ⊢
  exact ⟨h, hk⟩
theorem has_yes {zs : List Int} {z : Int} {j : Nat} (hj : j < zs.length) (hk : (z == zs.getD j 0) = true) : zs.contains z = true := by
  rw [List.getD_eq_getElem?_getD, List.getElem?_eq_getElem hj] at hk
  simp at hk
  rw [hk]; simp
end Tw
end Go.Proofs.YtffclijcfngeeaaGreat
namespace Go.Proofs.YtffclijcfngeeaaGreat
open Go.ChangeShapes Go.WideShapes Go.ChangeAt Go.RowKit
set_option linter.unusedVariables false
set_option linter.unusedSimpArgs false
attribute [local go_sem ↓] Go.wp_at_zero Go.wp_at_succ
namespace Ln
open W1 Lk
/-- A link in a variable's block. -/
def Bx (w : World) (b : Nat) (m : R) : Prop := w.cell? ⟨b, 0, none⟩ = some (.int .i64 m.ad) ∧ w.cell? ⟨b, 1, none⟩ = some (.int .i64 m.hd) ∧ w.cell? ⟨b, 2, none⟩ = some (.int .i64 m.sy) ∧ w.cell? ⟨b, 3, none⟩ = some (.int .i64 m.ci) ∧ w.cell? ⟨b, 4, none⟩ = some (.int .i64 m.co) ∧ w.cell? ⟨b, 5, none⟩ = some (.int .i64 m.wl)
theorem Bx.below {w w' : World} {b : Nat} {m : R} (h : Bx w b m) (hb : Below w.heap.size w w') : Bx w' b m := by
  have hg : b < w.heap.size := World.block_lt_of_cell? _ _ h.1
  obtain ⟨h0, h1, h2, h3, h4, h5⟩ := h
  refine ⟨?_, ?_, ?_, ?_, ?_, ?_⟩ <;> (rw [hb.cell hg]; assumption)
theorem Bx.lt {w : World} {b : Nat} {m : R} (h : Bx w b m) : b < w.heap.size := World.block_lt_of_cell? _ _ h.1
theorem Bx.drew {w : World} {b : Nat} {m : R} (h : Bx w b m) : Bx w.drew b m := h
theorem bx_new (w : World) (m : R) (t : Nat) : Bx (w.alloc (.cells #[.int .i64 m.ad, .int .i64 m.hd, .int .i64 m.sy, .int .i64 m.ci, .int .i64 m.co, .int .i64 m.wl] t)) w.heap.size m := by
  refine ⟨?_, ?_, ?_, ?_, ?_, ?_⟩ <;> simp [World.cell?_alloc_new]
theorem sBox {w : World} {b : Nat} {ad hd sy ci co wl : Int} (h : Bx w b ⟨ad, hd, sy, ci, co, wl⟩) : Bx w b ⟨ad, hd, sy, ci, co, wl⟩ ∧ w.cell? ⟨b, 0, none⟩ = some (.int .i64 ad) ∧ w.cell? ⟨b, 1, none⟩ = some (.int .i64 hd) ∧ w.cell? ⟨b, 2, none⟩ = some (.int .i64 sy) ∧ w.cell? ⟨b, 3, none⟩ = some (.int .i64 ci) ∧ w.cell? ⟨b, 4, none⟩ = some (.int .i64 co) ∧ w.cell? ⟨b, 5, none⟩ = some (.int .i64 wl) := ⟨h, h⟩
theorem sBox2 {w : World} {b g p : Nat} {m : R} {ad hd sy ci co wl : Int} (h : Bx w b ⟨ad, hd, sy, ci, co, wl⟩) (h' : At w g p m) :
    (Bx w b ⟨ad, hd, sy, ci, co, wl⟩ ∧ At w g p m) ∧ w.cell? ⟨b, 0, none⟩ = some (.int .i64 ad) ∧ w.cell? ⟨b, 1, none⟩ = some (.int .i64 hd) ∧ w.cell? ⟨b, 2, none⟩ = some (.int .i64 sy) ∧ w.cell? ⟨b, 3, none⟩ = some (.int .i64 ci) ∧ w.cell? ⟨b, 4, none⟩ = some (.int .i64 co) ∧ w.cell? ⟨b, 5, none⟩ = some (.int .i64 wl) ∧ w.cell? ⟨g, p, none⟩ = some (.int .i64 m.ad) := ⟨⟨h, h'⟩, h.1, h.2.1, h.2.2.1, h.2.2.2.1, h.2.2.2.2.1, h.2.2.2.2.2, h'.1⟩
set_option maxRecDepth 100000 in
set_option maxHeartbeats 4000000 in
theorem implOK (a : Option Addr) (ms : List R) (cap : Nat) (w : World) (hm : ms.length ≤ 1048576) (hr : RM w a ms) :
    Calls Tryz.prog 177 #[.slice a ms.length cap] w fun e w' => e = .returned (.bool (linksB ms)) ∧ Below w.heap.size w w' := by
  have HR := hide hr
  clear hr
  generalize hN : ms.length = n at *
  have HN := hide hN
  clear hN
  go_enter Tryz.func177, Tryz.ntmps177
  go_wp2
  go_loopw [7] (fun i wr => ∃ j : Nat, j ≤ n ∧ i = .int .i64 j ∧ Hid (allL ms j = true) ∧ Hid (Below w.heap.size w wr)) (fun i _ => n - (intOf i).toNat)
  case atStart => exact ⟨0, by omega, rfl, hide Ri.all_zero, hide (Below.refl _ _)⟩
  case round =>
    obtain ⟨j, hj, rfl, hrl, hbl⟩ := hrel
    by_cases hlt : (j : Int) < (n : Int)
    · have k0 : (0 : Int) ≤ (j : Int) := by omega
      have hlen : j < ms.length := by rw [unhide HN]; omega
      rcases (unhide HR).below (by exact (unhide hbl)) with e0 | ⟨g, off, rfl, hc⟩
      · exfalso; rw [e0] at hlen; simp at hlen
      have HL := hide hlen
      have hA := hc j hlen
      have hsz := (unhide hbl).size
      have HBX := hide (bx_new wr (ms.getD j R.zero) 140)
      have HBL := hide ((unhide hbl).alloc hsz (.cells #[.int .i64 (ms.getD j R.zero).ad, .int .i64 (ms.getD j R.zero).hd, .int .i64 (ms.getD j R.zero).sy, .int .i64 (ms.getD j R.zero).ci, .int .i64 (ms.getD j R.zero).co, .int .i64 (ms.getD j R.zero).wl] 140))
      cases hk : okL (ms.getD j R.zero)
      · clear hc
        have HST := hide (Ri.all_no hlen (Ri.step_bad (key := R.ad) hk))
        have HK := hide hk
        clear hk
        generalize ms.getD j R.zero = m at *
        obtain ⟨ad, hd, sy, ci, co, wl⟩ := m
        obtain ⟨c0, c1, c2, c3, c4, c5⟩ := hA
        dsimp only at c0 c1 c2 c3 c4 c5
        go_wp2_with fail
        generalize hW : wr.alloc (.cells #[.int .i64 ad, .int .i64 hd, .int .i64 sy, .int .i64 ci, .int .i64 co, .int .i64 wl] 140) = W0 at *
        clear hW
        refine wp_region_noPanic ?_
        refine wp_region_held_drew (S := fun w' => Bx w' wr.heap.size ⟨ad, hd, sy, ci, co, wl⟩ ∧ w'.cell? ⟨wr.heap.size, 0, none⟩ = some (.int .i64 ad) ∧ w'.cell? ⟨wr.heap.size, 1, none⟩ = some (.int .i64 hd) ∧ w'.cell? ⟨wr.heap.size, 2, none⟩ = some (.int .i64 sy) ∧ w'.cell? ⟨wr.heap.size, 3, none⟩ = some (.int .i64 ci) ∧ w'.cell? ⟨wr.heap.size, 4, none⟩ = some (.int .i64 co) ∧ w'.cell? ⟨wr.heap.size, 5, none⟩ = some (.int .i64 wl)) (by kernel_rfl) (sBox (unhide HBX).drew) (fun hHeld => ?_)
        refine Rg.t 0 12 ?_
        (refine Rg.o 1 (fun K hK => ?_); go_simp)
        refine (isLink ad hd sy ci co wl _).mono ?_
        rintro e w2 ⟨rfl, b2⟩
        rw [unhide HK]
        refine hK.out _ _ (sBox ((unhide HBX).drew.below b2)) (fun hHeld => ?_)
        clear hK K
        (try simp only [Act.put, List.setIfInBounds_toArray, List.set_cons_zero, List.set_cons_succ])
        refine Rg.t 2 14 ?_
        refine Rg.t 3 15 ?_
        refine Rg.s 4 16 ?_
        refine Rg.s 5 17 ?_
        refine Rg.s 6 18 ?_
        refine Rg.s 7 19 ?_
        refine Rg.s 8 20 ?_
        refine Rg.s 9 21 ?_
        refine Rg.s 10 22 ?_
        refine Rg.s 11 23 ?_
        refine Rg.s 12 24 ?_
        refine Rg.s 13 25 ?_
        refine Rg.s 14 26 ?_
        refine Rg.s 15 27 ?_
        refine Rg.s 16 28 ?_
        refine Rg.t 17 29 ?_
        refine wpAnyH_done (by kernel_rfl) (NoPanic.normal ?_) _
        have hb1 := hide ((unhide HBL).drew.trans (b2.mono (by show w.heap.size ≤ W0.heap.size; exact (unhide HBL).size)))
        go_wp2_with fail
        go_ret
        exact ⟨ret_bool (unhide HST).symm, unhide hb1⟩
      have HK := hide hk
      clear hk
      by_cases hj0 : j = 0
      · subst hj0
        clear hc
        rw [Nat.zero_mul, Nat.add_zero] at hA
        have HST := hide (Ri.all_succ (unhide hrl) (Ri.step_zero (key := R.ad) (unhide HK)))
        generalize ms.getD 0 R.zero = m at *
        obtain ⟨ad, hd, sy, ci, co, wl⟩ := m
        obtain ⟨c0, c1, c2, c3, c4, c5⟩ := hA
        dsimp only at c0 c1 c2 c3 c4 c5
        go_wp2_with fail
        generalize hW : wr.alloc (.cells #[.int .i64 ad, .int .i64 hd, .int .i64 sy, .int .i64 ci, .int .i64 co, .int .i64 wl] 140) = W0 at *
        clear hW
        refine wp_region_noPanic ?_
        refine wp_region_held_drew (S := fun w' => Bx w' wr.heap.size ⟨ad, hd, sy, ci, co, wl⟩ ∧ w'.cell? ⟨wr.heap.size, 0, none⟩ = some (.int .i64 ad) ∧ w'.cell? ⟨wr.heap.size, 1, none⟩ = some (.int .i64 hd) ∧ w'.cell? ⟨wr.heap.size, 2, none⟩ = some (.int .i64 sy) ∧ w'.cell? ⟨wr.heap.size, 3, none⟩ = some (.int .i64 ci) ∧ w'.cell? ⟨wr.heap.size, 4, none⟩ = some (.int .i64 co) ∧ w'.cell? ⟨wr.heap.size, 5, none⟩ = some (.int .i64 wl)) (by kernel_rfl) (sBox (unhide HBX).drew) (fun hHeld => ?_)
        refine Rg.t 0 12 ?_
        (refine Rg.o 1 (fun K hK => ?_); go_simp)
        refine (isLink ad hd sy ci co wl _).mono ?_
        rintro e w2 ⟨rfl, b2⟩
        rw [unhide HK]
        refine hK.out _ _ (sBox ((unhide HBX).drew.below b2)) (fun hHeld => ?_)
        clear hK K
        (try simp only [Act.put, List.setIfInBounds_toArray, List.set_cons_zero, List.set_cons_succ])
        refine Rg.t 2 14 ?_
        refine Rg.t 3 15 ?_
        refine Rg.t 4 16 ?_
        refine Rg.t 5 17 ?_
        refine Rg.t 6 18 ?_
        refine Rg.s 7 19 ?_
        refine Rg.s 8 20 ?_
        refine Rg.s 9 21 ?_
        refine Rg.s 10 22 ?_
        refine Rg.s 11 23 ?_
        refine Rg.s 12 24 ?_
        refine Rg.s 13 25 ?_
        refine Rg.s 14 26 ?_
        refine Rg.s 15 27 ?_
        refine Rg.t 16 28 ?_
        refine Rg.t 17 29 ?_
        refine wpAnyH_done (by kernel_rfl) (NoPanic.normal ?_) _
        have hb1 := hide ((unhide HBL).drew.trans (b2.mono (by show w.heap.size ≤ W0.heap.size; exact (unhide HBL).size)))
        go_wp2_with fail
        go_roundw
        case rel => exact ⟨0 + 1, by omega, by go_num, HST, hb1⟩
        case measure => simp [intOf]; omega
      · obtain ⟨i, hji⟩ : ∃ i, j = i + 1 := ⟨j - 1, by omega⟩
        have HJ := hide hji
        have e1 : (j : Int) - 1 = (i : Int) := by omega
        have i0 : (0 : Int) ≤ (i : Int) := by omega
        have wi : IntKind.i64.wrap (i : Int) = (i : Int) := by rw [IntKind.wrap_i64]; omega
        have i1 : (i : Int) < (n : Int) := by omega
        have j1 : (0 : Int) < (j : Int) := by omega
        have j2 : 0 < j := by omega
        have hP := hide ((hc i (by omega)).below ((Below.refl _ _).alloc (Nat.le_refl _) (.cells #[.int .i64 (ms.getD j R.zero).ad, .int .i64 (ms.getD j R.zero).hd, .int .i64 (ms.getD j R.zero).sy, .int .i64 (ms.getD j R.zero).ci, .int .i64 (ms.getD j R.zero).co, .int .i64 (ms.getD j R.zero).wl] 140)))
        have EJ : ms.getD j R.zero = ms.getD (i + 1) R.zero := by rw [hji]
        clear hc hji
        by_cases hk : (ms.getD i R.zero).ad < (ms.getD j R.zero).ad
        · have HST : Hid (allL ms (j + 1) = true) := hide (Ri.all_succ (unhide hrl) (by rw [unhide HJ]; exact Ri.step_lt (by rw [← EJ]; exact unhide HK) (by rw [← EJ]; exact hk)))
          clear EJ
          generalize ms.getD i R.zero = m0 at *
          obtain ⟨ad0, hd0, sy0, ci0, co0, wl0⟩ := m0
          dsimp only at hk
          generalize ms.getD j R.zero = m at *
          obtain ⟨ad, hd, sy, ci, co, wl⟩ := m
          obtain ⟨c0, c1, c2, c3, c4, c5⟩ := hA
          dsimp only at hk c0 c1 c2 c3 c4 c5
          go_wp2_with fail
          generalize hW : wr.alloc (.cells #[.int .i64 ad, .int .i64 hd, .int .i64 sy, .int .i64 ci, .int .i64 co, .int .i64 wl] 140) = W0 at *
          clear hW
          refine wp_region_noPanic ?_
          refine wp_region_held_drew (S := fun w' => (Bx w' wr.heap.size ⟨ad, hd, sy, ci, co, wl⟩ ∧ At w' g (off + i * 6) ⟨ad0, hd0, sy0, ci0, co0, wl0⟩) ∧ w'.cell? ⟨wr.heap.size, 0, none⟩ = some (.int .i64 ad) ∧ w'.cell? ⟨wr.heap.size, 1, none⟩ = some (.int .i64 hd) ∧ w'.cell? ⟨wr.heap.size, 2, none⟩ = some (.int .i64 sy) ∧ w'.cell? ⟨wr.heap.size, 3, none⟩ = some (.int .i64 ci) ∧ w'.cell? ⟨wr.heap.size, 4, none⟩ = some (.int .i64 co) ∧ w'.cell? ⟨wr.heap.size, 5, none⟩ = some (.int .i64 wl) ∧ w'.cell? ⟨g, off + i * 6, none⟩ = some (.int .i64 ad0)) (by kernel_rfl) (sBox2 (unhide HBX).drew (unhide hP).drew) (fun hHeld => ?_)
          refine Rg.t 0 12 ?_
          (refine Rg.o 1 (fun K hK => ?_); go_simp)
          refine (isLink ad hd sy ci co wl _).mono ?_
          rintro e w2 ⟨rfl, b2⟩
          rw [unhide HK]
          refine hK.out _ _ (sBox2 ((unhide HBX).drew.below b2) ((unhide hP).drew.below b2)) (fun hHeld => ?_)
          clear hK K
          (try simp only [Act.put, List.setIfInBounds_toArray, List.set_cons_zero, List.set_cons_succ])
          refine Rg.t 2 14 ?_
          refine Rg.t 3 15 ?_
          refine Rg.t 4 16 ?_
          refine Rg.t 5 17 ?_
          refine Rg.t 6 18 ?_
          refine Rg.t 7 19 ?_
          refine Rg.t 8 20 ?_
          refine Rg.t 9 21 ?_
          refine Rg.t 10 22 ?_
          refine Rg.t 11 23 ?_
          refine Rg.t 12 24 ?_
          refine Rg.t 13 25 ?_
          refine Rg.t 14 26 ?_
          refine Rg.t 15 27 ?_
          refine Rg.t 16 28 ?_
          refine Rg.t 17 29 ?_
          refine wpAnyH_done (by kernel_rfl) (NoPanic.normal ?_) _
          have hb1 := hide ((unhide HBL).drew.trans (b2.mono (by show w.heap.size ≤ W0.heap.size; exact (unhide HBL).size)))
          go_wp2_with fail
          go_roundw
          case rel => exact ⟨j + 1, by omega, by go_num, HST, hb1⟩
          case measure => simp [intOf]; omega
        · have HST : Hid (linksB ms = false) := hide (Ri.all_no (unhide HL) (show Ri.step R.zero okL R.ad ms j = false by rw [unhide HJ]; exact Ri.step_ge (by rw [← EJ]; omega)))
          clear EJ
          generalize ms.getD i R.zero = m0 at *
          obtain ⟨ad0, hd0, sy0, ci0, co0, wl0⟩ := m0
          dsimp only at hk
          generalize ms.getD j R.zero = m at *
          obtain ⟨ad, hd, sy, ci, co, wl⟩ := m
          obtain ⟨c0, c1, c2, c3, c4, c5⟩ := hA
          dsimp only at hk c0 c1 c2 c3 c4 c5
          go_wp2_with fail
          generalize hW : wr.alloc (.cells #[.int .i64 ad, .int .i64 hd, .int .i64 sy, .int .i64 ci, .int .i64 co, .int .i64 wl] 140) = W0 at *
          clear hW
          refine wp_region_noPanic ?_
          refine wp_region_held_drew (S := fun w' => (Bx w' wr.heap.size ⟨ad, hd, sy, ci, co, wl⟩ ∧ At w' g (off + i * 6) ⟨ad0, hd0, sy0, ci0, co0, wl0⟩) ∧ w'.cell? ⟨wr.heap.size, 0, none⟩ = some (.int .i64 ad) ∧ w'.cell? ⟨wr.heap.size, 1, none⟩ = some (.int .i64 hd) ∧ w'.cell? ⟨wr.heap.size, 2, none⟩ = some (.int .i64 sy) ∧ w'.cell? ⟨wr.heap.size, 3, none⟩ = some (.int .i64 ci) ∧ w'.cell? ⟨wr.heap.size, 4, none⟩ = some (.int .i64 co) ∧ w'.cell? ⟨wr.heap.size, 5, none⟩ = some (.int .i64 wl) ∧ w'.cell? ⟨g, off + i * 6, none⟩ = some (.int .i64 ad0)) (by kernel_rfl) (sBox2 (unhide HBX).drew (unhide hP).drew) (fun hHeld => ?_)
          refine Rg.t 0 12 ?_
          (refine Rg.o 1 (fun K hK => ?_); go_simp)
          refine (isLink ad hd sy ci co wl _).mono ?_
          rintro e w2 ⟨rfl, b2⟩
          rw [unhide HK]
          refine hK.out _ _ (sBox2 ((unhide HBX).drew.below b2) ((unhide hP).drew.below b2)) (fun hHeld => ?_)
          clear hK K
          (try simp only [Act.put, List.setIfInBounds_toArray, List.set_cons_zero, List.set_cons_succ])
          refine Rg.t 2 14 ?_
          refine Rg.t 3 15 ?_
          refine Rg.t 4 16 ?_
          refine Rg.t 5 17 ?_
          refine Rg.t 6 18 ?_
          refine Rg.t 7 19 ?_
          refine Rg.t 8 20 ?_
          refine Rg.t 9 21 ?_
          refine Rg.t 10 22 ?_
          refine Rg.t 11 23 ?_
          refine Rg.t 12 24 ?_
          refine Rg.t 13 25 ?_
          refine Rg.t 14 26 ?_
          refine Rg.t 15 27 ?_
          refine Rg.t 16 28 ?_
          refine Rg.t 17 29 ?_
          refine wpAnyH_done (by kernel_rfl) (NoPanic.normal ?_) _
          have hb1 := hide ((unhide HBL).drew.trans (b2.mono (by show w.heap.size ≤ W0.heap.size; exact (unhide HBL).size)))
          go_wp2_with fail
          go_ret
          exact ⟨ret_bool (unhide HST).symm, unhide hb1⟩
    · obtain rfl : j = n := by omega
      have HO : Hid (linksB ms = true) := hide (by unfold linksB; rw [unhide HN]; exact unhide hrl)
      go_wp2
      go_ret
      exact ⟨ret_bool (unhide HO).symm, unhide hbl⟩
set_option maxHeartbeats 1000000 in
theorem linksCode (a : Option Addr) (ms : List R) (cap : Nat) (w : World) (hm : ms.length ≤ 1048576) (hr : RM w a ms) :
    Calls Tryz.prog 187 #[.slice a ms.length cap] w fun e w' => e = .returned (.int .i64 (codeL ms)) ∧ Below w.heap.size w w' := by
  have HR := hide hr
  clear hr
  by_cases hbig : (4096 : Int) < ms.length
  · rw [code_long (ms := ms) (by omega)]
    go_enter Tryz.func187, Tryz.ntmps187
    go_wp2
    go_ret
    exact ⟨rfl, Below.refl _ _⟩
  cases hs : linksB ms
  · rw [code_bad (by omega) hs]
    have HS := hide hs
    clear hs
    go_enter Tryz.func187, Tryz.ntmps187
    go_wp2_with fail
    refine (implOK _ ms cap _ hm (unhide HR)).mono ?_
    rintro e w1 ⟨rfl, b1⟩
    rw [unhide HS]
    have HB := hide b1
    clear b1
    go_wp2_with fail
    go_ret
    exact ⟨rfl, unhide HB⟩
  rw [code_zero hs]
  have HS := hide hs
  clear hs
  go_enter Tryz.func187, Tryz.ntmps187
  go_wp2_with fail
  refine (implOK _ ms cap _ hm (unhide HR)).mono ?_
  rintro e w1 ⟨rfl, b1⟩
  rw [unhide HS]
  have HB := hide b1
  clear b1
  go_wp2_with fail
  go_ret
  exact ⟨rfl, unhide HB⟩
end Ln
end Go.Proofs.YtffclijcfngeeaaGreat
namespace Go.Proofs.YtffclijcfngeeaaGreat
open Go.ChangeShapes Go.WideShapes Go.ChangeAt Go.RowKit
set_option linter.unusedVariables false
set_option linter.unusedSimpArgs false
attribute [local go_sem ↓] Go.wp_at_zero Go.wp_at_succ
namespace Ln
open W1 Lk
end Ln
end Go.Proofs.YtffclijcfngeeaaGreat
namespace Go.Proofs.YtffclijcfngeeaaGreat
open Go.ChangeShapes Go.WideShapes Go.ChangeAt Go.RowKit
set_option linter.unusedVariables false
set_option linter.unusedSimpArgs false
attribute [local go_sem ↓] Go.wp_at_zero Go.wp_at_succ
namespace Ln
open W1 Lk
theorem code_nine (ms : List R) (h : codeL ms = 0) : linksB ms = true := by
  cases hh : linksB ms
  · unfold codeL at h; rw [hh] at h; split at h <;> simp at h
  · rfl
set_option maxRecDepth 100000 in
set_option maxHeartbeats 4000000 in
theorem implSym (a : Option Addr) (ms : List R) (cap : Nat) (now : Int) (w : World) (hm : ms.length ≤ 1048576) (hr : RM w a ms) :
    Calls Tryz.prog 304 #[.slice a ms.length cap, .int .i64 now] w fun e w' => ∃ v, e = .returned (.tuple #[v, .int .i64 (codeL ms)]) ∧ Below w.heap.size w w' ∧ In.LstV w' v (symA ms now) w.heap.size w'.heap.size := by
  have HR := hide hr
  clear hr
  by_cases hc : codeL ms = 0
  rotate_left
  · have h1 : symA ms now = [] := by unfold symA; rw [if_neg hc]
    rw [h1]
    clear h1
    generalize hcd : codeL ms = cd at *
    have HC := hide hcd
    clear hcd
    have q1 : (cd != 0) = true := by simpa using hc
    go_enter Tryz.func304, Tryz.ntmps304
    go_wp2_with fail
    refine (linksCode _ ms cap _ hm (unhide HR)).mono ?_
    rintro e w1 ⟨rfl, b1⟩
    rw [unhide HC]
    have HB1 := hide b1
    clear b1
    go_wp2_with fail
    go_ret2
    exact ⟨_, rfl, unhide HB1, In.lstV_nil _ _ _ _ _⟩
  have hok := code_nine ms hc
  have h8 := links_len hok
  have h1 : symA ms now = symN now ms ms.length := by unfold symA; rw [if_pos hc]
  rw [h1, hc]
  have HC := hide hc
  have HOK := hide hok
  clear h1 hc hok
  generalize hN : ms.length = n at *
  have HN := hide hN
  clear hN
  go_enter Tryz.func304, Tryz.ntmps304
  go_wp2_with fail
  rw [← unhide HN]
  refine (linksCode _ ms cap _ (by have := unhide HN; omega) (unhide HR)).mono ?_
  rintro e w1 ⟨rfl, b1⟩
  rw [unhide HC]
  have HB1 := hide b1
  have HR1 := hide ((unhide HR).below b1)
  have O0 := hide (In.own_nil w1 w.heap.size)
  clear b1
  go_wp2_with fail
  rw [unhide HN]
  go_loopw [7, 17] (fun v i wr => ∃ j : Nat, j ≤ n ∧ i = .int .i64 j ∧ Hid (wr.ownsRow w.heap.size 3 1 v (symN now ms j).length (In.flat (symN now ms j))) ∧ Hid (Below w.heap.size w wr)) (fun _ i _ => n - (intOf i).toNat)
  case atStart => exact ⟨0, by omega, rfl, O0, HB1⟩
  case round =>
    obtain ⟨j, hj, rfl, how, hbl⟩ := hrel
    by_cases hlt : (j : Int) < (n : Int)
    · have k0 : (0 : Int) ≤ (j : Int) := by omega
      have hlen : j < ms.length := by rw [unhide HN]; omega
      obtain ⟨g, off, rfl⟩ := (unhide HR).form (by omega)
      obtain ⟨c0, c1, c2, c3, c4, c5⟩ := ((unhide HR).below (unhide hbl)).at hlen
      have hbs := (unhide hbl).size
      have HY := hide (fun (h : isSym now (ms.getD j R.zero) = true) => symN_yes hlen h)
      have HZ := hide (fun (h : isSym now (ms.getD j R.zero) = false) => symN_no hlen h)
      generalize ms.getD j R.zero = m at *
      have hfl := symN_len now ms j
      have HBA := hide ((unhide hbl).alloc hbs (.cells #[.int .i64 m.ad, .int .i64 m.hd, .int .i64 m.sy, .int .i64 m.ci, .int .i64 m.co, .int .i64 m.wl] 140))
      have HOA := hide ((unhide how).alloc (.cells #[.int .i64 m.ad, .int .i64 m.hd, .int .i64 m.sy, .int .i64 m.ci, .int .i64 m.co, .int .i64 m.wl] 140))
      have HX := hide (bx_new wr m 140)
      go_wp2_with fail
      generalize hW : wr.alloc (.cells #[.int .i64 m.ad, .int .i64 m.hd, .int .i64 m.sy, .int .i64 m.ci, .int .i64 m.co, .int .i64 m.wl] 140) = W0 at *
      clear hW
      refine (implStatus _ _ _ _ _ _ now _).mono ?_
      rintro e w2 ⟨rfl, b2⟩
      have HBL := hide ((unhide HBA).trans (b2.mono (unhide HBA).size))
      have HOW := hide (own_belowI (unhide HOA) b2)
      have hsz := b2.size
      obtain ⟨d0, d1, d2, d3, d4, d5⟩ := (unhide HX).below b2
      clear b2 c0 c1 c2 c3 c4 c5
      have e2 : statusV ⟨m.ad, m.hd, m.sy, m.ci, m.co, m.wl⟩ now = statusV m now := rfl
      rw [e2]
      clear e2
      have hsw := (unhide HBL).size
      cases hs : isSym now m
      · have HTF := hide (unhide HZ hs)
        have hne : (statusV m now == 2) = false := hs
        clear hs
        clear HY HZ
        generalize statusV m now = sv at *
        have HOS : Hid (w2.ownsRow w.heap.size 3 1 u7 (symN now ms (j + 1)).length (In.flat (symN now ms (j + 1)))) := hide (by rw [unhide HTF]; exact unhide HOW)
        go_wp2_with fail
        go_roundw
        case rel => exact ⟨j + 1, by omega, by go_num, HOS, HBL⟩
        case measure => simp [intOf]; omega
      · have HTF := hide (unhide HY hs)
        have hne : (statusV m now == 2) = true := hs
        clear hs
        clear HY HZ
        generalize statusV m now = sv at *
        go_wp2_with (at_builtin; refine In.wpList_apS ((unhide HOW).alloc _) w2.heap.size 0 1 1 [m.ad] rfl (In.rm_new w2 m.ad) (by simp only [List.length_cons, List.length_nil]; omega) (by simp; omega) rfl _ _ rfl rfl rfl ?_; intro v' w' ho hg; have HO : Hid (w'.ownsRow w.heap.size 3 1 v' (symN now ms (j + 1)).length (In.flat (symN now ms (j + 1)))) := hide (by rw [unhide HTF]; exact ho); have HB := hide (In.below_own ((unhide HBL).alloc hsw _) ((unhide HOW).alloc _) hg (Nat.le_refl _) (by simp; omega)); clear ho hg)
        go_roundw
        case rel => exact ⟨j + 1, by omega, by go_num, HO, HB⟩
        case measure => simp [intOf]; omega
    · obtain rfl : j = n := by omega
      have hl := In.lst_own rfl (unhide how)
      have HL := hide hl
      clear hl
      go_wp2_with fail
      go_ret2
      exact ⟨_, rfl, unhide hbl, unhide HL⟩
end Ln
end Go.Proofs.YtffclijcfngeeaaGreat
namespace Go.Proofs.YtffclijcfngeeaaGreat
open Go.ChangeShapes Go.WideShapes Go.ChangeAt Go.RowKit
set_option linter.unusedVariables false
set_option linter.unusedSimpArgs false
attribute [local go_sem ↓] Go.wp_at_zero Go.wp_at_succ
namespace Tw
open W1 Tu St Mt
def IxOk (k : Int) (zs : List Int) (z : Int) : Prop := decide (0 ≤ k) = zs.contains z
set_option maxHeartbeats 2000000 in
theorem index (a : Option Addr) (zs : List Int) (cap : Nat) (z : Int) (w : World) (hm : zs.length ≤ 1048576) (hr : In.RM w a zs) :
    Calls Tryz.prog 323 #[.slice a zs.length cap, .int .i64 z] w fun e w' => ∃ k : Int, e = .returned (.int .i64 k) ∧ w' = w ∧ IxOk k zs z := by
  have HR := hide hr
  clear hr
  generalize hN : zs.length = n at *
  have HN := hide hN
  clear hN
  go_enter Tryz.func323, Tryz.ntmps323
  go_wp2_with fail
  go_loopw [8] (fun i wr => ∃ j : Nat, j ≤ n ∧ i = .int .i64 j ∧ Hid ((zs.take j).contains z = false) ∧ Hid (wr = w)) (fun i _ => n - (intOf i).toNat)
  case atStart => exact ⟨0, by omega, rfl, hide rfl, hide rfl⟩
  case round =>
    obtain ⟨j, hj, rfl, hno, hwr⟩ := hrel
    have HRr : Hid (In.RM wr a zs) := hide (by rw [unhide hwr]; exact unhide HR)
    by_cases hlt : (j : Int) < (n : Int)
    · have k0 : (0 : Int) ≤ (j : Int) := by omega
      have hlen : j < zs.length := by rw [unhide HN]; omega
      rcases unhide HRr with e0 | ⟨g, off, rfl, hc⟩
      · exfalso; rw [e0] at hlen; simp at hlen
      have c0 := hc j hlen
      clear hc
      have HY : Hid ((z == zs.getD j 0) = true → zs.contains z = true) := hide (fun h => has_yes hlen h)
      have HZ : Hid ((z == zs.getD j 0) = false → (zs.take (j + 1)).contains z = false) := hide (fun h => has_succ hlen (unhide hno) h)
      generalize zs.getD j 0 = y at *
      cases hk : (z == y)
      · have HT := hide (unhide HZ hk)
        go_wp2_with fail
        go_roundw
        case rel => exact ⟨j + 1, by omega, by go_num, HT, hwr⟩
        case measure => simp [intOf]; omega
      · have HT := hide (unhide HY hk)
        go_wp2_with fail
        go_ret
        exact ⟨_, rfl, unhide hwr, by unfold IxOk; rw [unhide HT]; simp⟩
    · obtain rfl : j = n := by omega
      have HT : Hid (zs.contains z = false) := hide (by have := unhide hno; rw [← unhide HN, List.take_length] at this; exact this)
      go_wp2_with fail
      go_ret
      exact ⟨_, rfl, unhide hwr, by unfold IxOk; rw [unhide HT]; rfl⟩
set_option maxHeartbeats 1000000 in
theorem contains (a : Option Addr) (zs : List Int) (cap : Nat) (z : Int) (w : World) (hm : zs.length ≤ 1048576) (hr : In.RM w a zs) :
    Calls Tryz.prog 305 #[.slice a zs.length cap, .int .i64 z] w fun e w' => e = .returned (.bool (zs.contains z)) ∧ w' = w := by
  go_enter Tryz.func305, Tryz.ntmps305
  go_wp2_with fail
  refine (index a zs cap z _ hm hr).mono ?_
  rintro e w1 ⟨k, rfl, rfl, hk⟩
  have HK : Hid (decide (0 ≤ k) = zs.contains z) := hide hk
  clear hk
  by_cases h0 : 0 ≤ k
  · have HT : Hid (zs.contains z = true) := hide (by rw [← unhide HK]; exact decide_eq_true h0)
    go_wp2_with fail
    go_ret
    exact ⟨ret_bool (by rw [unhide HT]), rfl⟩
  · have HT : Hid (zs.contains z = false) := hide (by rw [← unhide HK]; exact decide_eq_false h0)
    go_wp2_with fail
    go_ret
    exact ⟨ret_bool (by rw [unhide HT]; exact decide_eq_false (by omega)), rfl⟩
set_option maxRecDepth 100000 in
set_option maxHeartbeats 2000000 in
theorem isKept (b n : Nat) (f : Int → Int → Option R) (v u now : Int) (w : World) (hw1 : (Lit.int .i64 v).wf = true) (hw2 : (Lit.int .i64 u).wf = true) (hom : OM w b n f) :
    Calls Tryz.prog 306 #[.map (some b), .agg #[.int .i64 v, .int .i64 u], .int .i64 now] w fun e w' => e = .returned (.bool (keptB (f v u) now)) ∧ Below w.heap.size w w' := by
  have H1 := hide hw1
  have H2 := hide hw2
  have P0 : Hid (Below w.heap.size w (w.alloc (.cells #[.int .i64 v, .int .i64 u] 227))) := hide ((Below.refl _ _).alloc (Nat.le_refl _) _)
  have HM : Hid (OM (w.alloc (.cells #[.int .i64 v, .int .i64 u] 227)) b n f) := hide (hom.below (unhide P0))
  clear hw1 hw2 hom
  cases hf : f v u with
  | none =>
    have HA : Hid ((f v u).getD R.zero = ⟨0, 0, 0⟩) := hide (by rw [hf]; rfl)
    have HE : Hid ((f v u).isSome = false) := hide (by rw [hf]; rfl)
    clear hf
    have P1 := hide ((unhide P0).alloc (unhide P0).size (.cells #[.int .i64 0, .int .i64 0, .int .i64 0] 148))
    go_enter Tryz.func306, Tryz.ntmps306
    go_wp2_with (at_lookup; refine wpList_lookA _ rfl _ _ rfl b _ _ rfl (unhide HM) v u (unhide H1) (unhide H2) rfl 0 0 0 false (unhide HA) (unhide HE) ?_)
    go_ret
    exact ⟨rfl, unhide P1⟩
  | some m =>
    obtain ⟨ke, ti, va⟩ := m
    have HA : Hid ((f v u).getD R.zero = ⟨ke, ti, va⟩) := hide (by rw [hf]; rfl)
    have HE : Hid ((f v u).isSome = true) := hide (by rw [hf]; rfl)
    clear hf
    have P1 := hide ((unhide P0).alloc (unhide P0).size (.cells #[.int .i64 ke, .int .i64 ti, .int .i64 va] 148))
    by_cases hk : now < ti
    · have HT : Hid (keptB (some ⟨ke, ti, va⟩) now = true) := hide (decide_eq_true hk)
      go_enter Tryz.func306, Tryz.ntmps306
      go_wp2_with (at_lookup; refine wpList_lookA _ rfl _ _ rfl b _ _ rfl (unhide HM) v u (unhide H1) (unhide H2) rfl ke ti va true (unhide HA) (unhide HE) ?_)
      go_ret
      exact ⟨ret_bool (unhide HT).symm, unhide P1⟩
    · have HT : Hid (keptB (some ⟨ke, ti, va⟩) now = false) := hide (decide_eq_false hk)
      go_enter Tryz.func306, Tryz.ntmps306
      go_wp2_with (at_lookup; refine wpList_lookA _ rfl _ _ rfl b _ _ rfl (unhide HM) v u (unhide H1) (unhide H2) rfl ke ti va true (unhide HA) (unhide HE) ?_)
      go_ret
      exact ⟨ret_bool (unhide HT).symm, unhide P1⟩
set_option maxRecDepth 100000 in
set_option maxHeartbeats 4000000 in
theorem viasOf (bm q : Nat) (f : Int → Int → Option R) (a : Option Addr) (ls : List Lk.R) (cap : Nat) (addr now : Int) (w : World) (hwa : (Lit.int .i64 addr).wf = true) (hok : Ln.linksB ls = true) (hom : OM w bm q f) (hr : Lk.RM w a ls) :
    Calls Tryz.prog 253 #[.map (some bm), .slice a ls.length cap, .int .i64 addr, .int .i64 now] w fun e w' => ∃ v, e = .returned v ∧ Below w.heap.size w w' ∧ In.LstV w' v (viaL f ls addr now ls.length) w.heap.size w'.heap.size := by
  have HR := hide hr
  have HOM := hide hom
  have HWA := hide hwa
  have HOK := hide hok
  have h8 := Ln.links_len hok
  clear hr hom hwa hok
  have O0 : Hid (w.ownsRow w.heap.size 3 1 (.slice none 0 0) (viaL f ls addr now 0).length (In.flat (viaL f ls addr now 0))) := hide (In.own_nil w w.heap.size)
  generalize hN : ls.length = n at *
  have HN := hide hN
  clear hN
  go_enter Tryz.func253, Tryz.ntmps253
  go_wp2_with fail
  go_loopw [9, 14] (fun v i wr => ∃ j : Nat, j ≤ n ∧ i = .int .i64 j ∧ Hid (wr.ownsRow w.heap.size 3 1 v (viaL f ls addr now j).length (In.flat (viaL f ls addr now j))) ∧ Hid (Below w.heap.size w wr)) (fun _ i _ => n - (intOf i).toNat)
  case atStart => exact ⟨0, by omega, rfl, O0, hide (Below.refl _ _)⟩
  case round =>
    obtain ⟨j, hj, rfl, how, hbl⟩ := hrel
    by_cases hlt : (j : Int) < (n : Int)
    · have k0 : (0 : Int) ≤ (j : Int) := by omega
      have hlen : j < ls.length := by rw [unhide HN]; omega
      obtain ⟨g, off, rfl⟩ := (unhide HR).form (by omega)
      obtain ⟨c0, c1, c2, c3, c4, c5⟩ := ((unhide HR).below (unhide hbl)).at hlen
      have hbs := (unhide hbl).size
      have had := Ln.ok_ad (Ri.all_ok (unhide HOK) hlen)
      have HY := hide (fun (h : viaOk f addr now (ls.getD j Lk.R.zero) = true) => viaL_yes hlen h)
      have HZ := hide (fun (h : viaOk f addr now (ls.getD j Lk.R.zero) = false) => viaL_no hlen h)
      generalize ls.getD j Lk.R.zero = m at *
      have hfl := viaL_len f ls addr now j
      have HBA := hide ((unhide hbl).alloc hbs (.cells #[.int .i64 m.ad, .int .i64 m.hd, .int .i64 m.sy, .int .i64 m.ci, .int .i64 m.co, .int .i64 m.wl] 140))
      have HOA := hide ((unhide how).alloc (.cells #[.int .i64 m.ad, .int .i64 m.hd, .int .i64 m.sy, .int .i64 m.ci, .int .i64 m.co, .int .i64 m.wl] 140))
      have HMA := hide ((unhide HOM).below ((unhide hbl).alloc hbs (.cells #[.int .i64 m.ad, .int .i64 m.hd, .int .i64 m.sy, .int .i64 m.ci, .int .i64 m.co, .int .i64 m.wl] 140)))
      have HX := hide (Ln.bx_new wr m 140)
      have HWD : Hid ((Lit.int .i64 m.ad).wf = true) := hide (WalkArith.wf_i64 ⟨by omega, by omega⟩)
      have hvo : viaOk f addr now m = ((Ln.statusV m now == 2) && (decide (0 < m.wl) && keptB (f m.ad addr) now)) := rfl
      have HVO := hide hvo
      clear hvo
      go_wp2_with fail
      generalize hW : wr.alloc (.cells #[.int .i64 m.ad, .int .i64 m.hd, .int .i64 m.sy, .int .i64 m.ci, .int .i64 m.co, .int .i64 m.wl] 140) = W0 at *
      clear hW
      refine (Ln.implStatus _ _ _ _ _ _ now _).mono ?_
      rintro e w2 ⟨rfl, b2⟩
      have HBL := hide ((unhide HBA).trans (b2.mono (unhide HBA).size))
      have HOW := hide (Ln.own_belowI (unhide HOA) b2)
      have HM2 := hide ((unhide HMA).below b2)
      have HX2 := hide ((unhide HX).below b2)
      obtain ⟨d0, d1, d2, d3, d4, d5⟩ := unhide HX2
      clear b2 c0 c1 c2 c3 c4 c5
      have e2 : Ln.statusV ⟨m.ad, m.hd, m.sy, m.ci, m.co, m.wl⟩ now = Ln.statusV m now := rfl
      rw [e2]
      clear e2
      have hsw := (unhide HBL).size
      cases hs : (Ln.statusV m now == 2)
      · have HTF := hide (unhide HZ (by rw [unhide HVO, hs]; rfl))
        clear HY HZ HVO
        generalize Ln.statusV m now = sv at *
        have HOS : Hid (w2.ownsRow w.heap.size 3 1 u9 (viaL f ls addr now (j + 1)).length (In.flat (viaL f ls addr now (j + 1)))) := hide (by rw [unhide HTF]; exact unhide HOW)
        go_wp2_with fail
        go_roundw
        case rel => exact ⟨j + 1, by omega, by go_num, HOS, HBL⟩
        case measure => simp [intOf]; omega
      by_cases hwl : 0 < m.wl
      rotate_left
      · have HTF := hide (unhide HZ (by rw [unhide HVO, hs, decide_eq_false hwl]; rfl))
        clear HY HZ HVO
        generalize Ln.statusV m now = sv at *
        have HOS : Hid (w2.ownsRow w.heap.size 3 1 u9 (viaL f ls addr now (j + 1)).length (In.flat (viaL f ls addr now (j + 1)))) := hide (by rw [unhide HTF]; exact unhide HOW)
        go_wp2_with fail
        go_roundw
        case rel => exact ⟨j + 1, by omega, by go_num, HOS, HBL⟩
        case measure => simp [intOf]; omega
      obtain ⟨kb, hkb⟩ : ∃ kb, keptB (f m.ad addr) now = kb := ⟨_, rfl⟩
      have HKB := hide hkb
      have HTY : Hid (kb = true → viaL f ls addr now (j + 1) = viaL f ls addr now j ++ [m.ad]) := hide (fun h => unhide HY (by rw [unhide HVO, hs, decide_eq_true hwl, hkb, h]; rfl))
      have HTZ : Hid (kb = false → viaL f ls addr now (j + 1) = viaL f ls addr now j) := hide (fun h => unhide HZ (by rw [unhide HVO, hs, decide_eq_true hwl, hkb, h]; rfl))
      clear HY HZ HVO hkb
      generalize Ln.statusV m now = sv at *
      go_wp2_with fail
      refine (isKept bm q f m.ad addr now _ (unhide HWD) (unhide HWA) (unhide HM2)).mono ?_
      rintro e w3 ⟨rfl, b3⟩
      rw [unhide HKB]
      have HB3 := hide ((unhide HBL).trans (b3.mono (unhide HBL).size))
      have HO3 := hide (Ln.own_belowI (unhide HOW) b3)
      clear d0 d1 d2 d3 d4 d5
      obtain ⟨d0, d1, d2, d3, d4, d5⟩ := (unhide HX2).below b3
      have hs3 := (unhide HB3).size
      clear b3
      cases kb
      · have HTF := hide (unhide HTZ rfl)
        have HOS : Hid (w3.ownsRow w.heap.size 3 1 u9 (viaL f ls addr now (j + 1)).length (In.flat (viaL f ls addr now (j + 1)))) := hide (by rw [unhide HTF]; exact unhide HO3)
        go_wp2_with fail
        go_roundw
        case rel => exact ⟨j + 1, by omega, by go_num, HOS, HB3⟩
        case measure => simp [intOf]; omega
      · have HTF := hide (unhide HTY rfl)
        go_wp2_with (at_builtin; refine In.wpList_apS ((unhide HO3).alloc _) w3.heap.size 0 1 1 [m.ad] rfl (In.rm_new w3 m.ad) (by simp only [List.length_cons, List.length_nil]; omega) (by simp; omega) rfl _ _ rfl rfl rfl ?_; intro v' w' ho hg; have HO : Hid (w'.ownsRow w.heap.size 3 1 v' (viaL f ls addr now (j + 1)).length (In.flat (viaL f ls addr now (j + 1)))) := hide (by rw [unhide HTF]; exact ho); have HB := hide (In.below_own ((unhide HB3).alloc hs3 _) ((unhide HO3).alloc _) hg (Nat.le_refl _) (by simp; omega)); clear ho hg)
        go_roundw
        case rel => exact ⟨j + 1, by omega, by go_num, HO, HB⟩
        case measure => simp [intOf]; omega
    · obtain rfl : j = n := by omega
      have HL := hide (In.lst_own rfl (unhide how))
      go_wp2_with fail
      go_ret
      exact ⟨_, rfl, unhide hbl, unhide HL⟩
end Tw
end Go.Proofs.YtffclijcfngeeaaGreat
namespace Go.Proofs.YtffclijcfngeeaaGreat
open Go.ChangeShapes Go.WideShapes Go.ChangeAt Go.RowKit
set_option linter.unusedVariables false
set_option linter.unusedSimpArgs false
attribute [local go_sem ↓] Go.wp_at_zero Go.wp_at_succ
namespace Tw
open W1 Tu St Mt
theorem codeTL_long {ms : List R} {ls : List Lk.R} (h : 4096 < ms.length ∨ 4096 < ls.length) : codeTL ms ls = 2 := by unfold codeTL; rw [if_pos h]
theorem codeTL_bad {ms : List R} {ls : List Lk.R} (h : ¬ 4096 < ms.length) (h' : ¬ 4096 < ls.length) (hb : (twoB ms && Ln.linksB ls) = false) : codeTL ms ls = 1 := by unfold codeTL; rw [if_neg (by omega), if_neg (by rw [hb]; simp)]
theorem codeTL_zero {ms : List R} {ls : List Lk.R} (h : ¬ 4096 < ms.length) (h' : ¬ 4096 < ls.length) (hb : (twoB ms && Ln.linksB ls) = true) : codeTL ms ls = 0 := by unfold codeTL; rw [if_neg (by omega), if_pos hb]
set_option maxHeartbeats 2000000 in
theorem twoLinksCode (a : Option Addr) (ms : List R) (cap : Nat) (b : Option Addr) (ls : List Lk.R) (capl : Nat) (w : World) (hm : ms.length ≤ 1048576) (hl : ls.length ≤ 1048576) (hr : RM w a ms) (hr' : Lk.RM w b ls) :
    Calls Tryz.prog 250 #[.slice a ms.length cap, .slice b ls.length capl] w fun e w' => e = .returned (.int .i64 (codeTL ms ls)) ∧ Below w.heap.size w w' := by
  have HR := hide hr
  have HL := hide hr'
  clear hr hr'
  by_cases hb1 : (4096 : Int) < ms.length
  · rw [codeTL_long (.inl (by omega))]
    go_enter Tryz.func250, Tryz.ntmps250
    go_wp2
    go_ret
    exact ⟨rfl, Below.refl _ _⟩
  by_cases hb2 : (4096 : Int) < ls.length
  · rw [codeTL_long (.inr (by omega))]
    go_enter Tryz.func250, Tryz.ntmps250
    go_wp2
    go_ret
    exact ⟨rfl, Below.refl _ _⟩
  cases hs : twoB ms
  · rw [codeTL_bad (by omega) (by omega) (by rw [hs]; rfl)]
    have HS := hide hs
    clear hs
    go_enter Tryz.func250, Tryz.ntmps250
    go_wp2_with fail
    refine (areHops _ ms cap _ hm (unhide HR)).mono ?_
    rintro e w1 ⟨rfl, b1⟩
    rw [unhide HS]
    have HB := hide b1
    clear b1
    go_wp2_with fail
    go_ret
    exact ⟨rfl, unhide HB⟩
  cases hk : Ln.linksB ls
  · rw [codeTL_bad (by omega) (by omega) (by rw [hs, hk]; rfl)]
    have HS := hide hs
    have HK := hide hk
    clear hs hk
    go_enter Tryz.func250, Tryz.ntmps250
    go_wp2_with fail
    refine (areHops _ ms cap _ hm (unhide HR)).mono ?_
    rintro e w1 ⟨rfl, b1⟩
    rw [unhide HS]
    have HB := hide b1
    have HL1 := hide ((unhide HL).below b1)
    clear b1
    go_wp2_with fail
    refine (Ln.implOK _ ls capl _ hl (unhide HL1)).mono ?_
    rintro e w2 ⟨rfl, b2⟩
    rw [unhide HK]
    have HB2 := hide ((unhide HB).trans (b2.mono (unhide HB).size))
    clear b2
    go_wp2_with fail
    go_ret
    exact ⟨rfl, unhide HB2⟩
  rw [codeTL_zero (by omega) (by omega) (by rw [hs, hk]; rfl)]
  have HS := hide hs
  have HK := hide hk
  clear hs hk
  go_enter Tryz.func250, Tryz.ntmps250
  go_wp2_with fail
  refine (areHops _ ms cap _ hm (unhide HR)).mono ?_
  rintro e w1 ⟨rfl, b1⟩
  rw [unhide HS]
  have HB := hide b1
  have HL1 := hide ((unhide HL).below b1)
  clear b1
  go_wp2_with fail
  refine (Ln.implOK _ ls capl _ hl (unhide HL1)).mono ?_
  rintro e w2 ⟨rfl, b2⟩
  rw [unhide HK]
  have HB2 := hide ((unhide HB).trans (b2.mono (unhide HB).size))
  clear b2
  go_wp2_with fail
  go_ret
  exact ⟨rfl, unhide HB2⟩
set_option maxRecDepth 100000 in
set_option maxHeartbeats 4000000 in
theorem strictOf (bm q : Nat) (ms : List R) (b : Option Addr) (ls : List Lk.R) (capl : Nat) (me now : Int) (w : World) (hok : Ln.linksB ls = true) (hom : OM w bm q (findT ms)) (hr' : Lk.RM w b ls) :
    Calls Tryz.prog 252 #[.map (some bm), .slice b ls.length capl, .int .i64 me, .int .i64 now] w fun e w' => ∃ v, e = .returned v ∧ Below w.heap.size w w' ∧ In.LstV w' v (strN (condS ms ls me now) 8) w.heap.size w'.heap.size := by
  have HL := hide hr'
  have HM := hide hom
  have HOK := hide hok
  have h8 := Ln.links_len hok
  have HSC : Hid (Ln.codeL ls = 0) := hide (Ln.code_zero hok)
  have hsl := Ln.sym_len ls now
  obtain ⟨c, hcc⟩ : ∃ c, condS ms ls me now = c := ⟨_, rfl⟩
  have HCC : Hid (∀ x, c x = ((x != me) && (!(Ln.symA ls now).contains x && decide (0 < (viaL (findT ms) ls x now ls.length).length)))) := hide (fun x => by rw [← hcc]; unfold condS Ln.symA; rw [if_pos (unhide HSC)])
  rw [hcc]
  clear hr' hom hok hcc
  go_enter Tryz.func252, Tryz.ntmps252
  go_wp2_with fail
  refine (Ln.implSym _ ls capl now _ (by omega) (unhide HL)).mono ?_
  rintro e w2 ⟨v2, rfl, b2, hl2⟩
  rw [unhide HSC]
  obtain ⟨a2, c2, rfl, l2⟩ := hl2
  have HN2 := hide l2.rm
  have HB2 := hide b2
  have HL2 := hide ((unhide HL).below b2)
  have HM2 := hide ((unhide HM).below b2)
  clear b2 l2
  generalize Ln.symA ls now = zs at *
  have O0 : Hid (w2.ownsRow w2.heap.size 3 1 (.slice none 0 0) (strN c 0).length (In.flat (strN c 0))) := hide (In.own_nil w2 w2.heap.size)
  go_wp2_with fail
  go_loopw [11, 12] (fun v i wr => ∃ j : Nat, j ≤ 8 ∧ i = .int .i64 ((j : Int) + 1) ∧ Hid (wr.ownsRow w2.heap.size 3 1 v (strN c j).length (In.flat (strN c j))) ∧ Hid (Below w2.heap.size w2 wr)) (fun _ i _ => 9 - (intOf i).toNat)
  case atStart => exact ⟨0, by omega, rfl, O0, hide (Below.refl _ _)⟩
  case round =>
    obtain ⟨j, hj, rfl, how, hbl⟩ := hrel
    have hbs := (unhide hbl).size
    have hfl := strN_len c j
    by_cases hlt : (j : Int) + 1 ≤ 8
    · have HWK : Hid ((Lit.int .i64 ((j : Int) + 1)).wf = true) := hide (WalkArith.wf_i64 ⟨by omega, by omega⟩)
      have HCJ := hide (unhide HCC ((j : Int) + 1))
      have HY := hide (fun (h : c ((j : Int) + 1) = true) => strN_yes h)
      have HZ := hide (fun (h : c ((j : Int) + 1) = false) => strN_no h)
      cases hq : ((j : Int) + 1 != me)
      · have HTF := hide (unhide HZ (by rw [unhide HCJ, hq]; rfl))
        clear HY HZ HCJ
        have HO : Hid (wr.ownsRow w2.heap.size 3 1 u11 (strN c (j + 1)).length (In.flat (strN c (j + 1)))) := hide (by rw [unhide HTF]; exact unhide how)
        go_wp2_with fail
        go_roundw
        case rel => exact ⟨j + 1, by omega, by go_num, HO, hbl⟩
        case measure => simp [intOf]; omega
      obtain ⟨kc, hkc⟩ : ∃ kc, zs.contains ((j : Int) + 1) = kc := ⟨_, rfl⟩
      have HKC := hide hkc
      have HNr := hide ((unhide HN2).below (unhide hbl))
      rw [hkc, hq] at HCJ
      clear hkc
      go_wp2_with fail
      refine (contains a2 zs c2 ((j : Int) + 1) _ (by omega) (unhide HNr)).mono ?_
      rintro e w4 ⟨rfl, hw4⟩
      rw [unhide HKC, hw4]
      clear hw4
      cases kc
      rotate_left
      · have HTF := hide (unhide HZ (by rw [unhide HCJ]; rfl))
        clear HY HZ HCJ
        have HO : Hid (wr.ownsRow w2.heap.size 3 1 u11 (strN c (j + 1)).length (In.flat (strN c (j + 1)))) := hide (by rw [unhide HTF]; exact unhide how)
        go_wp2_with fail
        go_roundw
        case rel => exact ⟨j + 1, by omega, by go_num, HO, hbl⟩
        case measure => simp [intOf]; omega
      have HMr := hide ((unhide HM2).below (unhide hbl))
      have HLr := hide ((unhide HL2).below (unhide hbl))
      obtain ⟨nv, hnv⟩ : ∃ nv, (viaL (findT ms) ls ((j : Int) + 1) now ls.length).length = nv := ⟨_, rfl⟩
      rw [hnv] at HCJ
      have HNV := hide hnv
      clear hnv
      go_wp2_with fail
      refine (viasOf bm q _ _ ls capl ((j : Int) + 1) now _ (unhide HWK) (unhide HOK) (unhide HMr) (unhide HLr)).mono ?_
      rintro e w5 ⟨v5, rfl, b5, hl5⟩
      obtain ⟨a5, c5, rfl, l5⟩ := hl5
      rw [unhide HNV]
      have HB5 := hide ((unhide hbl).trans (b5.mono (unhide hbl).size))
      have HO5 := hide (Ln.own_belowI (unhide how) b5)
      have hs5 := (unhide HB5).size
      clear b5 l5
      rcases nv with _ | nv
      rotate_left
      · have HTF := hide (unhide HY (by rw [unhide HCJ, decide_eq_true (by omega)]; rfl))
        clear HY HZ HCJ
        go_wp2_with (at_builtin; refine In.wpList_apS ((unhide HO5).alloc _) w5.heap.size 0 1 1 [(j : Int) + 1] rfl (In.rm_new w5 ((j : Int) + 1)) (by simp only [List.length_cons, List.length_nil]; omega) (by simp; omega) rfl _ _ rfl rfl rfl ?_; intro v' w' ho hg; have HO : Hid (w'.ownsRow w2.heap.size 3 1 v' (strN c (j + 1)).length (In.flat (strN c (j + 1)))) := hide (by rw [unhide HTF]; exact ho); have HB := hide (In.below_own ((unhide HB5).alloc hs5 _) ((unhide HO5).alloc _) hg (Nat.le_refl _) (by simp; omega)); clear ho hg)
        go_roundw
        case rel => exact ⟨j + 1, by omega, by go_num, HO, HB⟩
        case measure => simp [intOf]; omega
      · have HTF := hide (unhide HZ (by rw [unhide HCJ, decide_eq_false (by omega)]; rfl))
        clear HY HZ HCJ
        have HO : Hid (w5.ownsRow w2.heap.size 3 1 u11 (strN c (j + 1)).length (In.flat (strN c (j + 1)))) := hide (by rw [unhide HTF]; exact unhide HO5)
        go_wp2_with fail
        go_roundw
        case rel => exact ⟨j + 1, by omega, by go_num, HO, HB5⟩
        case measure => simp [intOf]; omega
    · obtain rfl : j = 8 := by omega
      have HLs := hide ((In.lst_own rfl (unhide how)).mono (lo' := w.heap.size) (unhide HB2).size (Nat.le_refl _))
      have HBf := hide ((unhide HB2).trans ((unhide hbl).mono (unhide HB2).size))
      go_wp2_with fail
      go_ret
      exact ⟨_, rfl, unhide HBf, unhide HLs⟩
end Tw
end Go.Proofs.YtffclijcfngeeaaGreat
namespace Go.Proofs.YtffclijcfngeeaaGreat
open Go.ChangeShapes Go.WideShapes Go.ChangeAt Go.RowKit
set_option linter.unusedVariables false
set_option linter.unusedSimpArgs false
attribute [local go_sem ↓] Go.wp_at_zero Go.wp_at_succ
namespace St
open W1 Tu
theorem up_at {ms : List R} (h : setB ms = true) (k : Int) : ∀ i j, i < j → j < ms.length → atKey k (ms.getD i R.zero) = true → atKey k (ms.getD j R.zero) = true := by
  intro i j hij hj hi
  have := rises h j i hij hj
  unfold atKey at *
  exact decide_eq_true (by have := of_decide_eq_true hi; omega)
theorem cloAt (key til val k : Int) (b : Nat) (w : World) (hc : w.cell? ⟨b, 0, none⟩ = some (.int .i64 k)) :
    Calls Tryz.prog 318 #[.agg #[.int .i64 key, .int .i64 til, .int .i64 val], .pointer (some ⟨b, 0, none⟩)] w fun e w' => e = .returned (.bool (atKey k ⟨key, til, val⟩)) ∧ Below w.heap.size w w' := by
  have hlt : b < w.heap.size := World.block_lt_of_cell? _ _ hc
  have hne : ¬ b = w.heap.size := by omega
  by_cases h : k ≤ key
  all_goals
    go_enter Tryz.func318, Tryz.ntmps318
    go_wp2
    go_ret
    exact ⟨ret_bool (by unfold atKey; simp [h]), (Below.refl _ _).alloc (Nat.le_refl _) _⟩
set_option maxHeartbeats 2000000 in
theorem firstAt (b g off : Nat) (k : Int) (ms : List R) (cap : Nat) (w : World) (hr : RM w (some ⟨g, off, none⟩) ms) (hs : setB ms = true) (hb : w.cell? ⟨b, 0, none⟩ = some (.int .i64 k)) :
    Calls Tryz.prog 317 #[.slice (some ⟨g, off, none⟩) ms.length cap, .func (.func 318) #[] #[.pointer (some ⟨b, 0, none⟩)]] w fun e w' => e = .returned (.int .i64 (placeP (atKey k) ms)) ∧ Below w.heap.size w w' := by
  have HR := hide hr
  have HB := hide hb
  have HUP := hide (up_at hs k)
  have hblt := World.block_lt_of_cell? _ _ hb
  have hm := setB_len hs
  clear hr hs hb
  generalize hN : ms.length = n at *
  have HN := hide hN
  clear hN
  go_enter Tryz.func317, Tryz.ntmps317
  go_wp2
  go_loopw [5, 6] (fun lo hi wr => ∃ low high : Nat, low ≤ high ∧ high ≤ n ∧ lo = .int .i64 low ∧ hi = .int .i64 high ∧ Hid (∀ i, i < low → atKey k (ms.getD i R.zero) = false) ∧ Hid (∀ i, high ≤ i → i < n → atKey k (ms.getD i R.zero) = true) ∧ Hid (Below w.heap.size w wr)) (fun lo hi _ => (intOf hi - intOf lo).toNat)
  case atStart => exact ⟨0, n, by omega, by omega, rfl, rfl, hide (fun i hi => by omega), hide (fun i hi h2 => by omega), hide (Below.refl _ _)⟩
  case round =>
    obtain ⟨low, high, hlh, hhn, rfl, rfl, h1, h2, hbl⟩ := hrel
    by_cases hlt : (low : Int) < (high : Int)
    · obtain ⟨mid, hmid⟩ : ∃ mid : Nat, mid = low + (high - low) / 2 := ⟨_, rfl⟩
      have hm1 : low ≤ mid := by omega
      have hm2 : mid < high := by omega
      have em : (low : Int) + ((high : Int) - (low : Int)) / 2 = (mid : Int) := by omega
      have et : ((high : Int) - (low : Int)).tdiv 2 = ((high : Int) - (low : Int)) / 2 := Int.tdiv_eq_ediv_of_nonneg (by omega)
      have k0 : (0 : Int) ≤ (mid : Int) := by omega
      have k1 : (mid : Int) < (n : Int) := by omega
      have hA := ((unhide HR).below (unhide hbl)).at (i := mid) (by rw [unhide HN]; omega)
      have HC := hide ((unhide hbl).cell (p := ⟨b, 0, none⟩) hblt)
      have HP : Hid (atKey k (ms.getD mid R.zero) = true → ∀ i, mid ≤ i → i < n → atKey k (ms.getD i R.zero) = true) := hide (fun h i hi hn => by
        by_cases e : mid = i
        · subst e; exact h
        · exact unhide HUP mid i (by omega) hn h)
      have HQ : Hid (atKey k (ms.getD mid R.zero) = false → ∀ i, i < mid + 1 → atKey k (ms.getD i R.zero) = false) := hide (fun h i hi => by
        by_cases e : mid = i
        · subst e; exact h
        · cases hb : atKey k (ms.getD i R.zero)
          · rfl
          · rw [unhide HUP i mid (by omega) (by omega) hb] at h; cases h)
      clear hmid
      generalize ms.getD mid R.zero = m at *
      obtain ⟨key, til, val⟩ := m
      obtain ⟨c0, c1, c2⟩ := hA
      dsimp only at c0 c1 c2
      go_wp2_with fail
      refine (cloAt key til val k b _ ((unhide HC).trans (unhide HB))).mono ?_
      rintro e w1 ⟨rfl, b1⟩
      have hb1 := hide ((unhide hbl).trans (b1.mono (unhide hbl).size))
      clear c0 c1 c2 b1
      cases hp : atKey k ⟨key, til, val⟩
      · have HST := hide (unhide HQ hp)
        go_wp2_with fail
        exact ⟨⟨mid + 1, high, by omega, by omega, by go_num, rfl, HST, h2, hb1⟩, by simp [intOf]; omega⟩
      · have HST := hide (unhide HP hp)
        go_wp2_with fail
        exact ⟨⟨low, mid, by omega, by omega, rfl, rfl, h1, HST, hb1⟩, by simp [intOf]; omega⟩
    · obtain rfl : low = high := by omega
      have HST : Hid (placeP (atKey k) ms = low) := hide (placeP_of _ ms low (by rw [unhide HN]; omega) (unhide h1) (fun h => unhide h2 low (Nat.le_refl _) (by rw [unhide HN] at h; exact h)))
      go_wp2_with fail
      go_ret
      exact ⟨ret_int (by rw [unhide HST]), unhide hbl⟩
end St
end Go.Proofs.YtffclijcfngeeaaGreat
namespace Go.Proofs.YtffclijcfngeeaaGreat
open Go.ChangeShapes Go.WideShapes Go.ChangeAt Go.RowKit
set_option linter.unusedVariables false
set_option linter.unusedSimpArgs false
attribute [local go_sem ↓] Go.wp_at_zero Go.wp_at_succ
namespace St
open W1 Tu
theorem there_no {ms : List R} {k : Int} {p : Nat} (e : place ms k = p) (h : ms.length ≤ p) : thereB ms k = false := by unfold thereB; rw [e, decide_eq_false (by omega)]; rfl
theorem there_ne {ms : List R} {k : Int} {p : Nat} (e : place ms k = p) (h : ¬ (ms.getD p R.zero).key = k) : thereB ms k = false := by unfold thereB; rw [e, decide_eq_false h, Bool.and_false]
theorem there_yes {ms : List R} {k : Int} {p : Nat} (e : place ms k = p) (hl : p < ms.length) (h : (ms.getD p R.zero).key = k) : thereB ms k = true := by unfold thereB; rw [e, decide_eq_true hl, decide_eq_true h]; rfl
theorem sKey {w : World} {b g o : Nat} {k : Int} {m : R} (h : w.cell? ⟨b, 0, none⟩ = some (.int .i64 k)) (h' : At w g o m) : w.cell? ⟨b, 0, none⟩ = some (.int .i64 k) ∧ w.cell? ⟨g, o, none⟩ = some (.int .i64 m.key) := ⟨h, h'.1⟩
set_option maxRecDepth 100000 in
set_option maxHeartbeats 2000000 in
theorem l03Find (g off : Nat) (ms : List R) (cap : Nat) (k : Int) (w : World) (hm : ms.length ≤ 4096) (hr : RM w (some ⟨g, off, none⟩) ms) :
    Calls Tryz.prog 264 #[.slice (some ⟨g, off, none⟩) ms.length cap, .int .i64 k] w fun e w' => e = .returned (.tuple #[(if thereB ms k = true then ms.getD (place ms k) R.zero else R.zero).value, .bool (thereB ms k)]) ∧ Below w.heap.size w w' := by
  have HR := hide hr
  have hl := placeP_le (atKey k) ms
  clear hr
  have HBA : Hid (Below w.heap.size w (w.alloc (.cells #[.int .i64 0, .int .i64 0, .int .i64 0] 148))) := hide ((Below.refl _ _).alloc (Nat.le_refl _) _)
  have HRA := hide ((unhide HR).below (unhide HBA))
  obtain ⟨p, hp⟩ : ∃ p, place ms k = p := ⟨_, rfl⟩
  have HP := hide hp
  rw [show placeP (atKey k) ms = p from hp] at hl
  clear hp
  by_cases hlt : (p : Int) < (ms.length : Int)
  · have hA := (unhide HRA).at (i := p) (by omega)
    have k0 : (0 : Int) ≤ (p : Int) := by omega
    have hlen : p < ms.length := by omega
    have hne : ((p : Int) == (ms.length : Int)) = false := by simp; omega
    have hne' : ¬ p = ms.length := by omega
    by_cases hk : (ms.getD p R.zero).key = k
    · have HT := hide (there_yes (unhide HP) hlen hk)
      rw [unhide HT, unhide HP, if_pos rfl]
      generalize ms.getD p R.zero = m at *
      obtain ⟨key, til, val⟩ := m
      obtain ⟨c0, c1, c2⟩ := hA
      dsimp only at c0 c1 c2 hk
      subst hk
      go_enter Tryz.func264, Tryz.ntmps264
      go_wp2_with fail
      refine (l03Place _ ms cap _ _ hm (unhide HRA)).mono ?_
      rintro e w1 ⟨rfl, rfl⟩
      rw [unhide HP]
      go_wp2_with fail
      refine bodyPost_ret (v := .tuple #[.agg #[.int .i64 key, .int .i64 til, .int .i64 val], .bool true]) (by simp [results, Tryz.results264, go_sem]) rfl ⟨rfl, ?_⟩
      have hB := unhide HBA
      repeat (first | exact hB | exact Below.refl _ _ | refine Below.setCell ?_ (by simp) _ | refine Below.alloc ?_ (by simp) _)
    · have HT := hide (there_ne (unhide HP) hk)
      rw [unhide HT, if_neg (by simp)]
      generalize ms.getD p R.zero = m at *
      obtain ⟨key, til, val⟩ := m
      obtain ⟨c0, c1, c2⟩ := hA
      dsimp only at c0 c1 c2 hk
      have hkb : (key == k) = false := by simpa using hk
      go_enter Tryz.func264, Tryz.ntmps264
      go_wp2_with fail
      refine (l03Place _ ms cap _ _ hm (unhide HRA)).mono ?_
      rintro e w1 ⟨rfl, rfl⟩
      rw [unhide HP]
      go_wp2_with fail
      refine bodyPost_ret (v := .tuple #[.agg #[.int .i64 0, .int .i64 0, .int .i64 0], .bool false]) (by simp [results, Tryz.results264, go_sem]) rfl ⟨rfl, ?_⟩
      have hB := unhide HBA
      repeat (first | exact hB | exact Below.refl _ _ | refine Below.setCell ?_ (by simp) _ | refine Below.alloc ?_ (by simp) _)
  · obtain rfl : p = ms.length := by omega
    have HT := hide (there_no (unhide HP) (by omega))
    rw [unhide HT, if_neg (by simp)]
    go_enter Tryz.func264, Tryz.ntmps264
    go_wp2_with fail
    refine (l03Place _ ms cap _ _ hm (unhide HRA)).mono ?_
    rintro e w1 ⟨rfl, rfl⟩
    rw [unhide HP]
    go_wp2_with fail
    refine bodyPost_ret (v := .tuple #[.agg #[.int .i64 0, .int .i64 0, .int .i64 0], .bool false]) (by simp [results, Tryz.results264, go_sem]) rfl ⟨rfl, ?_⟩
    have hB := unhide HBA
    repeat (first | exact hB | exact Below.refl _ _ | refine Below.setCell ?_ (by simp) _ | refine Below.alloc ?_ (by simp) _)
end St
end Go.Proofs.YtffclijcfngeeaaGreat
namespace Go.Proofs.YtffclijcfngeeaaGreat
open Go.ChangeShapes Go.WideShapes Go.ChangeAt Go.RowKit
set_option linter.unusedVariables false
set_option linter.unusedSimpArgs false
attribute [local go_sem ↓] Go.wp_at_zero Go.wp_at_succ
namespace Tw
open W1 Tu St
set_option maxHeartbeats 400000 in
theorem l07KeyW (v a : Int) (w : World) (h0 : 0 ≤ v) (h1 : v ≤ 1000000) (h2 : 0 ≤ a) (h3 : a ≤ 1000000) : Calls Tryz.prog 261 #[.int .i64 v, .int .i64 a] w fun e w' => e = .returned (.int .i64 (100 * v + a)) ∧ w' = w := by
  go_enter Tryz.func261, Tryz.ntmps261
  go_wp2
  go_ret
  exact ⟨rfl, rfl⟩
theorem has_yes' {zs : List Int} {z : Int} {j : Nat} (hj : j < zs.length) (hk : (zs.getD j 0 == z) = true) : zs.contains z = true := has_yes hj (by simp at hk ⊢; exact hk.symm)
theorem has_succ' {zs : List Int} {z : Int} {j : Nat} (hj : j < zs.length) (h : (zs.take j).contains z = false) (hk : (zs.getD j 0 == z) = false) : (zs.take (j + 1)).contains z = false := has_succ hj h (by simp at hk ⊢; exact fun e => hk e.symm)
set_option maxHeartbeats 2000000 in
theorem l07Has (a : Option Addr) (zs : List Int) (cap : Nat) (z : Int) (w : World) (hm : zs.length ≤ 1048576) (hr : In.RM w a zs) :
    Calls Tryz.prog 156 #[.slice a zs.length cap, .int .i64 z] w fun e w' => e = .returned (.bool (zs.contains z)) ∧ w' = w := by
  have HR := hide hr
  clear hr
  obtain ⟨A, hA⟩ : ∃ A, zs.contains z = A := ⟨_, rfl⟩
  have HA := hide hA
  rw [hA]
  clear hA
  generalize hN : zs.length = n at *
  have HN := hide hN
  clear hN
  go_enter Tryz.func156, Tryz.ntmps156
  go_wp2_with fail
  go_loopw [5] (fun i wr => ∃ j : Nat, j ≤ n ∧ i = .int .i64 j ∧ Hid ((zs.take j).contains z = false) ∧ Hid (wr = w)) (fun i _ => n - (intOf i).toNat)
  case atStart => exact ⟨0, by omega, rfl, hide rfl, hide rfl⟩
  case round =>
    obtain ⟨j, hj, rfl, hno, hwr⟩ := hrel
    have HRr : Hid (In.RM wr a zs) := hide (by rw [unhide hwr]; exact unhide HR)
    by_cases hlt : (j : Int) < (n : Int)
    · have k0 : (0 : Int) ≤ (j : Int) := by omega
      have hlen : j < zs.length := by rw [unhide HN]; omega
      rcases unhide HRr with e0 | ⟨g, off, rfl, hc⟩
      · exfalso; rw [e0] at hlen; simp at hlen
      have c0 := hc j hlen
      clear hc
      have HY : Hid ((zs.getD j 0 == z) = true → A = true) := hide (fun h => by rw [← unhide HA]; exact has_yes' hlen h)
      have HZ : Hid ((zs.getD j 0 == z) = false → (zs.take (j + 1)).contains z = false) := hide (fun h => has_succ' hlen (unhide hno) h)
      generalize zs.getD j 0 = y at *
      cases hk : (y == z)
      · have HT := hide (unhide HZ hk)
        go_wp2_with fail
        go_roundw
        case rel => exact ⟨j + 1, by omega, by go_num, HT, hwr⟩
        case measure => simp [intOf]; omega
      · have HT := hide (unhide HY hk)
        go_wp2_with fail
        go_ret
        exact ⟨ret_bool (unhide HT).symm, unhide hwr⟩
    · obtain rfl : j = n := by omega
      have HT : Hid (A = false) := hide (by have := unhide hno; rw [← unhide HN, List.take_length, unhide HA] at this; exact this)
      go_wp2_with fail
      go_ret
      exact ⟨ret_bool (unhide HT).symm, unhide hwr⟩
/-- As the model asks: what is kept first. -/
theorem viaOk_m {ms : List R} (h : setB ms = true) {addr now : Int} {m : Lk.R} (ha1 : 0 ≤ addr) (ha2 : addr < 100) (hm : 1 ≤ m.ad) : viaOk (findT ms) addr now m = (keptM ms (100 * m.ad + addr) now && ((Ln.statusV m now == 2) && decide (0 < m.wl))) := by
  unfold viaOk
  rw [kept_eq h now (by omega) ha1 ha2]
  cases Ln.statusV m now == 2 <;> cases decide (0 < m.wl) <;> cases keptB (findT ms m.ad addr) now <;> rfl
set_option maxRecDepth 100000 in
set_option maxHeartbeats 4000000 in
theorem l07Via (g0 o0 : Nat) (ms : List R) (cap : Nat) (a : Option Addr) (ls : List Lk.R) (capl : Nat) (addr now : Int) (w : World) (ha1 : 1 ≤ addr) (ha2 : addr ≤ 8) (hs : setB ms = true) (hok : Ln.linksB ls = true) (hr0 : RM w (some ⟨g0, o0, none⟩) ms) (hr : Lk.RM w a ls) :
    Calls Tryz.prog 233 #[.slice (some ⟨g0, o0, none⟩) ms.length cap, .slice a ls.length capl, .int .i64 addr, .int .i64 now] w fun e w' => ∃ v, e = .returned v ∧ Below w.heap.size w w' ∧ In.LstV w' v (viaL (findT ms) ls addr now ls.length) w.heap.size w'.heap.size := by
  have HR := hide hr
  have HM := hide hr0
  have HS := hide hs
  have HOK := hide hok
  have h8 := Ln.links_len hok
  have hl64 := setB_len hs
  clear hr hr0 hs hok
  obtain ⟨f, hf⟩ : ∃ f, findT ms = f := ⟨_, rfl⟩
  have HF := hide hf
  rw [hf]
  clear hf
  have O0 := hide (In.own_empty w w.heap.size (Nat.le_refl _))
  have P0 := hide ((Below.refl w.heap.size w).alloc (Nat.le_refl _) (.cells #[] 3))
  have O1 : Hid ((w.alloc (.cells #[] 3)).ownsRow w.heap.size 3 1 (.slice (some ⟨w.heap.size, 0, none⟩) 0 0) (viaL f ls addr now 0).length (In.flat (viaL f ls addr now 0))) := O0
  clear O0
  generalize hN : ls.length = n at *
  have HN := hide hN
  clear hN
  go_enter Tryz.func233, Tryz.ntmps233
  go_wp2_with fail
  go_loopw [9, 10] (fun v i wr => ∃ j : Nat, j ≤ n ∧ i = .int .i64 j ∧ Hid (wr.ownsRow w.heap.size 3 1 v (viaL f ls addr now j).length (In.flat (viaL f ls addr now j))) ∧ Hid (Below w.heap.size w wr)) (fun _ i _ => n - (intOf i).toNat)
  case atStart => exact ⟨0, by omega, rfl, O1, P0⟩
  case round =>
    obtain ⟨j, hj, rfl, how, hbl⟩ := hrel
    by_cases hlt : (j : Int) < (n : Int)
    · have k0 : (0 : Int) ≤ (j : Int) := by omega
      have hlen : j < ls.length := by rw [unhide HN]; omega
      obtain ⟨g, off, rfl⟩ := (unhide HR).form (by omega)
      obtain ⟨c0, c1, c2, c3, c4, c5⟩ := ((unhide HR).below (unhide hbl)).at hlen
      have hbs := (unhide hbl).size
      have had := Ln.ok_ad (Ri.all_ok (unhide HOK) hlen)
      have HVO := hide (viaOk_m (now := now) (unhide HS) (addr := addr) (m := ls.getD j Lk.R.zero) (by omega) (by omega) had.1)
      rw [unhide HF] at HVO
      have HY := hide (fun (h : viaOk f addr now (ls.getD j Lk.R.zero) = true) => viaL_yes hlen h)
      have HZ := hide (fun (h : viaOk f addr now (ls.getD j Lk.R.zero) = false) => viaL_no hlen h)
      generalize ls.getD j Lk.R.zero = m at *
      have hfl := viaL_len f ls addr now j
      have HBA := hide ((unhide hbl).alloc hbs (.cells #[.int .i64 m.ad, .int .i64 m.hd, .int .i64 m.sy, .int .i64 m.ci, .int .i64 m.co, .int .i64 m.wl] 140))
      have HOA := hide ((unhide how).alloc (.cells #[.int .i64 m.ad, .int .i64 m.hd, .int .i64 m.sy, .int .i64 m.ci, .int .i64 m.co, .int .i64 m.wl] 140))
      have HMA := hide ((unhide HM).below ((unhide hbl).alloc hbs (.cells #[.int .i64 m.ad, .int .i64 m.hd, .int .i64 m.sy, .int .i64 m.ci, .int .i64 m.co, .int .i64 m.wl] 140)))
      have HX := hide (Ln.bx_new wr m 140)
      go_wp2_with fail
      generalize hW : wr.alloc (.cells #[.int .i64 m.ad, .int .i64 m.hd, .int .i64 m.sy, .int .i64 m.ci, .int .i64 m.co, .int .i64 m.wl] 140) = W0 at *
      clear hW
      refine (l07KeyW m.ad addr _ (by omega) (by omega) (by omega) (by omega)).mono ?_
      rintro e w1 ⟨rfl, hw1⟩
      rw [hw1]
      clear hw1 c0 c1 c2 c3 c4 c5
      go_wp2_with fail
      refine (l03Find g0 o0 ms cap (100 * m.ad + addr) _ (by omega) (unhide HMA)).mono ?_
      rintro e w2 ⟨rfl, b2⟩
      have HBL := hide ((unhide HBA).trans (b2.mono (unhide HBA).size))
      have HOW := hide (Ln.own_belowI (unhide HOA) b2)
      have HX2 := hide ((unhide HX).below b2)
      clear b2
      have hkm : keptM ms (100 * m.ad + addr) now = (thereB ms (100 * m.ad + addr) && decide (now < (if thereB ms (100 * m.ad + addr) = true then ms.getD (place ms (100 * m.ad + addr)) R.zero else R.zero).til)) := by
        unfold keptM
        cases thereB ms (100 * m.ad + addr) <;> rfl
      rw [hkm] at HVO
      clear hkm
      generalize thereB ms (100 * m.ad + addr) = tb at *
      generalize (if tb = true then ms.getD (place ms (100 * m.ad + addr)) R.zero else R.zero) = T at *
      obtain ⟨ke, ti, va⟩ := T
      unfold R.value
      dsimp only at HVO ⊢
      have hsw := (unhide HBL).size
      have HBT := hide ((unhide HBL).alloc hsw (.cells #[.int .i64 ke, .int .i64 ti, .int .i64 va] 148))
      have HOT := hide ((unhide HOW).alloc (.cells #[.int .i64 ke, .int .i64 ti, .int .i64 va] 148))
      have HXT := hide ((unhide HX2).below ((Below.refl _ _).alloc (Nat.le_refl _) (.cells #[.int .i64 ke, .int .i64 ti, .int .i64 va] 148)))
      have hst := (unhide HBT).size
      obtain ⟨d0, d1, d2, d3, d4, d5⟩ := unhide HXT
      have hno : viaOk f addr now m = false → Hid ((w2.alloc (.cells #[.int .i64 ke, .int .i64 ti, .int .i64 va] 148)).ownsRow w.heap.size 3 1 u9 (viaL f ls addr now (j + 1)).length (In.flat (viaL f ls addr now (j + 1)))) := fun h => hide (by rw [unhide HZ h]; exact unhide HOT)
      have HNO := hide hno
      clear hno
      cases tb
      · have HO := unhide HNO (by rw [unhide HVO]; rfl)
        go_wp2_with fail
        go_roundw
        case rel => exact ⟨j + 1, by omega, by go_num, HO, HBT⟩
        case measure => simp [intOf]; omega
      by_cases hti : now < ti
      rotate_left
      · have HO := unhide HNO (by rw [unhide HVO, decide_eq_false hti]; rfl)
        go_wp2_with fail
        go_roundw
        case rel => exact ⟨j + 1, by omega, by go_num, HO, HBT⟩
        case measure => simp [intOf]; omega
      go_wp2_with fail
      generalize hW : w2.alloc (.cells #[.int .i64 ke, .int .i64 ti, .int .i64 va] 148) = W2 at *
      clear hW
      refine (Ln.l06Status _ _ _ _ _ _ now _).mono ?_
      rintro e w3 ⟨rfl, b3⟩
      have HB3 := hide ((unhide HBT).trans (b3.mono (unhide HBT).size))
      have HO3 := hide (Ln.own_belowI (unhide HOT) b3)
      clear d0 d1 d2 d3 d4 d5
      obtain ⟨d0, d1, d2, d3, d4, d5⟩ := (unhide HXT).below b3
      have hs3 := (unhide HB3).size
      clear b3
      have e2 : Ln.statusV ⟨m.ad, m.hd, m.sy, m.ci, m.co, m.wl⟩ now = Ln.statusV m now := rfl
      rw [e2]
      clear e2
      have hno : viaOk f addr now m = false → Hid (w3.ownsRow w.heap.size 3 1 u9 (viaL f ls addr now (j + 1)).length (In.flat (viaL f ls addr now (j + 1)))) := fun h => hide (by rw [unhide HZ h]; exact unhide HO3)
      have HNO3 := hide hno
      clear hno HNO
      cases hsy : (Ln.statusV m now == 2)
      · have HO := unhide HNO3 (by rw [unhide HVO, hsy, decide_eq_true hti]; rfl)
        clear HVO HY HZ HNO3
        generalize Ln.statusV m now = sv at *
        go_wp2_with fail
        go_roundw
        case rel => exact ⟨j + 1, by omega, by go_num, HO, HB3⟩
        case measure => simp [intOf]; omega
      by_cases hwl : 0 < m.wl
      · have HTF := hide (unhide HY (by rw [unhide HVO, hsy, decide_eq_true hti, decide_eq_true hwl]; rfl))
        clear HVO HY HZ HNO3
        generalize Ln.statusV m now = sv at *
        go_wp2_with (at_builtin; refine In.wpList_apS ((unhide HO3).alloc _) w3.heap.size 0 1 1 [m.ad] rfl (In.rm_new w3 m.ad) (by simp only [List.length_cons, List.length_nil]; omega) (by simp; omega) rfl _ _ rfl rfl rfl ?_; intro v' w' ho hg; have HO : Hid (w'.ownsRow w.heap.size 3 1 v' (viaL f ls addr now (j + 1)).length (In.flat (viaL f ls addr now (j + 1)))) := hide (by rw [unhide HTF]; exact ho); have HB := hide (In.below_own ((unhide HB3).alloc hs3 _) ((unhide HO3).alloc _) hg (Nat.le_refl _) (by simp; omega)); clear ho hg)
        go_roundw
        case rel => exact ⟨j + 1, by omega, by go_num, HO, HB⟩
        case measure => simp [intOf]; omega
      · have HO := unhide HNO3 (by rw [unhide HVO, hsy, decide_eq_true hti, decide_eq_false hwl]; rfl)
        clear HVO HY HZ HNO3
        generalize Ln.statusV m now = sv at *
        go_wp2_with fail
        go_roundw
        case rel => exact ⟨j + 1, by omega, by go_num, HO, HB3⟩
        case measure => simp [intOf]; omega
    · obtain rfl : j = n := by omega
      have HL := hide (In.lst_own rfl (unhide how))
      go_wp2_with fail
      go_ret
      exact ⟨_, rfl, unhide hbl, unhide HL⟩
end Tw
end Go.Proofs.YtffclijcfngeeaaGreat
namespace Go.Proofs.YtffclijcfngeeaaGreat
open Go.ChangeShapes Go.WideShapes Go.ChangeAt Go.RowKit
set_option linter.unusedVariables false
set_option linter.unusedSimpArgs false
attribute [local go_sem ↓] Go.wp_at_zero Go.wp_at_succ
namespace Tw
open W1 Tu St
/-- append to a row of one's own: where it lies. -/
theorem wpList_apL {ops : Array Oper} {rest : List Oper} {o : Oper} {a : Act} {Q : Exit → Act → World → Prop} {w : World} {base : Nat} {v : Value} {xs : List Int} (hown : w.ownsRow base 3 1 v xs.length (In.flat xs)) (g off m c : Nat) (zs : List Int) (hm : zs.length = m) (hm0 : 0 < m) (hr : In.RM w (some ⟨g, off, none⟩) zs) (hlen : xs.length + zs.length ≤ 4194304) (hbase : base ≤ w.heap.size)
    (hgd : o.guard = none) (s x : Operand) (ho : o.op = .call { callee := .builtin .append, args := #[s, x], argTypes := #[59, 59] }) (hs : a.eval s = v) (hx : a.eval x = .slice (some ⟨g, off, none⟩) m c)
    (h : ∀ v' w', w'.ownsRow base 3 1 v' (xs ++ zs).length (In.flat (xs ++ zs)) → w.grownBy w' v.ownBlock → (v'.ownBlock = v.ownBlock ∨ v'.ownBlock = some w.heap.size) → wpList Tryz.prog ops Q rest (a.put o.dst v') w') : wpList Tryz.prog ops Q (o :: rest) a w := by
  subst hm
  obtain ⟨i0, hi, hz0, hz1, hz2⟩ := In.infoI
  refine wpList_append_lies w hgd s x _ ho base 3 i0 _ 1 8 Tryz.underlying59 hi hz0 hz1 hz2 rfl (by decide) v xs.length (In.flat xs) hs hown ⟨g, off, none⟩ zs.length c (In.flat zs) hx (In.flat_len zs) hr.cells (fun u hu => In.flat_one_cell hu) hm0 (by unfold maxLen; omega) (by omega) hbase _ rfl (fun g' cap w' h1 h2 h3 h4 => ?_)
  refine h _ w' ?_ h2 ?_
  · rw [List.length_append, In.flat_append]; exact h1
  · rcases h3 with h3 | h3
    · exact .inl h3.symm
    · exact .inr (by rw [h3]; rfl)
/-- A list beside a row of one's own. -/
def NearOk (w : World) (v : Value) (a : Option Addr) (zs : List Int) : Prop := zs = [] ∨ ∃ g off, a = some ⟨g, off, none⟩ ∧ v.ownBlock ≠ some g ∧ g < w.heap.size ∧ In.RM w a zs
theorem NearOk.rm {w : World} {v : Value} {a : Option Addr} {zs : List Int} (h : NearOk w v a zs) : In.RM w a zs := by
  rcases h with h | ⟨g, off, rfl, _, _, h⟩
  · exact .inl h
  · exact h
theorem NearOk.below {w w' : World} {v : Value} {a : Option Addr} {zs : List Int} (h : NearOk w v a zs) (hb : Below w.heap.size w w') : NearOk w' v a zs := by
  rcases h with h | ⟨g, off, rfl, h1, h2, h⟩
  · exact .inl h
  · exact .inr ⟨g, off, rfl, h1, Nat.lt_of_lt_of_le h2 hb.size, h.below hb⟩
theorem NearOk.grown {w w' : World} {v v' : Value} {a : Option Addr} {zs : List Int} (h : NearOk w v a zs) (hg : w.grownBy w' v.ownBlock) (hv : v'.ownBlock = v.ownBlock ∨ v'.ownBlock = some w.heap.size) : NearOk w' v' a zs := by
  rcases h with h | ⟨g, off, rfl, h1, h2, h⟩
  · exact .inl h
  · refine .inr ⟨g, off, rfl, ?_, Nat.lt_of_lt_of_le h2 hg.size, ?_⟩
    · rcases hv with e | e
      · rw [e]; exact h1
      · rw [e]; intro e2; cases e2; omega
    · rcases h with h | ⟨g', off', e, hc⟩
      · exact .inl h
      · cases e
        refine .inr ⟨g, off, rfl, fun i hi => ?_⟩
        exact (World.cell?_of_block (a := ⟨g, off + i, none⟩) (hg.block g h2 (fun e => h1 e.symm))).trans (hc i hi)
set_option maxRecDepth 100000 in
set_option maxHeartbeats 4000000 in
theorem l07Strict (g0 o0 : Nat) (ms : List R) (cap : Nat) (b : Option Addr) (ls : List Lk.R) (capl : Nat) (me now : Int) (w : World) (hok : twoB ms = true ∧ Ln.linksB ls = true) (hr : RM w (some ⟨g0, o0, none⟩) ms) (hr' : Lk.RM w b ls) :
    Calls Tryz.prog 232 #[.slice (some ⟨g0, o0, none⟩) ms.length cap, .slice b ls.length capl, .int .i64 me, .int .i64 now] w fun e w' => ∃ v, e = .returned v ∧ Below w.heap.size w w' ∧ In.LstV w' v (strN (condS ms ls me now) 8) w.heap.size w'.heap.size := by
  have HOK := hide hok
  obtain ⟨c, hcc⟩ : ∃ c, condS ms ls me now = c := ⟨_, rfl⟩
  have HCC : Hid (∀ x, c x = ((x != me) && (!(Ln.symN now ls ls.length).contains x && decide (0 < (viaL (findT ms) ls x now ls.length).length)))) := hide (fun x => by rw [← hcc]; rfl)
  rw [hcc]
  have h8 := Ln.links_len hok.2
  have hsl := Ln.symN_len now ls ls.length
  have HR0 := hide hr
  have HL0 := hide hr'
  clear hcc hok
  have P0 := hide ((Below.refl w.heap.size w).alloc (Nat.le_refl _) (.cells #[] 3))
  have HR := hide (hr.below (unhide P0))
  have HL := hide (hr'.below (unhide P0))
  have O1 : Hid ((w.alloc (.cells #[] 3)).ownsRow w.heap.size 3 1 (.slice (some ⟨w.heap.size, 0, none⟩) 0 0) (strN c 0).length (In.flat (strN c 0))) := hide (In.own_empty w w.heap.size (Nat.le_refl _))
  clear hr hr'
  go_enter Tryz.func232, Tryz.ntmps232
  go_wp2_with fail
  refine (Ln.l06Sym _ ls capl now _ (by omega) (unhide HL)).mono ?_
  rintro e w2 ⟨v2, rfl, b2, hl2⟩
  obtain ⟨a2, c2, rfl, l2⟩ := hl2
  have HN2 : Hid (NearOk w2 (.slice (some ⟨w.heap.size, 0, none⟩) 0 0) a2 (Ln.symN now ls ls.length)) := hide (by
    rcases l2 with e | ⟨g2, rfl, h1, h2, h3, h4⟩
    · exact .inl e
    · exact .inr ⟨g2, 0, rfl, by intro e; simp [Value.ownBlock] at e; simp at h1; omega, h3, In.rm_of h4⟩)
  have HB2 := hide ((unhide P0).trans (b2.mono (unhide P0).size))
  have O2 := hide (Ln.own_belowI (unhide O1) b2)
  clear b2 l2 P0 HR HL O1
  generalize Ln.symN now ls ls.length = zs at *
  go_wp2_with fail
  go_loopw [9, 11] (fun v i wr => ∃ j : Nat, j ≤ 8 ∧ i = .int .i64 ((j : Int) + 1) ∧ Hid (wr.ownsRow w.heap.size 3 1 v (strN c j).length (In.flat (strN c j))) ∧ Hid (Below w.heap.size w wr) ∧ Hid (NearOk wr v a2 zs)) (fun _ i _ => 9 - (intOf i).toNat)
  case atStart => exact ⟨0, by omega, rfl, O2, HB2, HN2⟩
  case round =>
    obtain ⟨j, hj, rfl, how, hbl, hnr⟩ := hrel
    have hbs := (unhide hbl).size
    have hfl := strN_len c j
    by_cases hlt : (j : Int) + 1 ≤ 8
    · have HCJ := hide (unhide HCC ((j : Int) + 1))
      have HY := hide (fun (h : c ((j : Int) + 1) = true) => strN_yes h)
      have HZ := hide (fun (h : c ((j : Int) + 1) = false) => strN_no h)
      cases hq : ((j : Int) + 1 != me)
      · have HTF := hide (unhide HZ (by rw [unhide HCJ, hq]; rfl))
        clear HY HZ HCJ
        have HO : Hid (wr.ownsRow w.heap.size 3 1 u9 (strN c (j + 1)).length (In.flat (strN c (j + 1)))) := hide (by rw [unhide HTF]; exact unhide how)
        go_wp2_with fail
        go_roundw
        case rel => exact ⟨j + 1, by omega, by go_num, HO, hbl, hnr⟩
        case measure => simp [intOf]; omega
      obtain ⟨kc, hkc⟩ : ∃ kc, zs.contains ((j : Int) + 1) = kc := ⟨_, rfl⟩
      have HKC := hide hkc
      rw [hkc, hq] at HCJ
      clear hkc
      go_wp2_with fail
      refine (l07Has a2 zs c2 ((j : Int) + 1) _ (by omega) (unhide hnr).rm).mono ?_
      rintro e w4 ⟨rfl, hw4⟩
      rw [unhide HKC, hw4]
      clear hw4
      cases kc
      rotate_left
      · have HTF := hide (unhide HZ (by rw [unhide HCJ]; rfl))
        clear HY HZ HCJ
        have HO : Hid (wr.ownsRow w.heap.size 3 1 u9 (strN c (j + 1)).length (In.flat (strN c (j + 1)))) := hide (by rw [unhide HTF]; exact unhide how)
        go_wp2_with fail
        go_roundw
        case rel => exact ⟨j + 1, by omega, by go_num, HO, hbl, hnr⟩
        case measure => simp [intOf]; omega
      have HMr := hide ((unhide HR0).below (unhide hbl))
      have HLr := hide ((unhide HL0).below (unhide hbl))
      obtain ⟨nv, hnv⟩ : ∃ nv, (viaL (findT ms) ls ((j : Int) + 1) now ls.length).length = nv := ⟨_, rfl⟩
      rw [hnv] at HCJ
      have HNV := hide hnv
      clear hnv
      go_wp2_with fail
      refine (l07Via g0 o0 ms cap _ ls capl ((j : Int) + 1) now _ (by omega) (by omega) (two_set (unhide HOK).1) (unhide HOK).2 (unhide HMr) (unhide HLr)).mono ?_
      rintro e w5 ⟨v5, rfl, b5, hl5⟩
      obtain ⟨a5, c5, rfl, l5⟩ := hl5
      rw [unhide HNV]
      have HB5 := hide ((unhide hbl).trans (b5.mono (unhide hbl).size))
      have HO5 := hide (Ln.own_belowI (unhide how) b5)
      have HN5 := hide ((unhide hnr).below b5)
      have hs5 := (unhide HB5).size
      clear b5 l5
      rcases nv with _ | nv
      rotate_left
      · have HTF := hide (unhide HY (by rw [unhide HCJ, decide_eq_true (by omega)]; rfl))
        clear HY HZ HCJ
        go_wp2_with (at_builtin; refine wpList_apL ((unhide HO5).alloc _) w5.heap.size 0 1 1 [(j : Int) + 1] rfl (by omega) (In.rm_new w5 ((j : Int) + 1)) (by simp only [List.length_cons, List.length_nil]; omega) (by simp; omega) rfl _ _ rfl rfl rfl ?_; intro v' w' ho hg hv; have HO : Hid (w'.ownsRow w.heap.size 3 1 v' (strN c (j + 1)).length (In.flat (strN c (j + 1)))) := hide (by rw [unhide HTF]; exact ho); have HB := hide (In.below_own ((unhide HB5).alloc hs5 _) ((unhide HO5).alloc _) hg (Nat.le_refl _) (by simp; omega)); have HN := hide (((unhide HN5).below ((Below.refl _ _).alloc (Nat.le_refl _) _)).grown hg hv); clear ho hg hv)
        go_roundw
        case rel => exact ⟨j + 1, by omega, by go_num, HO, HB, HN⟩
        case measure => simp [intOf]; omega
      · have HTF := hide (unhide HZ (by rw [unhide HCJ, decide_eq_false (by omega)]; rfl))
        clear HY HZ HCJ
        have HO : Hid (w5.ownsRow w.heap.size 3 1 u9 (strN c (j + 1)).length (In.flat (strN c (j + 1)))) := hide (by rw [unhide HTF]; exact unhide HO5)
        go_wp2_with fail
        go_roundw
        case rel => exact ⟨j + 1, by omega, by go_num, HO, HB5, HN5⟩
        case measure => simp [intOf]; omega
    · obtain rfl : j = 8 := by omega
      have HLs := hide (In.lst_own rfl (unhide how))
      go_wp2_with fail
      go_ret
      exact ⟨_, rfl, unhide hbl, unhide HLs⟩
end Tw
end Go.Proofs.YtffclijcfngeeaaGreat
