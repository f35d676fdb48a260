/-
  Of the texts RtrW, SetGc, TopG, Rl, RtrC, LnkC: what this claim needs of them. (put together by mkprune.py)
-/
import Derived.Test.YtiipppfkpgbpeaaGreatQc5
import Derived.Deep.AppendLies
import Derived.Lib.AppendZeros
import Derived.OrdersHeld
namespace Go.Proofs.YtiipppfkpgbpeaaGreat
open Go.ChangeShapes Go.WideShapes Go.ChangeAt Go.RowKit
set_option linter.unusedVariables false
set_option linter.unusedSimpArgs false
set_option maxRecDepth 100000
attribute [local go_sem ↓] Go.wp_at_zero Go.wp_at_succ
namespace Rt
open W1
theorem tv_other {w : World} {b : Nat} {x y : Int} {v : Value} {p : Addr} (h : Av.HV w b x y v) (hne : b ≠ p.block) (u : Value) : Av.HV (w.setCell p u) b x y v := (Below.heap_setCell _ _ _ _ hne).trans h
theorem infoT : Tryz.prog.underlying 59 = some (Tryz.prog.underlying 59).get! ∧ ((Tryz.prog.underlying 59).get!).isRow = true ∧ (Tryz.prog.info? 59).map (·.size) = some 3 := ⟨by kernel_rfl, by kernel_rfl, by kernel_rfl⟩
/-- A router is written whole, inside a region that draws its order. -/
theorem wp_storeR {op : Oper} {a : Act} {w : World} {K : Act → World → Prop} {Q : Exit → Act → World → Prop} (x y : Operand) (ho : op.op = .store 38 x y) {b : Nat} (cs : List Value) (h13 : ones cs) (hx : a.eval x = .pointer (some ⟨b, 0, none⟩)) (hy : a.eval y = .agg cs.toArray) (ht : w.there b 0 13)
    (hk : ∀ w', RA w' b cs → (∀ B w0, Below B w0 w → B ≤ b → Below B w0 w') → w'.heap.size = w.heap.size → (∀ k, k ≠ b → w'.heap[k]? = w.heap[k]?) → K (a.put op.dst undef) w') : op.wp Tryz.prog a w K Q := by
  have ht' : w.there b 0 cs.length := h13.1.symm ▸ ht
  exact wp_store_mid 38 x y ho b 0 cs.toArray hx hy (by simpa using ht') (by simpa [h13.1] using infoR.2.2) (all_oneCell_toArray h13.2) (hk _ ⟨World.rangeAt_setCells_same w b 0 _ ht', there_cells _ _ _ ht, h13.1⟩ (fun B w0 h hb => below_cells hb _ _ _ h) (size_cells _ _ _) (fun k hk => heap_cells hk _ _ _))
/-- A router and an advertisement handed back. -/
theorem resultsRT {fn : Func} {p q : Tmp} (h : fn.results = #[.cell p 38, .cell q 59]) (tmps : Array Value) (w : World) {b c : Nat} {cs : List Value} {x y : Int} {v : Value} (hp : tmps.getD p undef = .pointer (some ⟨b, 0, none⟩)) (hq : tmps.getD q undef = .pointer (some ⟨c, 0, none⟩)) (hg : RA w b cs) (ht : Av.HV w c x y v) : (results fn tmps).run Tryz.prog w = .ok (.tuple #[.agg cs.toArray, .agg #[.int .i64 x, .int .i64 y, v]]) w := by
  have hp' : tmps[p]?.getD undef = .pointer (some ⟨b, 0, none⟩) := by simpa using hp
  have hq' : tmps[q]?.getD undef = .pointer (some ⟨c, 0, none⟩) := by simpa using hq
  have hr : w.rangeAt c 0 [.int .i64 x, .int .i64 y, v] := fun j u hu => by
    rw [Nat.zero_add]
    obtain ⟨h0, h1, h2⟩ := ht.bx
    match j, hu with
    | 0, hu => simpa [← Option.some.inj hu] using h0
    | 1, hu => simpa [← Option.some.inj hu] using h1
    | 2, hu => simpa [← Option.some.inj hu] using h2
  simp only [results, h]
  simp [Sem.run_bind, hp', hq', asAddr, run_loadVar_mid w b 0 38 cs _ hg.1 infoR.1 infoR.2.1 (hg.2.2 ▸ infoR.2.2), run_loadVar_mid w c 0 59 _ _ hr infoT.1 infoT.2.1 infoT.2.2, Result.andThen]
theorem resultsRTC {fn : Func} {p q r : Tmp} (h : fn.results = #[.cell p 38, .cell q 59, .tmp r]) (tmps : Array Value) (w : World) {b c : Nat} {cs : List Value} {x y : Int} {v u : Value} (hp : tmps.getD p undef = .pointer (some ⟨b, 0, none⟩)) (hq : tmps.getD q undef = .pointer (some ⟨c, 0, none⟩)) (hu : tmps.getD r undef = u) (hg : RA w b cs) (ht : Av.HV w c x y v) : (results fn tmps).run Tryz.prog w = .ok (.tuple #[.agg cs.toArray, .agg #[.int .i64 x, .int .i64 y, v], u]) w := by
  have hp' : tmps[p]?.getD undef = .pointer (some ⟨b, 0, none⟩) := by simpa using hp
  have hq' : tmps[q]?.getD undef = .pointer (some ⟨c, 0, none⟩) := by simpa using hq
  have hu' : tmps[r]?.getD undef = u := by simpa using hu
  have hr : w.rangeAt c 0 [.int .i64 x, .int .i64 y, v] := fun j u hu => by
    rw [Nat.zero_add]
    obtain ⟨h0, h1, h2⟩ := ht.bx
    match j, hu with
    | 0, hu => simpa [← Option.some.inj hu] using h0
    | 1, hu => simpa [← Option.some.inj hu] using h1
    | 2, hu => simpa [← Option.some.inj hu] using h2
  simp only [results, h]
  simp [Sem.run_bind, hp', hq', hu', asAddr, run_loadVar_mid w b 0 38 cs _ hg.1 infoR.1 infoR.2.1 (hg.2.2 ▸ infoR.2.2), run_loadVar_mid w c 0 59 _ _ hr infoT.1 infoT.2.1 infoT.2.2, Result.andThen]
theorem sTE {w : World} {g o g2 o2 b t : Nat} {x y x2 y2 u1 u2 : Int} {v : Value} {cs : List Value} {vl : Value} (h1 : RA w b cs) (hl : cs[11]? = some vl) (h2 : Av.HV w t u1 u2 v) (h3 : Ed.At w g o ⟨x, y⟩) (h4 : Ed.At w g2 o2 ⟨x2, y2⟩) :
    (RA w b cs ∧ Av.HV w t u1 u2 v ∧ Ed.At w g o ⟨x, y⟩ ∧ Ed.At w g2 o2 ⟨x2, y2⟩) ∧ (w.cell? ⟨b, 11, none⟩ = some vl ∧ w.cell? ⟨t, 2, none⟩ = some v) ∧ (w.cell? ⟨g, o, none⟩ = some (.int .i64 x) ∧ w.cell? ⟨g, o + 1, none⟩ = some (.int .i64 y)) ∧ w.cell? ⟨g2, o2, none⟩ = some (.int .i64 x2) ∧ w.cell? ⟨g2, o2 + 1, none⟩ = some (.int .i64 y2) := ⟨⟨h1, h2, h3, h4⟩, ⟨h1.at hl, h2.bx.2.2⟩, h3, h4⟩
theorem ed_other {w : World} {a : Option Addr} {ms : List Ed.R} {p : Addr} (h : Ed.RM w a ms ∧ True) (hne : ∀ g o, a = some ⟨g, o, none⟩ → ms ≠ [] → g ≠ p.block) (v : Value) : Ed.RM (w.setCell p v) a ms ∧ True := by
  refine ⟨?_, trivial⟩
  rcases h.1 with h | ⟨g, o, rfl, hc⟩
  · exact .inl h
  · by_cases h0 : ms = []
    · exact .inl h0
    · have hb : (w.setCell p v).heap[g]? = w.heap[g]? := Below.heap_setCell _ _ _ _ (hne g o rfl h0)
      refine .inr ⟨g, o, rfl, fun i hi => ?_⟩
      have := hc i hi
      exact ⟨(World.cell?_of_block (a := ⟨g, _, none⟩) hb).trans this.1, (World.cell?_of_block (a := ⟨g, _, none⟩) hb).trans this.2⟩
theorem ed_keep {w w' : World} {a : Option Addr} {ms : List Ed.R} {q : Nat} (h : Ed.RM w a ms ∧ True) (hb : ∀ k, k < w.heap.size → k ≠ q → w'.heap[k]? = w.heap[k]?) (hs : w.heap.size ≤ w'.heap.size) (hne : ∀ g o, a = some ⟨g, o, none⟩ → ms ≠ [] → g ≠ q) : Ed.RM w' a ms ∧ True := by
  refine ⟨?_, trivial⟩
  rcases h.1 with h | ⟨g, o, rfl, hc⟩
  · exact .inl h
  · by_cases h0 : ms = []
    · exact .inl h0
    · have hpos : 0 < ms.length := List.length_pos_iff.2 h0
      have hg : g < w.heap.size := World.block_lt_of_cell? _ _ (hc 0 hpos).1
      have hb' := hb g hg (hne g o rfl h0)
      refine .inr ⟨g, o, rfl, fun i hi => ?_⟩
      have := hc i hi
      exact ⟨(World.cell?_of_block (a := ⟨g, _, none⟩) hb').trans this.1, (World.cell?_of_block (a := ⟨g, _, none⟩) hb').trans this.2⟩
set_option maxHeartbeats 32000000 in
theorem l12Tc (x1 x2 x3 x4 x5 x6 : Int) (a1 a2 a3 a4 a5 a6 a7 : Option Addr) (c1 c2 c3 c4 c5 c6 c7 : Nat) (ls : List Lk.R) (tw : List Tu.R) (se : List Tu.R) (du : List Tu.R) (ss : List So.R) (es : List Tu.R) (la : List Ed.R) (w : World) (h8 : ls.length ≤ 8) (hm7 : la.length ≤ 4096) (h40 : 0 ≤ x4) (h41 : x4 ≤ 65535) (hr1 : Lk.RM w a1 ls) (hr7 : Ed.RM w a7 la) :
    Calls Tryz.prog 74 #[.agg #[.int .i64 x1, .int .i64 x2, .int .i64 x3, .int .i64 x4, .int .i64 x5, .slice a1 ls.length c1, .slice a2 tw.length c2, .slice a3 se.length c3, .slice a4 du.length c4, .slice a5 ss.length c5, .slice a6 es.length c6, .slice a7 la.length c7, .int .i64 x6]] w fun e w' => ∃ ta tc b d, e = .returned (.tuple #[.agg (rC x1 x2 x3 (advN (advL ls x5) la x4) x5 (.slice a1 ls.length c1) (.slice a2 tw.length c2) (.slice a3 se.length c3) (.slice a4 du.length c4) (.slice a5 ss.length c5) (.slice a6 es.length c6) (.slice b (advL ls x5).length d) x6).toArray, .agg #[.int .i64 (advN (advL ls x5) la x4), .int .i64 15, .slice ta (advL ls x5).length tc]]) ∧ Below w.heap.size w w' ∧ Ed.Lst w' ta (advL ls x5) w.heap.size w'.heap.size ∧ Ed.RM w' b (advL ls x5) := by
  have hal : (advL ls x5).length ≤ 8 := Nat.le_trans (adv_len _ _) h8
  have HR1 := hide hr1
  have HR7 := hide hr7
  have HN7 : Hid (∀ g o, a7 = some ⟨g, o, none⟩ → la ≠ [] → g < w.heap.size) := hide (fun g o e h0 => by
    rcases hr7 with h | ⟨g', o', e', hc⟩
    · exact absurd h h0
    · rw [e] at e'; cases e'
      exact World.block_lt_of_cell? _ _ (hc 0 (List.length_pos_iff.2 h0)).1)
  have hz1 : (w.alloc (.cells #[.int .i64 x1, .int .i64 x2, .int .i64 x3, .int .i64 x4, .int .i64 x5, .slice a1 ls.length c1, .slice a2 tw.length c2, .slice a3 se.length c3, .slice a4 du.length c4, .slice a5 ss.length c5, .slice a6 es.length c6, .slice a7 la.length c7, .int .i64 x6] 38)).heap.size = w.heap.size + 1 := by simp
  have hz2 : ((w.alloc (.cells #[.int .i64 x1, .int .i64 x2, .int .i64 x3, .int .i64 x4, .int .i64 x5, .slice a1 ls.length c1, .slice a2 tw.length c2, .slice a3 se.length c3, .slice a4 du.length c4, .slice a5 ss.length c5, .slice a6 es.length c6, .slice a7 la.length c7, .int .i64 x6] 38)).alloc (.cells #[.int .i64 0, .int .i64 0, .int .i64 0, .int .i64 0, .int .i64 0, .slice none 0 0, .slice none 0 0, .slice none 0 0, .slice none 0 0, .slice none 0 0, .slice none 0 0, .slice none 0 0, .int .i64 0] 38)).heap.size = w.heap.size + 2 := by simp
  have hz3 : (((w.alloc (.cells #[.int .i64 x1, .int .i64 x2, .int .i64 x3, .int .i64 x4, .int .i64 x5, .slice a1 ls.length c1, .slice a2 tw.length c2, .slice a3 se.length c3, .slice a4 du.length c4, .slice a5 ss.length c5, .slice a6 es.length c6, .slice a7 la.length c7, .int .i64 x6] 38)).alloc (.cells #[.int .i64 0, .int .i64 0, .int .i64 0, .int .i64 0, .int .i64 0, .slice none 0 0, .slice none 0 0, .slice none 0 0, .slice none 0 0, .slice none 0 0, .slice none 0 0, .slice none 0 0, .int .i64 0] 38)).alloc (.cells #[.int .i64 0, .int .i64 0, .slice none 0 0] 59)).heap.size = w.heap.size + 3 := by simp
  have hz4 : ((((w.alloc (.cells #[.int .i64 x1, .int .i64 x2, .int .i64 x3, .int .i64 x4, .int .i64 x5, .slice a1 ls.length c1, .slice a2 tw.length c2, .slice a3 se.length c3, .slice a4 du.length c4, .slice a5 ss.length c5, .slice a6 es.length c6, .slice a7 la.length c7, .int .i64 x6] 38)).alloc (.cells #[.int .i64 0, .int .i64 0, .int .i64 0, .int .i64 0, .int .i64 0, .slice none 0 0, .slice none 0 0, .slice none 0 0, .slice none 0 0, .slice none 0 0, .slice none 0 0, .slice none 0 0, .int .i64 0] 38)).alloc (.cells #[.int .i64 0, .int .i64 0, .slice none 0 0] 59)).alloc (.cells #[] 141)).heap.size = w.heap.size + 4 := by simp
  have hz5 : (((((w.alloc (.cells #[.int .i64 x1, .int .i64 x2, .int .i64 x3, .int .i64 x4, .int .i64 x5, .slice a1 ls.length c1, .slice a2 tw.length c2, .slice a3 se.length c3, .slice a4 du.length c4, .slice a5 ss.length c5, .slice a6 es.length c6, .slice a7 la.length c7, .int .i64 x6] 38)).alloc (.cells #[.int .i64 0, .int .i64 0, .int .i64 0, .int .i64 0, .int .i64 0, .slice none 0 0, .slice none 0 0, .slice none 0 0, .slice none 0 0, .slice none 0 0, .slice none 0 0, .slice none 0 0, .int .i64 0] 38)).alloc (.cells #[.int .i64 0, .int .i64 0, .slice none 0 0] 59)).alloc (.cells #[] 141)).alloc (.cells #[.int .i64 0, .int .i64 15, .slice (some ⟨w.heap.size + 3, 0, none⟩) 0 0] 59)).heap.size = w.heap.size + 5 := by simp
  have b1 : Below w.heap.size w (w.alloc (.cells #[.int .i64 x1, .int .i64 x2, .int .i64 x3, .int .i64 x4, .int .i64 x5, .slice a1 ls.length c1, .slice a2 tw.length c2, .slice a3 se.length c3, .slice a4 du.length c4, .slice a5 ss.length c5, .slice a6 es.length c6, .slice a7 la.length c7, .int .i64 x6] 38)) := (Below.refl _ _).alloc (Nat.le_refl _) _
  have bb5 : Below (w.alloc (.cells #[.int .i64 x1, .int .i64 x2, .int .i64 x3, .int .i64 x4, .int .i64 x5, .slice a1 ls.length c1, .slice a2 tw.length c2, .slice a3 se.length c3, .slice a4 du.length c4, .slice a5 ss.length c5, .slice a6 es.length c6, .slice a7 la.length c7, .int .i64 x6] 38)).heap.size (w.alloc (.cells #[.int .i64 x1, .int .i64 x2, .int .i64 x3, .int .i64 x4, .int .i64 x5, .slice a1 ls.length c1, .slice a2 tw.length c2, .slice a3 se.length c3, .slice a4 du.length c4, .slice a5 ss.length c5, .slice a6 es.length c6, .slice a7 la.length c7, .int .i64 x6] 38)) (((((w.alloc (.cells #[.int .i64 x1, .int .i64 x2, .int .i64 x3, .int .i64 x4, .int .i64 x5, .slice a1 ls.length c1, .slice a2 tw.length c2, .slice a3 se.length c3, .slice a4 du.length c4, .slice a5 ss.length c5, .slice a6 es.length c6, .slice a7 la.length c7, .int .i64 x6] 38)).alloc (.cells #[.int .i64 0, .int .i64 0, .int .i64 0, .int .i64 0, .int .i64 0, .slice none 0 0, .slice none 0 0, .slice none 0 0, .slice none 0 0, .slice none 0 0, .slice none 0 0, .slice none 0 0, .int .i64 0] 38)).alloc (.cells #[.int .i64 0, .int .i64 0, .slice none 0 0] 59)).alloc (.cells #[] 141)).alloc (.cells #[.int .i64 0, .int .i64 15, .slice (some ⟨w.heap.size + 3, 0, none⟩) 0 0] 59)) := by rw [hz1]; exact ((((Below.refl _ _).alloc (by omega) _).alloc (by omega) _).alloc (by omega) _).alloc (by omega) _
  have cc5 : Below ((w.alloc (.cells #[.int .i64 x1, .int .i64 x2, .int .i64 x3, .int .i64 x4, .int .i64 x5, .slice a1 ls.length c1, .slice a2 tw.length c2, .slice a3 se.length c3, .slice a4 du.length c4, .slice a5 ss.length c5, .slice a6 es.length c6, .slice a7 la.length c7, .int .i64 x6] 38)).alloc (.cells #[.int .i64 0, .int .i64 0, .int .i64 0, .int .i64 0, .int .i64 0, .slice none 0 0, .slice none 0 0, .slice none 0 0, .slice none 0 0, .slice none 0 0, .slice none 0 0, .slice none 0 0, .int .i64 0] 38)).heap.size ((w.alloc (.cells #[.int .i64 x1, .int .i64 x2, .int .i64 x3, .int .i64 x4, .int .i64 x5, .slice a1 ls.length c1, .slice a2 tw.length c2, .slice a3 se.length c3, .slice a4 du.length c4, .slice a5 ss.length c5, .slice a6 es.length c6, .slice a7 la.length c7, .int .i64 x6] 38)).alloc (.cells #[.int .i64 0, .int .i64 0, .int .i64 0, .int .i64 0, .int .i64 0, .slice none 0 0, .slice none 0 0, .slice none 0 0, .slice none 0 0, .slice none 0 0, .slice none 0 0, .slice none 0 0, .int .i64 0] 38)) (((((w.alloc (.cells #[.int .i64 x1, .int .i64 x2, .int .i64 x3, .int .i64 x4, .int .i64 x5, .slice a1 ls.length c1, .slice a2 tw.length c2, .slice a3 se.length c3, .slice a4 du.length c4, .slice a5 ss.length c5, .slice a6 es.length c6, .slice a7 la.length c7, .int .i64 x6] 38)).alloc (.cells #[.int .i64 0, .int .i64 0, .int .i64 0, .int .i64 0, .int .i64 0, .slice none 0 0, .slice none 0 0, .slice none 0 0, .slice none 0 0, .slice none 0 0, .slice none 0 0, .slice none 0 0, .int .i64 0] 38)).alloc (.cells #[.int .i64 0, .int .i64 0, .slice none 0 0] 59)).alloc (.cells #[] 141)).alloc (.cells #[.int .i64 0, .int .i64 15, .slice (some ⟨w.heap.size + 3, 0, none⟩) 0 0] 59)) := by rw [hz2]; exact (((Below.refl _ _).alloc (by omega) _).alloc (by omega) _).alloc (by omega) _
  have dd5 : Below (((w.alloc (.cells #[.int .i64 x1, .int .i64 x2, .int .i64 x3, .int .i64 x4, .int .i64 x5, .slice a1 ls.length c1, .slice a2 tw.length c2, .slice a3 se.length c3, .slice a4 du.length c4, .slice a5 ss.length c5, .slice a6 es.length c6, .slice a7 la.length c7, .int .i64 x6] 38)).alloc (.cells #[.int .i64 0, .int .i64 0, .int .i64 0, .int .i64 0, .int .i64 0, .slice none 0 0, .slice none 0 0, .slice none 0 0, .slice none 0 0, .slice none 0 0, .slice none 0 0, .slice none 0 0, .int .i64 0] 38)).alloc (.cells #[.int .i64 0, .int .i64 0, .slice none 0 0] 59)).heap.size (((w.alloc (.cells #[.int .i64 x1, .int .i64 x2, .int .i64 x3, .int .i64 x4, .int .i64 x5, .slice a1 ls.length c1, .slice a2 tw.length c2, .slice a3 se.length c3, .slice a4 du.length c4, .slice a5 ss.length c5, .slice a6 es.length c6, .slice a7 la.length c7, .int .i64 x6] 38)).alloc (.cells #[.int .i64 0, .int .i64 0, .int .i64 0, .int .i64 0, .int .i64 0, .slice none 0 0, .slice none 0 0, .slice none 0 0, .slice none 0 0, .slice none 0 0, .slice none 0 0, .slice none 0 0, .int .i64 0] 38)).alloc (.cells #[.int .i64 0, .int .i64 0, .slice none 0 0] 59)) (((((w.alloc (.cells #[.int .i64 x1, .int .i64 x2, .int .i64 x3, .int .i64 x4, .int .i64 x5, .slice a1 ls.length c1, .slice a2 tw.length c2, .slice a3 se.length c3, .slice a4 du.length c4, .slice a5 ss.length c5, .slice a6 es.length c6, .slice a7 la.length c7, .int .i64 x6] 38)).alloc (.cells #[.int .i64 0, .int .i64 0, .int .i64 0, .int .i64 0, .int .i64 0, .slice none 0 0, .slice none 0 0, .slice none 0 0, .slice none 0 0, .slice none 0 0, .slice none 0 0, .slice none 0 0, .int .i64 0] 38)).alloc (.cells #[.int .i64 0, .int .i64 0, .slice none 0 0] 59)).alloc (.cells #[] 141)).alloc (.cells #[.int .i64 0, .int .i64 15, .slice (some ⟨w.heap.size + 3, 0, none⟩) 0 0] 59)) := by rw [hz3]; exact ((Below.refl _ _).alloc (by omega) _).alloc (by omega) _
  have A5 : Hid (Below w.heap.size w (((((w.alloc (.cells #[.int .i64 x1, .int .i64 x2, .int .i64 x3, .int .i64 x4, .int .i64 x5, .slice a1 ls.length c1, .slice a2 tw.length c2, .slice a3 se.length c3, .slice a4 du.length c4, .slice a5 ss.length c5, .slice a6 es.length c6, .slice a7 la.length c7, .int .i64 x6] 38)).alloc (.cells #[.int .i64 0, .int .i64 0, .int .i64 0, .int .i64 0, .int .i64 0, .slice none 0 0, .slice none 0 0, .slice none 0 0, .slice none 0 0, .slice none 0 0, .slice none 0 0, .slice none 0 0, .int .i64 0] 38)).alloc (.cells #[.int .i64 0, .int .i64 0, .slice none 0 0] 59)).alloc (.cells #[] 141)).alloc (.cells #[.int .i64 0, .int .i64 15, .slice (some ⟨w.heap.size + 3, 0, none⟩) 0 0] 59))) := hide (b1.trans (bb5.mono (by omega)))
  have P5 : Hid (RA (((((w.alloc (.cells #[.int .i64 x1, .int .i64 x2, .int .i64 x3, .int .i64 x4, .int .i64 x5, .slice a1 ls.length c1, .slice a2 tw.length c2, .slice a3 se.length c3, .slice a4 du.length c4, .slice a5 ss.length c5, .slice a6 es.length c6, .slice a7 la.length c7, .int .i64 x6] 38)).alloc (.cells #[.int .i64 0, .int .i64 0, .int .i64 0, .int .i64 0, .int .i64 0, .slice none 0 0, .slice none 0 0, .slice none 0 0, .slice none 0 0, .slice none 0 0, .slice none 0 0, .slice none 0 0, .int .i64 0] 38)).alloc (.cells #[.int .i64 0, .int .i64 0, .slice none 0 0] 59)).alloc (.cells #[] 141)).alloc (.cells #[.int .i64 0, .int .i64 15, .slice (some ⟨w.heap.size + 3, 0, none⟩) 0 0] 59)) w.heap.size (rC x1 x2 x3 x4 x5 (.slice a1 ls.length c1) (.slice a2 tw.length c2) (.slice a3 se.length c3) (.slice a4 du.length c4) (.slice a5 ss.length c5) (.slice a6 es.length c6) (.slice a7 la.length c7) x6)) := hide ((ra_new w _ rfl _).below bb5)
  have Z5 : Hid (RA (((((w.alloc (.cells #[.int .i64 x1, .int .i64 x2, .int .i64 x3, .int .i64 x4, .int .i64 x5, .slice a1 ls.length c1, .slice a2 tw.length c2, .slice a3 se.length c3, .slice a4 du.length c4, .slice a5 ss.length c5, .slice a6 es.length c6, .slice a7 la.length c7, .int .i64 x6] 38)).alloc (.cells #[.int .i64 0, .int .i64 0, .int .i64 0, .int .i64 0, .int .i64 0, .slice none 0 0, .slice none 0 0, .slice none 0 0, .slice none 0 0, .slice none 0 0, .slice none 0 0, .slice none 0 0, .int .i64 0] 38)).alloc (.cells #[.int .i64 0, .int .i64 0, .slice none 0 0] 59)).alloc (.cells #[] 141)).alloc (.cells #[.int .i64 0, .int .i64 15, .slice (some ⟨w.heap.size + 3, 0, none⟩) 0 0] 59)) (w.heap.size + 1) (rC 0 0 0 0 0 (.slice none 0 0) (.slice none 0 0) (.slice none 0 0) (.slice none 0 0) (.slice none 0 0) (.slice none 0 0) (.slice none 0 0) 0)) := hide (by have h := (ra_new (w.alloc (.cells #[.int .i64 x1, .int .i64 x2, .int .i64 x3, .int .i64 x4, .int .i64 x5, .slice a1 ls.length c1, .slice a2 tw.length c2, .slice a3 se.length c3, .slice a4 du.length c4, .slice a5 ss.length c5, .slice a6 es.length c6, .slice a7 la.length c7, .int .i64 x6] 38)) (rC 0 0 0 0 0 (.slice none 0 0) (.slice none 0 0) (.slice none 0 0) (.slice none 0 0) (.slice none 0 0) (.slice none 0 0) (.slice none 0 0) 0) rfl 38).below cc5; rw [hz1] at h; exact h)
  have Y5 : Hid (Av.HV (((((w.alloc (.cells #[.int .i64 x1, .int .i64 x2, .int .i64 x3, .int .i64 x4, .int .i64 x5, .slice a1 ls.length c1, .slice a2 tw.length c2, .slice a3 se.length c3, .slice a4 du.length c4, .slice a5 ss.length c5, .slice a6 es.length c6, .slice a7 la.length c7, .int .i64 x6] 38)).alloc (.cells #[.int .i64 0, .int .i64 0, .int .i64 0, .int .i64 0, .int .i64 0, .slice none 0 0, .slice none 0 0, .slice none 0 0, .slice none 0 0, .slice none 0 0, .slice none 0 0, .slice none 0 0, .int .i64 0] 38)).alloc (.cells #[.int .i64 0, .int .i64 0, .slice none 0 0] 59)).alloc (.cells #[] 141)).alloc (.cells #[.int .i64 0, .int .i64 15, .slice (some ⟨w.heap.size + 3, 0, none⟩) 0 0] 59)) (w.heap.size + 2) 0 0 (.slice none 0 0)) := hide (by have h := (Av.hv_new ((w.alloc (.cells #[.int .i64 x1, .int .i64 x2, .int .i64 x3, .int .i64 x4, .int .i64 x5, .slice a1 ls.length c1, .slice a2 tw.length c2, .slice a3 se.length c3, .slice a4 du.length c4, .slice a5 ss.length c5, .slice a6 es.length c6, .slice a7 la.length c7, .int .i64 x6] 38)).alloc (.cells #[.int .i64 0, .int .i64 0, .int .i64 0, .int .i64 0, .int .i64 0, .slice none 0 0, .slice none 0 0, .slice none 0 0, .slice none 0 0, .slice none 0 0, .slice none 0 0, .slice none 0 0, .int .i64 0] 38)) 0 0 (.slice none 0 0)).below dd5; rw [hz2] at h; exact h)
  have T5 : Hid (Av.HV (((((w.alloc (.cells #[.int .i64 x1, .int .i64 x2, .int .i64 x3, .int .i64 x4, .int .i64 x5, .slice a1 ls.length c1, .slice a2 tw.length c2, .slice a3 se.length c3, .slice a4 du.length c4, .slice a5 ss.length c5, .slice a6 es.length c6, .slice a7 la.length c7, .int .i64 x6] 38)).alloc (.cells #[.int .i64 0, .int .i64 0, .int .i64 0, .int .i64 0, .int .i64 0, .slice none 0 0, .slice none 0 0, .slice none 0 0, .slice none 0 0, .slice none 0 0, .slice none 0 0, .slice none 0 0, .int .i64 0] 38)).alloc (.cells #[.int .i64 0, .int .i64 0, .slice none 0 0] 59)).alloc (.cells #[] 141)).alloc (.cells #[.int .i64 0, .int .i64 15, .slice (some ⟨w.heap.size + 3, 0, none⟩) 0 0] 59)) (w.heap.size + 4) 0 15 (.slice (some ⟨w.heap.size + 3, 0, none⟩) 0 0)) := hide (by have h := Av.hv_new ((((w.alloc (.cells #[.int .i64 x1, .int .i64 x2, .int .i64 x3, .int .i64 x4, .int .i64 x5, .slice a1 ls.length c1, .slice a2 tw.length c2, .slice a3 se.length c3, .slice a4 du.length c4, .slice a5 ss.length c5, .slice a6 es.length c6, .slice a7 la.length c7, .int .i64 x6] 38)).alloc (.cells #[.int .i64 0, .int .i64 0, .int .i64 0, .int .i64 0, .int .i64 0, .slice none 0 0, .slice none 0 0, .slice none 0 0, .slice none 0 0, .slice none 0 0, .slice none 0 0, .slice none 0 0, .int .i64 0] 38)).alloc (.cells #[.int .i64 0, .int .i64 0, .slice none 0 0] 59)).alloc (.cells #[] 141)) 0 15 (.slice (some ⟨w.heap.size + 3, 0, none⟩) 0 0); rw [hz4] at h; exact h)
  have O5 : Hid ((((((w.alloc (.cells #[.int .i64 x1, .int .i64 x2, .int .i64 x3, .int .i64 x4, .int .i64 x5, .slice a1 ls.length c1, .slice a2 tw.length c2, .slice a3 se.length c3, .slice a4 du.length c4, .slice a5 ss.length c5, .slice a6 es.length c6, .slice a7 la.length c7, .int .i64 x6] 38)).alloc (.cells #[.int .i64 0, .int .i64 0, .int .i64 0, .int .i64 0, .int .i64 0, .slice none 0 0, .slice none 0 0, .slice none 0 0, .slice none 0 0, .slice none 0 0, .slice none 0 0, .slice none 0 0, .int .i64 0] 38)).alloc (.cells #[.int .i64 0, .int .i64 0, .slice none 0 0] 59)).alloc (.cells #[] 141)).alloc (.cells #[.int .i64 0, .int .i64 15, .slice (some ⟨w.heap.size + 3, 0, none⟩) 0 0] 59)).ownsRow (w.heap.size + 3) 141 2 (.slice (some ⟨w.heap.size + 3, 0, none⟩) 0 0) ([] : List Ed.R).length (Ed.flat [])) := hide (by have h := Ed.own_empty (((w.alloc (.cells #[.int .i64 x1, .int .i64 x2, .int .i64 x3, .int .i64 x4, .int .i64 x5, .slice a1 ls.length c1, .slice a2 tw.length c2, .slice a3 se.length c3, .slice a4 du.length c4, .slice a5 ss.length c5, .slice a6 es.length c6, .slice a7 la.length c7, .int .i64 x6] 38)).alloc (.cells #[.int .i64 0, .int .i64 0, .int .i64 0, .int .i64 0, .int .i64 0, .slice none 0 0, .slice none 0 0, .slice none 0 0, .slice none 0 0, .slice none 0 0, .slice none 0 0, .slice none 0 0, .int .i64 0] 38)).alloc (.cells #[.int .i64 0, .int .i64 0, .slice none 0 0] 59)) (w.heap.size + 3) (by omega); rw [hz3] at h; exact Av.own_below h ((Below.refl _ _).alloc (Nat.le_refl _) _))
  have z5 := (unhide P5).at (i := 5) rfl
  clear hr1 hr7 b1 bb5 cc5 dd5 hz1 hz2 hz3 hz4
  generalize hN : ls.length = n at *
  have HN := hide hN
  clear hN
  obtain ⟨AA, hAA⟩ : ∃ AA, advL ls x5 = AA := ⟨_, rfl⟩
  have HAA := hide hAA
  rw [hAA] at hal ⊢
  clear hAA
  obtain ⟨NN, hNN⟩ : ∃ NN, advN AA la x4 = NN := ⟨_, rfl⟩
  rw [hNN]
  have HAN : Hid (eqE AA la = true → x4 = NN) := hide (fun h => by rw [← hNN]; unfold advN; rw [if_pos h])
  have HAM : Hid (eqE AA la = false → bits BinOp.and IntKind.i64 (x4 + 1) 65535 = NN) := hide (fun h => by rw [← hNN, Mtr.and_65535]; unfold advN; rw [if_neg (by rw [h]; simp)])
  clear hNN
  obtain ⟨N2, hN2⟩ : ∃ N2, AA.length = N2 := ⟨_, rfl⟩
  have HN2 := hide hN2
  rw [hN2] at hal ⊢
  clear hN2
  go_enter Tryz.func74, Tryz.ntmps74
  go_wp2_with fail
  clear z5
  rw [show w.heap.size + 1 + 1 + 1 + 1 = w.heap.size + 4 from rfl, show w.heap.size + 1 + 1 + 1 = w.heap.size + 3 from rfl, show w.heap.size + 1 + 1 = w.heap.size + 2 from rfl]
  generalize hW : (((((w.alloc (.cells #[.int .i64 x1, .int .i64 x2, .int .i64 x3, .int .i64 x4, .int .i64 x5, .slice a1 n c1, .slice a2 tw.length c2, .slice a3 se.length c3, .slice a4 du.length c4, .slice a5 ss.length c5, .slice a6 es.length c6, .slice a7 la.length c7, .int .i64 x6] 38)).alloc (.cells #[.int .i64 0, .int .i64 0, .int .i64 0, .int .i64 0, .int .i64 0, .slice none 0 0, .slice none 0 0, .slice none 0 0, .slice none 0 0, .slice none 0 0, .slice none 0 0, .slice none 0 0, .int .i64 0] 38)).alloc (.cells #[.int .i64 0, .int .i64 0, .slice none 0 0] 59)).alloc (.cells #[] 141)).alloc (.cells #[.int .i64 0, .int .i64 15, .slice (some ⟨w.heap.size + 3, 0, none⟩) 0 0] 59)) = W0 at *
  clear hW
  go_loopw [5] (fun i wr => ∃ (j : Nat) (v : Value), j ≤ n ∧ i = .int .i64 j ∧ Hid (Av.HV wr (w.heap.size + 4) 0 15 v) ∧ Hid (wr.ownsRow (w.heap.size + 3) 141 2 v (advL (ls.take j) x5).length (Ed.flat (advL (ls.take j) x5))) ∧ Hid (Below (w.heap.size + 3) W0 wr)) (fun i _ => n - (intOf i).toNat)
  case atStart => exact ⟨0, _, by omega, rfl, T5, O5, hide (Below.refl _ _)⟩
  case round =>
    obtain ⟨j, v, hj, rfl, hT, hO, hBl⟩ := hrel
    have Ar := hide ((unhide A5).trans ((unhide hBl).mono (by omega)))
    have Pr := hide ((unhide P5).under (unhide hBl) (by omega))
    have hzr : W0.heap.size ≤ wr.heap.size := (unhide hBl).size
    have z5 := (unhide Pr).at (i := 5) rfl
    have z4 := (unhide Pr).at (i := 4) rfl
    by_cases hlt : (j : Int) < (n : Int)
    · have k0 : (0 : Int) ≤ (j : Int) := by omega
      have hlen : j < ls.length := by rw [unhide HN]; omega
      obtain ⟨g, off, ha1⟩ := (unhide HR1).form (by omega)
      have HC := (unhide HR1).below (unhide Ar)
      have HYS := hide (adv_yes (now := x5) hlen)
      have HNO := hide (adv_no (now := x5) hlen)
      have htl : (advL (ls.take j) x5).length ≤ 8 := by have := adv_len (ls.take j) x5; rw [List.length_take] at this; omega
      obtain ⟨TJ, hTJ⟩ : ∃ TJ, advL (ls.take j) x5 = TJ := ⟨_, rfl⟩
      rw [hTJ] at hO HYS HNO htl
      clear hTJ
      have HTL := hide htl
      clear htl
      subst ha1
      have hA := HC.at hlen
      clear HC hlen
      generalize ls.getD j Lk.R.zero = m at *
      obtain ⟨ad, hd, sy, ci, co, wl⟩ := m
      obtain ⟨t0, t1, t2, t3, t4, t5⟩ := hA
      dsimp only at t0 t1 t2 t3 t4 t5
      have bX : Below wr.heap.size wr (wr.alloc (.cells #[.int .i64 ad, .int .i64 hd, .int .i64 sy, .int .i64 ci, .int .i64 co, .int .i64 wl] 118)) := (Below.refl _ _).alloc (Nat.le_refl _) _
      have X1 : Hid (Ln.Bx (wr.alloc (.cells #[.int .i64 ad, .int .i64 hd, .int .i64 sy, .int .i64 ci, .int .i64 co, .int .i64 wl] 118)) wr.heap.size ⟨ad, hd, sy, ci, co, wl⟩) := hide (Ln.bx_new _ ⟨ad, hd, sy, ci, co, wl⟩ _)
      have P1 := hide ((unhide Pr).below bX)
      have z4' := (unhide P1).at (i := 4) rfl
      have T1 := hide ((unhide hT).below bX)
      have O1 := hide (Av.own_below (unhide hO) bX)
      have D1 : Hid (Below (w.heap.size + 3) W0 (wr.alloc (.cells #[.int .i64 ad, .int .i64 hd, .int .i64 sy, .int .i64 ci, .int .i64 co, .int .i64 wl] 118))) := hide ((unhide hBl).trans (bX.mono (by omega)))
      have hs1 : (wr.alloc (.cells #[.int .i64 ad, .int .i64 hd, .int .i64 sy, .int .i64 ci, .int .i64 co, .int .i64 wl] 118)).heap.size = wr.heap.size + 1 := by simp
      clear bX
      go_wp2_with fail
      clear t0 t1 t2 t3 t4 t5 z4 z5 z4' P1
      generalize hW4 : wr.alloc (.cells #[.int .i64 ad, .int .i64 hd, .int .i64 sy, .int .i64 ci, .int .i64 co, .int .i64 wl] 118) = w4 at *
      clear hW4
      generalize hXX : wr.heap.size = X at *
      have HXE := hide hXX
      clear hXX
      refine (Ln.l06Status ad hd sy ci co wl x5 _).mono ?_
      rintro e w5 ⟨rfl, b5⟩
      have X5 := hide ((unhide X1).below b5)
      have T6 := hide ((unhide T1).below b5)
      have O6 := hide (Av.own_below (unhide O1) b5)
      have D6 := hide ((unhide D1).trans (b5.mono (by omega)))
      have hs5 := b5.size
      clear b5 X1 T1 O1 D1
      obtain ⟨st, hst⟩ : ∃ st, Ln.statusV ⟨ad, hd, sy, ci, co, wl⟩ x5 = st := ⟨_, rfl⟩
      rw [hst] at HYS HNO ⊢
      clear hst
      obtain ⟨y0, _, _, _, y4, _⟩ := unhide X5
      dsimp only at y0 y4
      cases hst2 : (st == 2)
      · have HO9 : Hid (w5.ownsRow (w.heap.size + 3) 141 2 v (advL (ls.take (j + 1)) x5).length (Ed.flat (advL (ls.take (j + 1)) x5))) := hide (by rw [unhide HNO hst2]; exact unhide O6)
        go_wp2_with fail
        go_roundw
        case rel => exact ⟨j + 1, v, by omega, by go_num, T6, HO9, D6⟩
        case measure => simp [intOf]; omega
      · have HYE := hide (unhide HYS hst2)
        obtain ⟨q0, q1, q2⟩ := (unhide T6).bx
        have bN : Below w5.heap.size w5 (w5.alloc (.cells #[.int .i64 ad, .int .i64 co] 141)) := (Below.refl _ _).alloc (Nat.le_refl _) _
        have T7 := hide ((unhide T6).below bN)
        have O7 := hide (Av.own_below (unhide O6) bN)
        have D7 := hide ((unhide D6).trans (bN.mono (by omega)))
        have R7 : Hid (Ed.RM (w5.alloc (.cells #[.int .i64 ad, .int .i64 co] 141)) (some ⟨w5.heap.size, 0, none⟩) [(⟨ad, co⟩ : Ed.R)]) := hide (Ed.rm_new w5 ⟨ad, co⟩)
        have hs7 : (w5.alloc (.cells #[.int .i64 ad, .int .i64 co] 141)).heap.size = w5.heap.size + 1 := by simp
        have HS7 := hide hs7
        clear bN hs7
        go_wp2_with (at_builtin; refine Ed.wpList_apS (unhide O7) w5.heap.size 0 1 1 [(⟨ad, co⟩ : Ed.R)] rfl (unhide R7) (by have := unhide HTL; simp only [List.length_cons, List.length_nil]; omega) (by rw [unhide HS7]; omega) rfl _ _ rfl rfl rfl ?_; intro v9 w9 o9 g9; obtain ⟨gq, cq, hv9, _, _⟩ := o9.form (by simp); obtain ⟨nn, hnn⟩ : ∃ nn, (TJ ++ [(⟨ad, co⟩ : Ed.R)]).length = nn := ⟨_, rfl⟩; rw [hnn] at hv9; subst hv9; have HO9 : Hid (w9.ownsRow (w.heap.size + 3) 141 2 (.slice (some ⟨gq, 0, none⟩) nn cq) (advL (ls.take (j + 1)) x5).length (Ed.flat (advL (ls.take (j + 1)) x5))) := hide (by rw [unhide HYE]; exact o9); have D9 : Hid (Below (w.heap.size + 3) W0 w9) := hide ((unhide D7).grown g9 (by rw [unhide HS7]; omega) (fun k hk => ((unhide O7).lt k hk).1)); have T9 := hide ((unhide T7).grown g9 ((unhide T7).row (unhide O7))); obtain ⟨p0, p1, p2⟩ := (unhide T9).bx; have fr2 := (unhide T9).free 2; clear o9 g9 hnn)
        have T10 := hide ((unhide T9).set (.slice (some ⟨gq, 0, none⟩) nn cq))
        have O10 := hide (ownsRow_setCell_other (unhide HO9) (a := ⟨w.heap.size + 4, 2, none⟩) (fun e => (unhide T9).row (unhide HO9) e.symm) (.slice (some ⟨gq, 0, none⟩) nn cq))
        have D10 := hide ((unhide D9).setCell (p := ⟨w.heap.size + 4, 2, none⟩) (by show w.heap.size + 3 ≤ w.heap.size + 4; omega) (.slice (some ⟨gq, 0, none⟩) nn cq))
        clear q0 q1 q2 p0 p1 p2 fr2 y0 y4
        go_roundw
        case rel => exact ⟨j + 1, _, by omega, by go_num, T10, O10, D10⟩
        case measure => simp [intOf]; omega
    · obtain rfl : j = n := by omega
      have e0 : ls.take j = ls := List.take_of_length_le (by rw [unhide HN]; exact Nat.le_refl _)
      rw [e0, unhide HAA] at hO
      clear e0
      obtain ⟨va, vc, hv, LF⟩ := Ed.lst_own rfl (unhide hO)
      rw [unhide HN2] at hv
      subst hv
      have HTN0 := (unhide hT).row (unhide hO)
      obtain ⟨gl, hgl, HLF⟩ : ∃ gl, (w.heap.size + 3 ≤ gl ∧ gl + 1 ≤ wr.heap.size ∧ gl ≠ w.heap.size + 4) ∧ Hid (Ed.Lst wr va AA gl (gl + 1)) := by
        rcases LF with h | ⟨g, rfl, h1, h2, h3, h4⟩
        · exact ⟨w.heap.size + 3, by omega, hide (.inl h)⟩
        · refine ⟨g, ⟨h1, h2, fun e => HTN0 (by simp [Value.ownBlock, e])⟩, hide (.inr ⟨g, rfl, Nat.le_refl _, by omega, h3, h4⟩)⟩
      clear LF HTN0
      have Zr := hide ((unhide Z5).under (unhide hBl) (by omega))
      have Yr := hide ((unhide Y5).under (unhide hBl) (by omega))
      have z11 := (unhide Pr).at (i := 11) rfl
      obtain ⟨q0, q1, q2⟩ := (unhide hT).bx
      obtain ⟨bl, hbl⟩ : ∃ bl, ((N2 : Int) == (la.length : Int)) = bl := ⟨_, rfl⟩
      have HEQ : Hid (eqE AA la = (bl && eqU AA la N2)) := hide (by unfold eqE; rw [← hbl, unhide HN2]; congr 1; by_cases e : N2 = la.length <;> simp [e]; omega)
      have HBN : Hid (bl = true → N2 = la.length) := hide (fun h => by rw [h] at hbl; have := beq_iff_eq.1 hbl; omega)
      go_wp2_with fail
      clear z5 z4 z11 q0 q1 q2
      go_loopw [7, 8] (fun s i wq => ∃ t : Nat, t ≤ N2 ∧ i = .int .i64 t ∧ s = .bool (bl && eqU AA la t) ∧ Hid (Below wr.heap.size wr wq)) (fun _ i _ => N2 - (intOf i).toNat)
      case atStart => exact ⟨0, by omega, rfl, by rw [eqU_zero, Bool.and_true], hide (Below.refl _ _)⟩
      case round =>
        rename World => wq
        obtain ⟨t, ht, rfl, rfl, hbq⟩ := hrel
        have Pq := hide ((unhide Pr).below (unhide hbq))
        have Tq := hide ((unhide hT).below (unhide hbq))
        have Zq := hide ((unhide Zr).below (unhide hbq))
        have Yq := hide ((unhide Yr).below (unhide hbq))
        have Lq := hide ((unhide HLF).below (unhide hbq))
        have Aq := hide ((unhide Ar).trans ((unhide hbq).mono (unhide Ar).size))
        have hsq := (unhide hbq).size
        have z11 := (unhide Pq).at (i := 11) rfl
        obtain ⟨q0, q1, q2⟩ := (unhide Tq).bx
        by_cases hlt2 : (t : Int) < (N2 : Int)
        · have k0 : (0 : Int) ≤ (t : Int) := by omega
          obtain ⟨sb, hsb⟩ : ∃ sb, (bl && eqU AA la t) = sb := ⟨_, rfl⟩
          rw [hsb]
          cases sb
          · have HF : (bl && eqU AA la N2) = false := by
              cases bl
              · rfl
              · rw [Bool.true_and] at hsb ⊢; exact eqU_stop hsb (by omega)
            have he : eqE AA la = false := by rw [unhide HEQ]; exact HF
            have hand := unhide HAM he
            clear HAN HAM HEQ
            have z3 := (unhide Pq).at (i := 3) rfl
            have f3 := (unhide Pq).free (i := 3) (by omega)
            have b0 : Below wq.heap.size (wq.setCell ⟨w.heap.size, 3, none⟩ (.int .i64 NN)) ((wq.setCell ⟨w.heap.size, 3, none⟩ (.int .i64 NN)).alloc (.cells #[] 141)) := (Below.refl _ _).alloc (by simp [World.setCell]) _
            have hsw : (wq.setCell ⟨w.heap.size, 3, none⟩ (.int .i64 NN)).heap.size = wq.heap.size := by simp [World.setCell]
            have b1 : Below (wq.setCell ⟨w.heap.size, 3, none⟩ (.int .i64 NN)).heap.size (wq.setCell ⟨w.heap.size, 3, none⟩ (.int .i64 NN)) ((wq.setCell ⟨w.heap.size, 3, none⟩ (.int .i64 NN)).alloc (.cells #[] 141)) := by rw [hsw]; exact b0
            have P8 : Hid (RA ((wq.setCell ⟨w.heap.size, 3, none⟩ (.int .i64 NN)).alloc (.cells #[] 141)) w.heap.size (rC x1 x2 x3 NN x5 (.slice a1 j c1) (.slice a2 tw.length c2) (.slice a3 se.length c3) (.slice a4 du.length c4) (.slice a5 ss.length c5) (.slice a6 es.length c6) (.slice a7 la.length c7) x6)) := hide (RA.below (show RA (wq.setCell ⟨w.heap.size, 3, none⟩ (.int .i64 NN)) w.heap.size (rC x1 x2 x3 NN x5 (.slice a1 j c1) (.slice a2 tw.length c2) (.slice a3 se.length c3) (.slice a4 du.length c4) (.slice a5 ss.length c5) (.slice a6 es.length c6) (.slice a7 la.length c7) x6) from RA.set (unhide Pq) (k := 3) (by omega) (.int .i64 NN)) b1)
            have T8 := hide ((tv_other (unhide Tq) (p := ⟨w.heap.size, 3, none⟩) (by show w.heap.size + 4 ≠ w.heap.size; omega) (.int .i64 NN)).below b1)
            have Z8 := hide ((RA.other (unhide Zq) (p := ⟨w.heap.size, 3, none⟩) (by show w.heap.size + 1 ≠ w.heap.size; omega) (.int .i64 NN)).below b1)
            have Y8 := hide ((tv_other (unhide Yq) (p := ⟨w.heap.size, 3, none⟩) (by show w.heap.size + 2 ≠ w.heap.size; omega) (.int .i64 NN)).below b1)
            have L8 := hide (((unhide Lq).but (p := fun k => k ≠ w.heap.size) (by simp [World.setCell]) (fun k hk h => Below.heap_setCell _ _ _ _ h) (fun k h1 h2 => by omega) : Ed.Lst (wq.setCell ⟨w.heap.size, 3, none⟩ (.int .i64 NN)) va AA gl (gl + 1)).below b1)
            have A8 := hide (((unhide Aq).setCell (p := ⟨w.heap.size, 3, none⟩) (Nat.le_refl _) (.int .i64 NN)).trans (b1.mono (by rw [hsw]; omega)))
            have hs8 : ((wq.setCell ⟨w.heap.size, 3, none⟩ (.int .i64 NN)).alloc (.cells #[] 141)).heap.size = wq.heap.size + 1 := by simp [World.setCell]
            have O8 : Hid (((wq.setCell ⟨w.heap.size, 3, none⟩ (.int .i64 NN)).alloc (.cells #[] 141)).ownsRow wq.heap.size 141 2 (.slice (some ⟨wq.heap.size, 0, none⟩) 0 0) ([] : List Ed.R).length (Ed.flat [])) := hide (by have h := Ed.own_empty (wq.setCell ⟨w.heap.size, 3, none⟩ (.int .i64 NN)) (wq.setCell ⟨w.heap.size, 3, none⟩ (.int .i64 NN)).heap.size (Nat.le_refl _); rw [hsw] at h; exact h)
            have z11' := (unhide P8).at (i := 11) rfl
            obtain ⟨p0, p1, p2⟩ := (unhide T8).bx
            have HS8 := hide hs8
            clear b0 b1 hs8
            have HN2' := unhide HN2
            go_wp2_with (at_builtin; refine apOE (unhide O8) va vc AA (unhide L8).rm (by simp; omega) (by rw [unhide HS8]; omega) rfl _ _ rfl rfl (by rw [HN2']; rfl) ?_; intro v9 w9 ho hg; have hnb : ∀ k, k < wq.heap.size → some k ≠ (Value.slice (some ⟨wq.heap.size, 0, none⟩) 0 0).ownBlock := (fun k hk e => by have := ((unhide O8).lt k e.symm).1; omega); have P9 := hide (RA.but (unhide P8) (hg.block _ (by rw [unhide HS8]; omega) (hnb _ (by omega)))); have Z9 := hide (RA.but (unhide Z8) (hg.block _ (by rw [unhide HS8]; omega) (hnb _ (by omega)))); have T9 := hide ((unhide T8).grown hg (hnb _ (by omega))); have Y9 := hide ((unhide Y8).grown hg (hnb _ (by omega))); have A9 := hide ((unhide A8).grown hg (by rw [unhide HS8]; omega) (fun k hk => by have := ((unhide O8).lt k hk).1; omega)); have L9 := hide ((unhide L8).but (p := fun k => some k ≠ (Value.slice (some ⟨wq.heap.size, 0, none⟩) 0 0).ownBlock) hg.size (fun k hk h => hg.block k hk h) (fun k h1 h2 => hnb k (by omega))); have HL9 := hide (Ed.lst_own rfl ho); have HS9 := hide hg.size; clear ho hg hnb; obtain ⟨b, d, hv9, HLL⟩ := unhide HL9; simp only [List.nil_append] at hv9 HLL; rw [HN2'] at hv9; subst hv9; have M9 := hide HLL; clear HLL HL9; have o11 := (unhide P9).at (i := 11) rfl; have f11 := (unhide P9).free (i := 11) (by omega); have o3 := (unhide P9).at (i := 3) rfl; obtain ⟨s0, s1, s2⟩ := (unhide T9).bx; have r0 := (unhide T9).free 0)
            clear z3 z11 q0 q1 q2 f3 z11' p0 p1 p2 o11 f11 o3 s0 s1 s2 r0 hand
            have hs9 := unhide HS9
            rw [unhide HS8] at hs9
            have P_ : Hid (RA (w9.setCell ⟨w.heap.size, 11, none⟩ (.slice b N2 d)) w.heap.size (rC x1 x2 x3 NN x5 (.slice a1 j c1) (.slice a2 tw.length c2) (.slice a3 se.length c3) (.slice a4 du.length c4) (.slice a5 ss.length c5) (.slice a6 es.length c6) (.slice b N2 d) x6)) := hide (RA.set (unhide P9) (k := 11) (by omega) (.slice b N2 d))
            have T_ := hide (tv_other (unhide T9) (p := ⟨w.heap.size, 11, none⟩) (by show w.heap.size + 4 ≠ w.heap.size; omega) (.slice b N2 d))
            have Z_ := hide (RA.other (unhide Z9) (p := ⟨w.heap.size, 11, none⟩) (by show w.heap.size + 1 ≠ w.heap.size; omega) (.slice b N2 d))
            have Y_ := hide (tv_other (unhide Y9) (p := ⟨w.heap.size, 11, none⟩) (by show w.heap.size + 2 ≠ w.heap.size; omega) (.slice b N2 d))
            have A_ := hide ((unhide A9).setCell (p := ⟨w.heap.size, 11, none⟩) (Nat.le_refl _) (.slice b N2 d))
            have L_ : Hid (Ed.Lst (w9.setCell ⟨w.heap.size, 11, none⟩ (.slice b N2 d)) va AA gl (gl + 1)) := hide ((unhide L9).but (p := fun k => k ≠ w.heap.size) (by simp [World.setCell]) (fun k hk h => Below.heap_setCell _ _ _ _ h) (fun k h1 h2 => by omega))
            have hb9 : ∀ g o, b = some ⟨g, o, none⟩ → AA ≠ [] → wq.heap.size ≤ g := fun g o e h0 => by
              rcases unhide M9 with h | ⟨g', e', h1, _⟩
              · exact absurd h h0
              · rw [e] at e'; cases e'; exact h1
            have R_ : Hid (Ed.RM (w9.setCell ⟨w.heap.size, 11, none⟩ (.slice b N2 d)) b AA ∧ True) := hide (ed_other ⟨(unhide M9).rm, trivial⟩ (p := ⟨w.heap.size, 11, none⟩) (fun g o e h0 => by have := hb9 g o e h0; show g ≠ w.heap.size; omega) (.slice b N2 d))
            have HRN : Hid (∀ q, w.heap.size ≤ q ∧ q ≤ w.heap.size + 4 → ∀ g o, b = some ⟨g, o, none⟩ → AA ≠ [] → g ≠ q) := hide (fun q hq g o e h0 => by have := hb9 g o e h0; omega)
            have hsz9 : (w9.setCell ⟨w.heap.size, 11, none⟩ (.slice b N2 d)).heap.size = w9.heap.size := by simp [World.setCell]
            clear Pq Tq Zq Yq Aq Lq P8 T8 Z8 Y8 A8 L8 O8 P9 T9 Z9 Y9 A9 L9 M9 hb9
            have T1_ : Hid (Av.HV ((w9.setCell ⟨w.heap.size, 11, none⟩ (.slice b N2 d)).setCell ⟨w.heap.size + 4, 0, none⟩ (.int .i64 NN)) (w.heap.size + 4) NN 15 (.slice va N2 vc)) := hide (Av.heap_set _ (unhide T_))
            have P1_ := hide (RA.other (unhide P_) (p := ⟨w.heap.size + 4, 0, none⟩) (by show w.heap.size ≠ w.heap.size + 4; omega) (.int .i64 NN))
            have Z1_ := hide (RA.other (unhide Z_) (p := ⟨w.heap.size + 4, 0, none⟩) (by show w.heap.size + 1 ≠ w.heap.size + 4; omega) (.int .i64 NN))
            have Y1_ := hide (tv_other (unhide Y_) (p := ⟨w.heap.size + 4, 0, none⟩) (by show w.heap.size + 2 ≠ w.heap.size + 4; omega) (.int .i64 NN))
            have A1_ := hide ((unhide A_).setCell (p := ⟨w.heap.size + 4, 0, none⟩) (by show w.heap.size ≤ w.heap.size + 4; omega) (.int .i64 NN))
            have L1_ := hide ((unhide L_).but (p := fun k => k ≠ w.heap.size + 4) (by simp [World.setCell]) (fun k hk h => Below.heap_setCell _ _ _ _ h) (fun k h1 h2 => by omega) : Ed.Lst ((w9.setCell ⟨w.heap.size, 11, none⟩ (.slice b N2 d)).setCell ⟨w.heap.size + 4, 0, none⟩ (.int .i64 NN)) va AA gl (gl + 1))
            have R1_ := hide (ed_other (unhide R_) (p := ⟨w.heap.size + 4, 0, none⟩) (unhide HRN (w.heap.size + 4) (by omega)) (.int .i64 NN))
            have hs1_ : ((w9.setCell ⟨w.heap.size, 11, none⟩ (.slice b N2 d)).setCell ⟨w.heap.size + 4, 0, none⟩ (.int .i64 NN)).heap.size = (w9.setCell ⟨w.heap.size, 11, none⟩ (.slice b N2 d)).heap.size := by simp [World.setCell]
            clear P_ T_ Z_ Y_ A_ L_ R_
            generalize hW_ : (w9.setCell ⟨w.heap.size, 11, none⟩ (.slice b N2 d)).setCell ⟨w.heap.size + 4, 0, none⟩ (.int .i64 NN) = wz at *
            clear hW_
            refine wp_region_noPanic ?_
            refine wp_region_held_drew (S := fun w' => RA w' w.heap.size (rC x1 x2 x3 NN x5 (.slice a1 j c1) (.slice a2 tw.length c2) (.slice a3 se.length c3) (.slice a4 du.length c4) (.slice a5 ss.length c5) (.slice a6 es.length c6) (.slice b N2 d) x6) ∧ w'.cell? ⟨w.heap.size + 4, 0, none⟩ = some (.int .i64 NN) ∧ w'.cell? ⟨w.heap.size + 4, 1, none⟩ = some (.int .i64 15) ∧ w'.cell? ⟨w.heap.size + 4, 2, none⟩ = some (.slice va N2 vc)) (by kernel_rfl) (⟨(unhide P1_).drew, (unhide T1_).drew.bx⟩) (fun hHeld => ?_)
            (refine Rg.tk (i := 0) (d := 81) (v := .agg (rC x1 x2 x3 NN x5 (.slice a1 j c1) (.slice a2 tw.length c2) (.slice a3 se.length c3) (.slice a4 du.length c4) (.slice a5 ss.length c5) (.slice a6 es.length c6) (.slice b N2 d) x6).toArray) rfl rfl (by kernel_rfl) (by kernel_rfl) (by kernel_rfl) (fun _ _ _ h => h) (by rfl) (fun w0 hSw => run_execR _ rfl rfl hSw.1) (by assumption) ?_; (try simp only [Act.put, List.setIfInBounds_toArray, List.set_cons_zero, List.set_cons_succ]))
            (refine Rg.tk (i := 1) (d := 82) (v := ?_) rfl rfl (by kernel_rfl) (by kernel_rfl) (by kernel_rfl) (fun _ _ _ h => h) (by rfl) ?_ (by assumption) ?_; rotate_left; (focus (intro w0 hSw; (try dsimp only at hSw); go_simp; (try with_reducible rfl))); (try simp only [Act.put, List.setIfInBounds_toArray, List.set_cons_zero, List.set_cons_succ]))
            (refine wpAnyH_ready (rs := [2]) (by kernel_rfl) (by simp) ?_; refine AllReadyH.cons (o := _) rfl (fun K hK => ?_) AllReadyH.nil; rw [if_pos (by rfl)])
            refine wp_storeR _ _ rfl (rC x1 x2 x3 NN x5 (.slice a1 j c1) (.slice a2 tw.length c2) (.slice a3 se.length c3) (.slice a4 du.length c4) (.slice a5 ss.length c5) (.slice a6 es.length c6) (.slice b N2 d) x6) (rC_ones rfl rfl rfl rfl rfl rfl rfl) rfl rfl (unhide Z1_).2.1 ?_
            intro wy zy by_ sy ky
            have A2_ := hide (by_ _ _ ((unhide A1_).drew) (Nat.le_succ _))
            have Z2_ := hide zy
            have Y2_ : Hid (Av.HV wy (w.heap.size + 2) 0 0 (.slice none 0 0)) := hide ((ky _ (by omega)).trans (unhide Y1_))
            have P2_ := hide (RA.but (unhide P1_) (ky _ (by omega)))
            have T2_ : Hid (Av.HV wy (w.heap.size + 4) NN 15 (.slice va N2 vc)) := hide ((ky _ (by omega)).trans (unhide T1_))
            have L2_ : Hid (Ed.Lst wy va AA gl (gl + 1)) := hide ((unhide L1_).but (p := fun k => k ≠ w.heap.size + 1) (by rw [sy]; exact Nat.le_refl _) (fun k hk h => ky k h) (fun k h1 h2 => by omega))
            have R2_ := hide (ed_keep (unhide R1_) (fun k hk h => ky k h) (by rw [sy]; exact Nat.le_refl _) (unhide HRN (w.heap.size + 1) (by omega)))
            have hs2_ : wy.heap.size = (w9.setCell ⟨w.heap.size, 11, none⟩ (.slice b N2 d)).heap.size := sy.trans hs1_
            clear zy by_ sy ky P1_ T1_ Z1_ Y1_ A1_ L1_ R1_ hHeld
            refine hK.out _ _ ⟨unhide P2_, (unhide T2_).bx⟩ (fun hHeld => ?_)
            clear hK K
            (try simp only [Act.put, List.setIfInBounds_toArray, List.set_cons_zero, List.set_cons_succ])
            obtain ⟨y0, y1, y2⟩ := (unhide Y2_).bx
            have s0 := (unhide Y2_).free 0
            have s1 := (unhide Y2_).free 1
            have s2 := (unhide Y2_).free 2
            (refine wpAnyH_ready (rs := [3]) (by kernel_rfl) (by simp) ?_; refine AllReadyH.cons (o := _) rfl (fun K hK => ?_) AllReadyH.nil; go_simp)
            clear y0 y1 y2 s0 s1 s2 hHeld
            have Y3_ : Hid (Av.HV (((wy.setCell ⟨w.heap.size + 2, 0, none⟩ (.int .i64 NN)).setCell ⟨w.heap.size + 2, 1, none⟩ (.int .i64 15)).setCell ⟨w.heap.size + 2, 2, none⟩ (.slice va N2 vc)) (w.heap.size + 2) NN 15 (.slice va N2 vc)) := hide (unhide Y2_).put
            have Z3_ := hide (RA.other (RA.other (RA.other (unhide Z2_) (p := ⟨w.heap.size + 2, 0, none⟩) (by show w.heap.size + 1 ≠ w.heap.size + 2; omega) (.int .i64 NN)) (p := ⟨w.heap.size + 2, 1, none⟩) (by show w.heap.size + 1 ≠ w.heap.size + 2; omega) (.int .i64 15)) (p := ⟨w.heap.size + 2, 2, none⟩) (by show w.heap.size + 1 ≠ w.heap.size + 2; omega) (.slice va N2 vc))
            have P3_ := hide (RA.other (RA.other (RA.other (unhide P2_) (p := ⟨w.heap.size + 2, 0, none⟩) (by show w.heap.size ≠ w.heap.size + 2; omega) (.int .i64 NN)) (p := ⟨w.heap.size + 2, 1, none⟩) (by show w.heap.size ≠ w.heap.size + 2; omega) (.int .i64 15)) (p := ⟨w.heap.size + 2, 2, none⟩) (by show w.heap.size ≠ w.heap.size + 2; omega) (.slice va N2 vc))
            have T3_ := hide (tv_other (tv_other (tv_other (unhide T2_) (p := ⟨w.heap.size + 2, 0, none⟩) (by show w.heap.size + 4 ≠ w.heap.size + 2; omega) (.int .i64 NN)) (p := ⟨w.heap.size + 2, 1, none⟩) (by show w.heap.size + 4 ≠ w.heap.size + 2; omega) (.int .i64 15)) (p := ⟨w.heap.size + 2, 2, none⟩) (by show w.heap.size + 4 ≠ w.heap.size + 2; omega) (.slice va N2 vc))
            have hle2 : w.heap.size ≤ w.heap.size + 2 := by omega
            have A3_ := hide ((((unhide A2_).setCell (p := ⟨w.heap.size + 2, 0, none⟩) hle2 (.int .i64 NN)).setCell (p := ⟨w.heap.size + 2, 1, none⟩) hle2 (.int .i64 15)).setCell (p := ⟨w.heap.size + 2, 2, none⟩) hle2 (.slice va N2 vc))
            have L3_ : Hid (Ed.Lst (((wy.setCell ⟨w.heap.size + 2, 0, none⟩ (.int .i64 NN)).setCell ⟨w.heap.size + 2, 1, none⟩ (.int .i64 15)).setCell ⟨w.heap.size + 2, 2, none⟩ (.slice va N2 vc)) va AA gl (gl + 1)) := hide ((unhide L2_).but (p := fun k => k ≠ w.heap.size + 2) (by simp [World.setCell]) (fun k hk hp => by rw [Below.heap_setCell _ _ _ _ hp, Below.heap_setCell _ _ _ _ hp, Below.heap_setCell _ _ _ _ hp]) (fun k h1 h2 => by omega))
            have R3_ := hide (ed_other (ed_other (ed_other (unhide R2_) (p := ⟨w.heap.size + 2, 0, none⟩) (unhide HRN (w.heap.size + 2) (by omega)) (.int .i64 NN)) (p := ⟨w.heap.size + 2, 1, none⟩) (unhide HRN (w.heap.size + 2) (by omega)) (.int .i64 15)) (p := ⟨w.heap.size + 2, 2, none⟩) (unhide HRN (w.heap.size + 2) (by omega)) (.slice va N2 vc))
            have hs3_ : (((wy.setCell ⟨w.heap.size + 2, 0, none⟩ (.int .i64 NN)).setCell ⟨w.heap.size + 2, 1, none⟩ (.int .i64 15)).setCell ⟨w.heap.size + 2, 2, none⟩ (.slice va N2 vc)).heap.size = (w9.setCell ⟨w.heap.size, 11, none⟩ (.slice b N2 d)).heap.size := by simp [World.setCell]; omega
            clear P2_ T2_ Z2_ Y2_ A2_ L2_ R2_
            generalize hW_ : ((wy.setCell ⟨w.heap.size + 2, 0, none⟩ (.int .i64 NN)).setCell ⟨w.heap.size + 2, 1, none⟩ (.int .i64 15)).setCell ⟨w.heap.size + 2, 2, none⟩ (.slice va N2 vc) = wx at *
            clear hW_
            refine hK.out _ _ ⟨unhide P3_, (unhide T3_).bx⟩ (fun hHeld => ?_)
            clear hK K hHeld
            (try simp only [Act.put, List.setIfInBounds_toArray, List.set_cons_zero, List.set_cons_succ])
            refine wpAnyH_done (by kernel_rfl) (NoPanic.normal ?_) _
            go_wp2_with fail
            refine bodyPost_ret (resultsRT rfl _ _ rfl rfl (unhide Z3_) (unhide Y3_)) rfl ⟨va, vc, b, d, rfl, unhide A3_, (unhide L3_).mono (by omega) (by rw [hs3_]; omega), (unhide R3_).1⟩
          · have hb1 : bl = true := by cases bl <;> simp_all
            have hu1 : eqU AA la t = true := by rw [hb1] at hsb; simpa using hsb
            have hll := unhide HBN hb1
            have hlen : t < AA.length := by rw [unhide HN2]; omega
            have hlen2 : t < la.length := by omega
            obtain ⟨g, o, hva⟩ := (unhide Lq).rm.form (by omega)
            subst hva
            obtain ⟨g2, o2, ha7⟩ := (unhide HR7).form (by omega)
            subst ha7
            have A1 := (unhide Lq).rm.at hlen
            have A2 := ((unhide HR7).below (unhide Aq)).at hlen2
            have HST := hide (eqU_step AA la t)
            generalize AA.getD t Ed.R.zero = m at *
            generalize la.getD t Ed.R.zero = m2 at *
            obtain ⟨x, y⟩ := m
            obtain ⟨x', y'⟩ := m2
            have HA1 := hide A1
            have HA2 := hide A2
            clear A1 A2
            have hnq := eqlEd x y x' y'
            obtain ⟨bq, hbq2⟩ : ∃ bq, edB ⟨x, y⟩ ⟨x', y'⟩ = bq := ⟨_, rfl⟩
            rw [hbq2] at hnq HST
            clear hbq2
            have hlt3 : (t : Int) < (la.length : Int) := by omega
            have HU1 := hide hu1
            have HB1 := hide hb1
            clear hlen hlen2 hsb hu1 hb1
            go_wp2_with fail
            clear z11 q0 q1 q2
            refine wp_region_noPanic ?_
            refine wp_region_held_drew (S := fun w' => (RA w' w.heap.size (rC x1 x2 x3 x4 x5 (.slice a1 j c1) (.slice a2 tw.length c2) (.slice a3 se.length c3) (.slice a4 du.length c4) (.slice a5 ss.length c5) (.slice a6 es.length c6) (.slice (some ⟨g2, o2, none⟩) la.length c7) x6) ∧ Av.HV w' (w.heap.size + 4) 0 15 (.slice (some ⟨g, o, none⟩) N2 vc) ∧ Ed.At w' g (o + t * 2) ⟨x, y⟩ ∧ Ed.At w' g2 (o2 + t * 2) ⟨x', y'⟩) ∧ (w'.cell? ⟨w.heap.size, 11, none⟩ = some (.slice (some ⟨g2, o2, none⟩) la.length c7) ∧ w'.cell? ⟨w.heap.size + 4, 2, none⟩ = some (.slice (some ⟨g, o, none⟩) N2 vc)) ∧ (w'.cell? ⟨g, o + t * 2, none⟩ = some (.int .i64 x) ∧ w'.cell? ⟨g, o + t * 2 + 1, none⟩ = some (.int .i64 y)) ∧ w'.cell? ⟨g2, o2 + t * 2, none⟩ = some (.int .i64 x') ∧ w'.cell? ⟨g2, o2 + t * 2 + 1, none⟩ = some (.int .i64 y')) (by kernel_rfl) (sTE (w := wq.drew) (unhide Pq).drew rfl (unhide Tq).drew (unhide HA1).drew (unhide HA2).drew) (fun hHeld => ?_)
            (refine Rg.tk (i := 0) (d := 55) (v := ?_) rfl rfl (by kernel_rfl) (by kernel_rfl) (by kernel_rfl) (fun _ _ _ h => h) (by rfl) ?_ (by assumption) ?_; rotate_left; (focus (intro w0 hSw; (try dsimp only at hSw); go_simp; (try with_reducible rfl))); (try simp only [Act.put, List.setIfInBounds_toArray, List.set_cons_zero, List.set_cons_succ]))
            (refine Rg.tk (i := 1) (d := 56) (v := ?_) rfl rfl (by kernel_rfl) (by kernel_rfl) (by kernel_rfl) (fun _ _ _ h => h) (by rfl) ?_ (by assumption) ?_; rotate_left; (focus (intro w0 hSw; (try dsimp only at hSw); go_simp; (try with_reducible rfl))); (try simp only [Act.put, List.setIfInBounds_toArray, List.set_cons_zero, List.set_cons_succ]))
            (refine Rg.tk (i := 2) (d := 57) (v := ?_) rfl rfl (by kernel_rfl) (by kernel_rfl) (by kernel_rfl) (fun _ _ _ h => h) (by rfl) ?_ (by assumption) ?_; rotate_left; (focus (intro w0 hSw; (try dsimp only at hSw); go_simp; (try with_reducible rfl))); (try simp only [Act.put, List.setIfInBounds_toArray, List.set_cons_zero, List.set_cons_succ]))
            (refine Rg.tk (i := 3) (d := 58) (v := ?_) rfl rfl (by kernel_rfl) (by kernel_rfl) (by kernel_rfl) (fun _ _ _ h => h) (by rfl) ?_ (by assumption) ?_; rotate_left; (focus (intro w0 hSw; (try dsimp only at hSw); go_simp; (try with_reducible rfl))); (try simp only [Act.put, List.setIfInBounds_toArray, List.set_cons_zero, List.set_cons_succ]))
            (refine Rg.tk (i := 4) (d := 59) (v := ?_) rfl rfl (by kernel_rfl) (by kernel_rfl) (by kernel_rfl) (fun _ _ _ h => h) (by rfl) ?_ (by assumption) ?_; rotate_left; (focus (intro w0 hSw; (try dsimp only at hSw); go_simp; (try with_reducible rfl))); (try simp only [Act.put, List.setIfInBounds_toArray, List.set_cons_zero, List.set_cons_succ]))
            (refine Rg.tk (i := 5) (d := 60) (v := ?_) rfl rfl (by kernel_rfl) (by kernel_rfl) (by kernel_rfl) (fun _ _ _ h => h) (by rfl) ?_ (by assumption) ?_; rotate_left; (focus (intro w0 hSw; (try dsimp only at hSw); go_simp; (try with_reducible rfl))); (try simp only [Act.put, List.setIfInBounds_toArray, List.set_cons_zero, List.set_cons_succ]))
            (refine Rg.tk (i := 6) (d := 61) (v := ?_) rfl rfl (by kernel_rfl) (by kernel_rfl) (by kernel_rfl) (fun _ _ _ h => h) (by rfl) ?_ (by assumption) ?_; rotate_left; (focus (intro w0 hSw; (try dsimp only at hSw); go_simp; (try with_reducible rfl))); (try simp only [Act.put, List.setIfInBounds_toArray, List.set_cons_zero, List.set_cons_succ]))
            (refine Rg.tk (i := 7) (d := 62) (v := ?_) rfl rfl (by kernel_rfl) (by kernel_rfl) (by kernel_rfl) (fun _ _ _ h => h) (by rfl) ?_ (by assumption) ?_; rotate_left; (focus (intro w0 hSw; (try dsimp only at hSw); go_simp; (try with_reducible rfl))); (try simp only [Act.put, List.setIfInBounds_toArray, List.set_cons_zero, List.set_cons_succ]))
            (refine Rg.tk (i := 8) (d := 63) (v := ?_) rfl rfl (by kernel_rfl) (by kernel_rfl) (by kernel_rfl) (fun _ _ _ h => h) (by rfl) ?_ (by assumption) ?_; rotate_left; (focus (intro w0 hSw; (try dsimp only at hSw); go_simp; (try with_reducible rfl))); (try simp only [Act.put, List.setIfInBounds_toArray, List.set_cons_zero, List.set_cons_succ]))
            (refine Rg.tk (i := 9) (d := 64) (v := ?_) rfl rfl (by kernel_rfl) (by kernel_rfl) (by kernel_rfl) (fun _ _ _ h => h) (by rfl) ?_ (by assumption) ?_; rotate_left; (focus (intro w0 hSw; (try dsimp only at hSw); go_simp; (try with_reducible rfl))); (try simp only [Act.put, List.setIfInBounds_toArray, List.set_cons_zero, List.set_cons_succ]))
            (refine Rg.tk (i := 10) (d := 65) (v := ?_) rfl rfl (by kernel_rfl) (by kernel_rfl) (by kernel_rfl) (fun _ _ _ h => h) (by rfl) ?_ (by assumption) ?_; rotate_left; (focus (intro w0 hSw; (try dsimp only at hSw); go_simp; (try with_reducible rfl))); (try simp only [Act.put, List.setIfInBounds_toArray, List.set_cons_zero, List.set_cons_succ]))
            (refine Rg.tk (i := 11) (d := 7) (v := ?_) rfl rfl (by kernel_rfl) (by kernel_rfl) (by kernel_rfl) (fun _ _ _ h => h) (by rfl) ?_ (by assumption) ?_; rotate_left; (focus (intro w0 hSw; (try dsimp only at hSw); go_simp; (try with_reducible rfl))); (try simp only [Act.put, List.setIfInBounds_toArray, List.set_cons_zero, List.set_cons_succ]))
            refine wpAnyH_done (by kernel_rfl) (NoPanic.normal ?_) _
            clear hHeld
            have HBd := hide (unhide hbq).drew
            go_wp2_with fail
            go_roundw
            case rel => exact ⟨t + 1, by omega, by go_num, by rw [unhide HST, unhide HB1, unhide HU1]; simp, HBd⟩
            case measure => simp [intOf]; omega
        · obtain rfl : t = N2 := by omega
          obtain ⟨sb, hsb⟩ : ∃ sb, (bl && eqU AA la t) = sb := ⟨_, rfl⟩
          rw [hsb]
          have HF := hsb
          cases sb
          · skip
            have he : eqE AA la = false := by rw [unhide HEQ]; exact HF
            have hand := unhide HAM he
            clear HAN HAM HEQ
            have z3 := (unhide Pq).at (i := 3) rfl
            have f3 := (unhide Pq).free (i := 3) (by omega)
            have b0 : Below wq.heap.size (wq.setCell ⟨w.heap.size, 3, none⟩ (.int .i64 NN)) ((wq.setCell ⟨w.heap.size, 3, none⟩ (.int .i64 NN)).alloc (.cells #[] 141)) := (Below.refl _ _).alloc (by simp [World.setCell]) _
            have hsw : (wq.setCell ⟨w.heap.size, 3, none⟩ (.int .i64 NN)).heap.size = wq.heap.size := by simp [World.setCell]
            have b1 : Below (wq.setCell ⟨w.heap.size, 3, none⟩ (.int .i64 NN)).heap.size (wq.setCell ⟨w.heap.size, 3, none⟩ (.int .i64 NN)) ((wq.setCell ⟨w.heap.size, 3, none⟩ (.int .i64 NN)).alloc (.cells #[] 141)) := by rw [hsw]; exact b0
            have P8 : Hid (RA ((wq.setCell ⟨w.heap.size, 3, none⟩ (.int .i64 NN)).alloc (.cells #[] 141)) w.heap.size (rC x1 x2 x3 NN x5 (.slice a1 j c1) (.slice a2 tw.length c2) (.slice a3 se.length c3) (.slice a4 du.length c4) (.slice a5 ss.length c5) (.slice a6 es.length c6) (.slice a7 la.length c7) x6)) := hide (RA.below (show RA (wq.setCell ⟨w.heap.size, 3, none⟩ (.int .i64 NN)) w.heap.size (rC x1 x2 x3 NN x5 (.slice a1 j c1) (.slice a2 tw.length c2) (.slice a3 se.length c3) (.slice a4 du.length c4) (.slice a5 ss.length c5) (.slice a6 es.length c6) (.slice a7 la.length c7) x6) from RA.set (unhide Pq) (k := 3) (by omega) (.int .i64 NN)) b1)
            have T8 := hide ((tv_other (unhide Tq) (p := ⟨w.heap.size, 3, none⟩) (by show w.heap.size + 4 ≠ w.heap.size; omega) (.int .i64 NN)).below b1)
            have Z8 := hide ((RA.other (unhide Zq) (p := ⟨w.heap.size, 3, none⟩) (by show w.heap.size + 1 ≠ w.heap.size; omega) (.int .i64 NN)).below b1)
            have Y8 := hide ((tv_other (unhide Yq) (p := ⟨w.heap.size, 3, none⟩) (by show w.heap.size + 2 ≠ w.heap.size; omega) (.int .i64 NN)).below b1)
            have L8 := hide (((unhide Lq).but (p := fun k => k ≠ w.heap.size) (by simp [World.setCell]) (fun k hk h => Below.heap_setCell _ _ _ _ h) (fun k h1 h2 => by omega) : Ed.Lst (wq.setCell ⟨w.heap.size, 3, none⟩ (.int .i64 NN)) va AA gl (gl + 1)).below b1)
            have A8 := hide (((unhide Aq).setCell (p := ⟨w.heap.size, 3, none⟩) (Nat.le_refl _) (.int .i64 NN)).trans (b1.mono (by rw [hsw]; omega)))
            have hs8 : ((wq.setCell ⟨w.heap.size, 3, none⟩ (.int .i64 NN)).alloc (.cells #[] 141)).heap.size = wq.heap.size + 1 := by simp [World.setCell]
            have O8 : Hid (((wq.setCell ⟨w.heap.size, 3, none⟩ (.int .i64 NN)).alloc (.cells #[] 141)).ownsRow wq.heap.size 141 2 (.slice (some ⟨wq.heap.size, 0, none⟩) 0 0) ([] : List Ed.R).length (Ed.flat [])) := hide (by have h := Ed.own_empty (wq.setCell ⟨w.heap.size, 3, none⟩ (.int .i64 NN)) (wq.setCell ⟨w.heap.size, 3, none⟩ (.int .i64 NN)).heap.size (Nat.le_refl _); rw [hsw] at h; exact h)
            have z11' := (unhide P8).at (i := 11) rfl
            obtain ⟨p0, p1, p2⟩ := (unhide T8).bx
            have HS8 := hide hs8
            clear b0 b1 hs8
            have HN2' := unhide HN2
            go_wp2_with (at_builtin; refine apOE (unhide O8) va vc AA (unhide L8).rm (by simp; omega) (by rw [unhide HS8]; omega) rfl _ _ rfl rfl (by rw [HN2']; rfl) ?_; intro v9 w9 ho hg; have hnb : ∀ k, k < wq.heap.size → some k ≠ (Value.slice (some ⟨wq.heap.size, 0, none⟩) 0 0).ownBlock := (fun k hk e => by have := ((unhide O8).lt k e.symm).1; omega); have P9 := hide (RA.but (unhide P8) (hg.block _ (by rw [unhide HS8]; omega) (hnb _ (by omega)))); have Z9 := hide (RA.but (unhide Z8) (hg.block _ (by rw [unhide HS8]; omega) (hnb _ (by omega)))); have T9 := hide ((unhide T8).grown hg (hnb _ (by omega))); have Y9 := hide ((unhide Y8).grown hg (hnb _ (by omega))); have A9 := hide ((unhide A8).grown hg (by rw [unhide HS8]; omega) (fun k hk => by have := ((unhide O8).lt k hk).1; omega)); have L9 := hide ((unhide L8).but (p := fun k => some k ≠ (Value.slice (some ⟨wq.heap.size, 0, none⟩) 0 0).ownBlock) hg.size (fun k hk h => hg.block k hk h) (fun k h1 h2 => hnb k (by omega))); have HL9 := hide (Ed.lst_own rfl ho); have HS9 := hide hg.size; clear ho hg hnb; obtain ⟨b, d, hv9, HLL⟩ := unhide HL9; simp only [List.nil_append] at hv9 HLL; rw [HN2'] at hv9; subst hv9; have M9 := hide HLL; clear HLL HL9; have o11 := (unhide P9).at (i := 11) rfl; have f11 := (unhide P9).free (i := 11) (by omega); have o3 := (unhide P9).at (i := 3) rfl; obtain ⟨s0, s1, s2⟩ := (unhide T9).bx; have r0 := (unhide T9).free 0)
            clear z3 z11 q0 q1 q2 f3 z11' p0 p1 p2 o11 f11 o3 s0 s1 s2 r0 hand
            have hs9 := unhide HS9
            rw [unhide HS8] at hs9
            have P_ : Hid (RA (w9.setCell ⟨w.heap.size, 11, none⟩ (.slice b t d)) w.heap.size (rC x1 x2 x3 NN x5 (.slice a1 j c1) (.slice a2 tw.length c2) (.slice a3 se.length c3) (.slice a4 du.length c4) (.slice a5 ss.length c5) (.slice a6 es.length c6) (.slice b t d) x6)) := hide (RA.set (unhide P9) (k := 11) (by omega) (.slice b t d))
            have T_ := hide (tv_other (unhide T9) (p := ⟨w.heap.size, 11, none⟩) (by show w.heap.size + 4 ≠ w.heap.size; omega) (.slice b t d))
            have Z_ := hide (RA.other (unhide Z9) (p := ⟨w.heap.size, 11, none⟩) (by show w.heap.size + 1 ≠ w.heap.size; omega) (.slice b t d))
            have Y_ := hide (tv_other (unhide Y9) (p := ⟨w.heap.size, 11, none⟩) (by show w.heap.size + 2 ≠ w.heap.size; omega) (.slice b t d))
            have A_ := hide ((unhide A9).setCell (p := ⟨w.heap.size, 11, none⟩) (Nat.le_refl _) (.slice b t d))
            have L_ : Hid (Ed.Lst (w9.setCell ⟨w.heap.size, 11, none⟩ (.slice b t d)) va AA gl (gl + 1)) := hide ((unhide L9).but (p := fun k => k ≠ w.heap.size) (by simp [World.setCell]) (fun k hk h => Below.heap_setCell _ _ _ _ h) (fun k h1 h2 => by omega))
            have hb9 : ∀ g o, b = some ⟨g, o, none⟩ → AA ≠ [] → wq.heap.size ≤ g := fun g o e h0 => by
              rcases unhide M9 with h | ⟨g', e', h1, _⟩
              · exact absurd h h0
              · rw [e] at e'; cases e'; exact h1
            have R_ : Hid (Ed.RM (w9.setCell ⟨w.heap.size, 11, none⟩ (.slice b t d)) b AA ∧ True) := hide (ed_other ⟨(unhide M9).rm, trivial⟩ (p := ⟨w.heap.size, 11, none⟩) (fun g o e h0 => by have := hb9 g o e h0; show g ≠ w.heap.size; omega) (.slice b t d))
            have HRN : Hid (∀ q, w.heap.size ≤ q ∧ q ≤ w.heap.size + 4 → ∀ g o, b = some ⟨g, o, none⟩ → AA ≠ [] → g ≠ q) := hide (fun q hq g o e h0 => by have := hb9 g o e h0; omega)
            have hsz9 : (w9.setCell ⟨w.heap.size, 11, none⟩ (.slice b t d)).heap.size = w9.heap.size := by simp [World.setCell]
            clear Pq Tq Zq Yq Aq Lq P8 T8 Z8 Y8 A8 L8 O8 P9 T9 Z9 Y9 A9 L9 M9 hb9
            have T1_ : Hid (Av.HV ((w9.setCell ⟨w.heap.size, 11, none⟩ (.slice b t d)).setCell ⟨w.heap.size + 4, 0, none⟩ (.int .i64 NN)) (w.heap.size + 4) NN 15 (.slice va t vc)) := hide (Av.heap_set _ (unhide T_))
            have P1_ := hide (RA.other (unhide P_) (p := ⟨w.heap.size + 4, 0, none⟩) (by show w.heap.size ≠ w.heap.size + 4; omega) (.int .i64 NN))
            have Z1_ := hide (RA.other (unhide Z_) (p := ⟨w.heap.size + 4, 0, none⟩) (by show w.heap.size + 1 ≠ w.heap.size + 4; omega) (.int .i64 NN))
            have Y1_ := hide (tv_other (unhide Y_) (p := ⟨w.heap.size + 4, 0, none⟩) (by show w.heap.size + 2 ≠ w.heap.size + 4; omega) (.int .i64 NN))
            have A1_ := hide ((unhide A_).setCell (p := ⟨w.heap.size + 4, 0, none⟩) (by show w.heap.size ≤ w.heap.size + 4; omega) (.int .i64 NN))
            have L1_ := hide ((unhide L_).but (p := fun k => k ≠ w.heap.size + 4) (by simp [World.setCell]) (fun k hk h => Below.heap_setCell _ _ _ _ h) (fun k h1 h2 => by omega) : Ed.Lst ((w9.setCell ⟨w.heap.size, 11, none⟩ (.slice b t d)).setCell ⟨w.heap.size + 4, 0, none⟩ (.int .i64 NN)) va AA gl (gl + 1))
            have R1_ := hide (ed_other (unhide R_) (p := ⟨w.heap.size + 4, 0, none⟩) (unhide HRN (w.heap.size + 4) (by omega)) (.int .i64 NN))
            have hs1_ : ((w9.setCell ⟨w.heap.size, 11, none⟩ (.slice b t d)).setCell ⟨w.heap.size + 4, 0, none⟩ (.int .i64 NN)).heap.size = (w9.setCell ⟨w.heap.size, 11, none⟩ (.slice b t d)).heap.size := by simp [World.setCell]
            clear P_ T_ Z_ Y_ A_ L_ R_
            generalize hW_ : (w9.setCell ⟨w.heap.size, 11, none⟩ (.slice b t d)).setCell ⟨w.heap.size + 4, 0, none⟩ (.int .i64 NN) = wz at *
            clear hW_
            refine wp_region_noPanic ?_
            refine wp_region_held_drew (S := fun w' => RA w' w.heap.size (rC x1 x2 x3 NN x5 (.slice a1 j c1) (.slice a2 tw.length c2) (.slice a3 se.length c3) (.slice a4 du.length c4) (.slice a5 ss.length c5) (.slice a6 es.length c6) (.slice b t d) x6) ∧ w'.cell? ⟨w.heap.size + 4, 0, none⟩ = some (.int .i64 NN) ∧ w'.cell? ⟨w.heap.size + 4, 1, none⟩ = some (.int .i64 15) ∧ w'.cell? ⟨w.heap.size + 4, 2, none⟩ = some (.slice va t vc)) (by kernel_rfl) (⟨(unhide P1_).drew, (unhide T1_).drew.bx⟩) (fun hHeld => ?_)
            (refine Rg.tk (i := 0) (d := 81) (v := .agg (rC x1 x2 x3 NN x5 (.slice a1 j c1) (.slice a2 tw.length c2) (.slice a3 se.length c3) (.slice a4 du.length c4) (.slice a5 ss.length c5) (.slice a6 es.length c6) (.slice b t d) x6).toArray) rfl rfl (by kernel_rfl) (by kernel_rfl) (by kernel_rfl) (fun _ _ _ h => h) (by rfl) (fun w0 hSw => run_execR _ rfl rfl hSw.1) (by assumption) ?_; (try simp only [Act.put, List.setIfInBounds_toArray, List.set_cons_zero, List.set_cons_succ]))
            (refine Rg.tk (i := 1) (d := 82) (v := ?_) rfl rfl (by kernel_rfl) (by kernel_rfl) (by kernel_rfl) (fun _ _ _ h => h) (by rfl) ?_ (by assumption) ?_; rotate_left; (focus (intro w0 hSw; (try dsimp only at hSw); go_simp; (try with_reducible rfl))); (try simp only [Act.put, List.setIfInBounds_toArray, List.set_cons_zero, List.set_cons_succ]))
            (refine wpAnyH_ready (rs := [2]) (by kernel_rfl) (by simp) ?_; refine AllReadyH.cons (o := _) rfl (fun K hK => ?_) AllReadyH.nil; rw [if_pos (by rfl)])
            refine wp_storeR _ _ rfl (rC x1 x2 x3 NN x5 (.slice a1 j c1) (.slice a2 tw.length c2) (.slice a3 se.length c3) (.slice a4 du.length c4) (.slice a5 ss.length c5) (.slice a6 es.length c6) (.slice b t d) x6) (rC_ones rfl rfl rfl rfl rfl rfl rfl) rfl rfl (unhide Z1_).2.1 ?_
            intro wy zy by_ sy ky
            have A2_ := hide (by_ _ _ ((unhide A1_).drew) (Nat.le_succ _))
            have Z2_ := hide zy
            have Y2_ : Hid (Av.HV wy (w.heap.size + 2) 0 0 (.slice none 0 0)) := hide ((ky _ (by omega)).trans (unhide Y1_))
            have P2_ := hide (RA.but (unhide P1_) (ky _ (by omega)))
            have T2_ : Hid (Av.HV wy (w.heap.size + 4) NN 15 (.slice va t vc)) := hide ((ky _ (by omega)).trans (unhide T1_))
            have L2_ : Hid (Ed.Lst wy va AA gl (gl + 1)) := hide ((unhide L1_).but (p := fun k => k ≠ w.heap.size + 1) (by rw [sy]; exact Nat.le_refl _) (fun k hk h => ky k h) (fun k h1 h2 => by omega))
            have R2_ := hide (ed_keep (unhide R1_) (fun k hk h => ky k h) (by rw [sy]; exact Nat.le_refl _) (unhide HRN (w.heap.size + 1) (by omega)))
            have hs2_ : wy.heap.size = (w9.setCell ⟨w.heap.size, 11, none⟩ (.slice b t d)).heap.size := sy.trans hs1_
            clear zy by_ sy ky P1_ T1_ Z1_ Y1_ A1_ L1_ R1_ hHeld
            refine hK.out _ _ ⟨unhide P2_, (unhide T2_).bx⟩ (fun hHeld => ?_)
            clear hK K
            (try simp only [Act.put, List.setIfInBounds_toArray, List.set_cons_zero, List.set_cons_succ])
            obtain ⟨y0, y1, y2⟩ := (unhide Y2_).bx
            have s0 := (unhide Y2_).free 0
            have s1 := (unhide Y2_).free 1
            have s2 := (unhide Y2_).free 2
            (refine wpAnyH_ready (rs := [3]) (by kernel_rfl) (by simp) ?_; refine AllReadyH.cons (o := _) rfl (fun K hK => ?_) AllReadyH.nil; go_simp)
            clear y0 y1 y2 s0 s1 s2 hHeld
            have Y3_ : Hid (Av.HV (((wy.setCell ⟨w.heap.size + 2, 0, none⟩ (.int .i64 NN)).setCell ⟨w.heap.size + 2, 1, none⟩ (.int .i64 15)).setCell ⟨w.heap.size + 2, 2, none⟩ (.slice va t vc)) (w.heap.size + 2) NN 15 (.slice va t vc)) := hide (unhide Y2_).put
            have Z3_ := hide (RA.other (RA.other (RA.other (unhide Z2_) (p := ⟨w.heap.size + 2, 0, none⟩) (by show w.heap.size + 1 ≠ w.heap.size + 2; omega) (.int .i64 NN)) (p := ⟨w.heap.size + 2, 1, none⟩) (by show w.heap.size + 1 ≠ w.heap.size + 2; omega) (.int .i64 15)) (p := ⟨w.heap.size + 2, 2, none⟩) (by show w.heap.size + 1 ≠ w.heap.size + 2; omega) (.slice va t vc))
            have P3_ := hide (RA.other (RA.other (RA.other (unhide P2_) (p := ⟨w.heap.size + 2, 0, none⟩) (by show w.heap.size ≠ w.heap.size + 2; omega) (.int .i64 NN)) (p := ⟨w.heap.size + 2, 1, none⟩) (by show w.heap.size ≠ w.heap.size + 2; omega) (.int .i64 15)) (p := ⟨w.heap.size + 2, 2, none⟩) (by show w.heap.size ≠ w.heap.size + 2; omega) (.slice va t vc))
            have T3_ := hide (tv_other (tv_other (tv_other (unhide T2_) (p := ⟨w.heap.size + 2, 0, none⟩) (by show w.heap.size + 4 ≠ w.heap.size + 2; omega) (.int .i64 NN)) (p := ⟨w.heap.size + 2, 1, none⟩) (by show w.heap.size + 4 ≠ w.heap.size + 2; omega) (.int .i64 15)) (p := ⟨w.heap.size + 2, 2, none⟩) (by show w.heap.size + 4 ≠ w.heap.size + 2; omega) (.slice va t vc))
            have hle2 : w.heap.size ≤ w.heap.size + 2 := by omega
            have A3_ := hide ((((unhide A2_).setCell (p := ⟨w.heap.size + 2, 0, none⟩) hle2 (.int .i64 NN)).setCell (p := ⟨w.heap.size + 2, 1, none⟩) hle2 (.int .i64 15)).setCell (p := ⟨w.heap.size + 2, 2, none⟩) hle2 (.slice va t vc))
            have L3_ : Hid (Ed.Lst (((wy.setCell ⟨w.heap.size + 2, 0, none⟩ (.int .i64 NN)).setCell ⟨w.heap.size + 2, 1, none⟩ (.int .i64 15)).setCell ⟨w.heap.size + 2, 2, none⟩ (.slice va t vc)) va AA gl (gl + 1)) := hide ((unhide L2_).but (p := fun k => k ≠ w.heap.size + 2) (by simp [World.setCell]) (fun k hk hp => by rw [Below.heap_setCell _ _ _ _ hp, Below.heap_setCell _ _ _ _ hp, Below.heap_setCell _ _ _ _ hp]) (fun k h1 h2 => by omega))
            have R3_ := hide (ed_other (ed_other (ed_other (unhide R2_) (p := ⟨w.heap.size + 2, 0, none⟩) (unhide HRN (w.heap.size + 2) (by omega)) (.int .i64 NN)) (p := ⟨w.heap.size + 2, 1, none⟩) (unhide HRN (w.heap.size + 2) (by omega)) (.int .i64 15)) (p := ⟨w.heap.size + 2, 2, none⟩) (unhide HRN (w.heap.size + 2) (by omega)) (.slice va t vc))
            have hs3_ : (((wy.setCell ⟨w.heap.size + 2, 0, none⟩ (.int .i64 NN)).setCell ⟨w.heap.size + 2, 1, none⟩ (.int .i64 15)).setCell ⟨w.heap.size + 2, 2, none⟩ (.slice va t vc)).heap.size = (w9.setCell ⟨w.heap.size, 11, none⟩ (.slice b t d)).heap.size := by simp [World.setCell]; omega
            clear P2_ T2_ Z2_ Y2_ A2_ L2_ R2_
            generalize hW_ : ((wy.setCell ⟨w.heap.size + 2, 0, none⟩ (.int .i64 NN)).setCell ⟨w.heap.size + 2, 1, none⟩ (.int .i64 15)).setCell ⟨w.heap.size + 2, 2, none⟩ (.slice va t vc) = wx at *
            clear hW_
            refine hK.out _ _ ⟨unhide P3_, (unhide T3_).bx⟩ (fun hHeld => ?_)
            clear hK K hHeld
            (try simp only [Act.put, List.setIfInBounds_toArray, List.set_cons_zero, List.set_cons_succ])
            refine wpAnyH_done (by kernel_rfl) (NoPanic.normal ?_) _
            go_wp2_with fail
            refine bodyPost_ret (resultsRT rfl _ _ rfl rfl (unhide Z3_) (unhide Y3_)) rfl ⟨va, vc, b, d, rfl, unhide A3_, (unhide L3_).mono (by omega) (by rw [hs3_]; omega), (unhide R3_).1⟩
          · skip
            have he := unhide HEQ
            rw [HF] at he
            have hE2 := eqE_iff.1 he
            have e4 := unhide HAN he
            clear HAN HAM he HEQ
            subst e4
            have z3 := (unhide Pq).at (i := 3) rfl
            have r0 := (unhide Tq).free 0
            go_wp2_with fail
            clear z3 z11 q0 q1 q2 r0
            have P_ := Pq
            have T_ := Tq
            have Z_ := Zq
            have Y_ := Yq
            have A_ := Aq
            have L_ := Lq
            have R_ : Hid (Ed.RM wq a7 AA ∧ True) := hide ⟨by rw [hE2]; exact (unhide HR7).below (unhide Aq), trivial⟩
            have HRN : Hid (∀ q, w.heap.size ≤ q ∧ q ≤ w.heap.size + 4 → ∀ g o, a7 = some ⟨g, o, none⟩ → AA ≠ [] → g ≠ q) := hide (fun q hq g o e h0 => by have := unhide HN7 g o e (by rw [← hE2]; exact h0); omega)
            clear Pq Tq Zq Yq Aq Lq
            have hlq : la.length = t := by rw [← hE2]; exact unhide HN2
            rw [hlq] at P_ ⊢
            have T1_ : Hid (Av.HV (wq.setCell ⟨w.heap.size + 4, 0, none⟩ (.int .i64 x4)) (w.heap.size + 4) x4 15 (.slice va t vc)) := hide (Av.heap_set _ (unhide T_))
            have P1_ := hide (RA.other (unhide P_) (p := ⟨w.heap.size + 4, 0, none⟩) (by show w.heap.size ≠ w.heap.size + 4; omega) (.int .i64 x4))
            have Z1_ := hide (RA.other (unhide Z_) (p := ⟨w.heap.size + 4, 0, none⟩) (by show w.heap.size + 1 ≠ w.heap.size + 4; omega) (.int .i64 x4))
            have Y1_ := hide (tv_other (unhide Y_) (p := ⟨w.heap.size + 4, 0, none⟩) (by show w.heap.size + 2 ≠ w.heap.size + 4; omega) (.int .i64 x4))
            have A1_ := hide ((unhide A_).setCell (p := ⟨w.heap.size + 4, 0, none⟩) (by show w.heap.size ≤ w.heap.size + 4; omega) (.int .i64 x4))
            have L1_ := hide ((unhide L_).but (p := fun k => k ≠ w.heap.size + 4) (by simp [World.setCell]) (fun k hk h => Below.heap_setCell _ _ _ _ h) (fun k h1 h2 => by omega) : Ed.Lst (wq.setCell ⟨w.heap.size + 4, 0, none⟩ (.int .i64 x4)) va AA gl (gl + 1))
            have R1_ := hide (ed_other (unhide R_) (p := ⟨w.heap.size + 4, 0, none⟩) (unhide HRN (w.heap.size + 4) (by omega)) (.int .i64 x4))
            have hs1_ : (wq.setCell ⟨w.heap.size + 4, 0, none⟩ (.int .i64 x4)).heap.size = wq.heap.size := by simp [World.setCell]
            clear P_ T_ Z_ Y_ A_ L_ R_
            generalize hW_ : wq.setCell ⟨w.heap.size + 4, 0, none⟩ (.int .i64 x4) = wz at *
            clear hW_
            refine wp_region_noPanic ?_
            refine wp_region_held_drew (S := fun w' => RA w' w.heap.size (rC x1 x2 x3 x4 x5 (.slice a1 j c1) (.slice a2 tw.length c2) (.slice a3 se.length c3) (.slice a4 du.length c4) (.slice a5 ss.length c5) (.slice a6 es.length c6) (.slice a7 t c7) x6) ∧ w'.cell? ⟨w.heap.size + 4, 0, none⟩ = some (.int .i64 x4) ∧ w'.cell? ⟨w.heap.size + 4, 1, none⟩ = some (.int .i64 15) ∧ w'.cell? ⟨w.heap.size + 4, 2, none⟩ = some (.slice va t vc)) (by kernel_rfl) (⟨(unhide P1_).drew, (unhide T1_).drew.bx⟩) (fun hHeld => ?_)
            (refine Rg.tk (i := 0) (d := 81) (v := .agg (rC x1 x2 x3 x4 x5 (.slice a1 j c1) (.slice a2 tw.length c2) (.slice a3 se.length c3) (.slice a4 du.length c4) (.slice a5 ss.length c5) (.slice a6 es.length c6) (.slice a7 t c7) x6).toArray) rfl rfl (by kernel_rfl) (by kernel_rfl) (by kernel_rfl) (fun _ _ _ h => h) (by rfl) (fun w0 hSw => run_execR _ rfl rfl hSw.1) (by assumption) ?_; (try simp only [Act.put, List.setIfInBounds_toArray, List.set_cons_zero, List.set_cons_succ]))
            (refine Rg.tk (i := 1) (d := 82) (v := ?_) rfl rfl (by kernel_rfl) (by kernel_rfl) (by kernel_rfl) (fun _ _ _ h => h) (by rfl) ?_ (by assumption) ?_; rotate_left; (focus (intro w0 hSw; (try dsimp only at hSw); go_simp; (try with_reducible rfl))); (try simp only [Act.put, List.setIfInBounds_toArray, List.set_cons_zero, List.set_cons_succ]))
            (refine wpAnyH_ready (rs := [2]) (by kernel_rfl) (by simp) ?_; refine AllReadyH.cons (o := _) rfl (fun K hK => ?_) AllReadyH.nil; rw [if_pos (by rfl)])
            refine wp_storeR _ _ rfl (rC x1 x2 x3 x4 x5 (.slice a1 j c1) (.slice a2 tw.length c2) (.slice a3 se.length c3) (.slice a4 du.length c4) (.slice a5 ss.length c5) (.slice a6 es.length c6) (.slice a7 t c7) x6) (rC_ones rfl rfl rfl rfl rfl rfl rfl) rfl rfl (unhide Z1_).2.1 ?_
            intro wy zy by_ sy ky
            have A2_ := hide (by_ _ _ ((unhide A1_).drew) (Nat.le_succ _))
            have Z2_ := hide zy
            have Y2_ : Hid (Av.HV wy (w.heap.size + 2) 0 0 (.slice none 0 0)) := hide ((ky _ (by omega)).trans (unhide Y1_))
            have P2_ := hide (RA.but (unhide P1_) (ky _ (by omega)))
            have T2_ : Hid (Av.HV wy (w.heap.size + 4) x4 15 (.slice va t vc)) := hide ((ky _ (by omega)).trans (unhide T1_))
            have L2_ : Hid (Ed.Lst wy va AA gl (gl + 1)) := hide ((unhide L1_).but (p := fun k => k ≠ w.heap.size + 1) (by rw [sy]; exact Nat.le_refl _) (fun k hk h => ky k h) (fun k h1 h2 => by omega))
            have R2_ := hide (ed_keep (unhide R1_) (fun k hk h => ky k h) (by rw [sy]; exact Nat.le_refl _) (unhide HRN (w.heap.size + 1) (by omega)))
            have hs2_ : wy.heap.size = wq.heap.size := sy.trans hs1_
            clear zy by_ sy ky P1_ T1_ Z1_ Y1_ A1_ L1_ R1_ hHeld
            refine hK.out _ _ ⟨unhide P2_, (unhide T2_).bx⟩ (fun hHeld => ?_)
            clear hK K
            (try simp only [Act.put, List.setIfInBounds_toArray, List.set_cons_zero, List.set_cons_succ])
            obtain ⟨y0, y1, y2⟩ := (unhide Y2_).bx
            have s0 := (unhide Y2_).free 0
            have s1 := (unhide Y2_).free 1
            have s2 := (unhide Y2_).free 2
            (refine wpAnyH_ready (rs := [3]) (by kernel_rfl) (by simp) ?_; refine AllReadyH.cons (o := _) rfl (fun K hK => ?_) AllReadyH.nil; go_simp)
            clear y0 y1 y2 s0 s1 s2 hHeld
            have Y3_ : Hid (Av.HV (((wy.setCell ⟨w.heap.size + 2, 0, none⟩ (.int .i64 x4)).setCell ⟨w.heap.size + 2, 1, none⟩ (.int .i64 15)).setCell ⟨w.heap.size + 2, 2, none⟩ (.slice va t vc)) (w.heap.size + 2) x4 15 (.slice va t vc)) := hide (unhide Y2_).put
            have Z3_ := hide (RA.other (RA.other (RA.other (unhide Z2_) (p := ⟨w.heap.size + 2, 0, none⟩) (by show w.heap.size + 1 ≠ w.heap.size + 2; omega) (.int .i64 x4)) (p := ⟨w.heap.size + 2, 1, none⟩) (by show w.heap.size + 1 ≠ w.heap.size + 2; omega) (.int .i64 15)) (p := ⟨w.heap.size + 2, 2, none⟩) (by show w.heap.size + 1 ≠ w.heap.size + 2; omega) (.slice va t vc))
            have P3_ := hide (RA.other (RA.other (RA.other (unhide P2_) (p := ⟨w.heap.size + 2, 0, none⟩) (by show w.heap.size ≠ w.heap.size + 2; omega) (.int .i64 x4)) (p := ⟨w.heap.size + 2, 1, none⟩) (by show w.heap.size ≠ w.heap.size + 2; omega) (.int .i64 15)) (p := ⟨w.heap.size + 2, 2, none⟩) (by show w.heap.size ≠ w.heap.size + 2; omega) (.slice va t vc))
            have T3_ := hide (tv_other (tv_other (tv_other (unhide T2_) (p := ⟨w.heap.size + 2, 0, none⟩) (by show w.heap.size + 4 ≠ w.heap.size + 2; omega) (.int .i64 x4)) (p := ⟨w.heap.size + 2, 1, none⟩) (by show w.heap.size + 4 ≠ w.heap.size + 2; omega) (.int .i64 15)) (p := ⟨w.heap.size + 2, 2, none⟩) (by show w.heap.size + 4 ≠ w.heap.size + 2; omega) (.slice va t vc))
            have hle2 : w.heap.size ≤ w.heap.size + 2 := by omega
            have A3_ := hide ((((unhide A2_).setCell (p := ⟨w.heap.size + 2, 0, none⟩) hle2 (.int .i64 x4)).setCell (p := ⟨w.heap.size + 2, 1, none⟩) hle2 (.int .i64 15)).setCell (p := ⟨w.heap.size + 2, 2, none⟩) hle2 (.slice va t vc))
            have L3_ : Hid (Ed.Lst (((wy.setCell ⟨w.heap.size + 2, 0, none⟩ (.int .i64 x4)).setCell ⟨w.heap.size + 2, 1, none⟩ (.int .i64 15)).setCell ⟨w.heap.size + 2, 2, none⟩ (.slice va t vc)) va AA gl (gl + 1)) := hide ((unhide L2_).but (p := fun k => k ≠ w.heap.size + 2) (by simp [World.setCell]) (fun k hk hp => by rw [Below.heap_setCell _ _ _ _ hp, Below.heap_setCell _ _ _ _ hp, Below.heap_setCell _ _ _ _ hp]) (fun k h1 h2 => by omega))
            have R3_ := hide (ed_other (ed_other (ed_other (unhide R2_) (p := ⟨w.heap.size + 2, 0, none⟩) (unhide HRN (w.heap.size + 2) (by omega)) (.int .i64 x4)) (p := ⟨w.heap.size + 2, 1, none⟩) (unhide HRN (w.heap.size + 2) (by omega)) (.int .i64 15)) (p := ⟨w.heap.size + 2, 2, none⟩) (unhide HRN (w.heap.size + 2) (by omega)) (.slice va t vc))
            have hs3_ : (((wy.setCell ⟨w.heap.size + 2, 0, none⟩ (.int .i64 x4)).setCell ⟨w.heap.size + 2, 1, none⟩ (.int .i64 15)).setCell ⟨w.heap.size + 2, 2, none⟩ (.slice va t vc)).heap.size = wq.heap.size := by simp [World.setCell]; omega
            clear P2_ T2_ Z2_ Y2_ A2_ L2_ R2_
            generalize hW_ : ((wy.setCell ⟨w.heap.size + 2, 0, none⟩ (.int .i64 x4)).setCell ⟨w.heap.size + 2, 1, none⟩ (.int .i64 15)).setCell ⟨w.heap.size + 2, 2, none⟩ (.slice va t vc) = wx at *
            clear hW_
            refine hK.out _ _ ⟨unhide P3_, (unhide T3_).bx⟩ (fun hHeld => ?_)
            clear hK K hHeld
            (try simp only [Act.put, List.setIfInBounds_toArray, List.set_cons_zero, List.set_cons_succ])
            refine wpAnyH_done (by kernel_rfl) (NoPanic.normal ?_) _
            go_wp2_with fail
            refine bodyPost_ret (resultsRT rfl _ _ rfl rfl (unhide Z3_) (unhide Y3_)) rfl ⟨va, vc, a7, c7, rfl, unhide A3_, (unhide L3_).mono (by omega) (by rw [hs3_]; omega), (unhide R3_).1⟩
end Rt
end Go.Proofs.YtiipppfkpgbpeaaGreat
namespace Go.Proofs.YtiipppfkpgbpeaaGreat
open Go.ChangeShapes Go.WideShapes Go.ChangeAt Go.RowKit
set_option linter.unusedVariables false
set_option linter.unusedSimpArgs false
attribute [local go_sem ↓] Go.wp_at_zero Go.wp_at_succ
namespace St
open W1 Tu
/-- What a slice of one's own looks like: its capacity, and where it lies. -/
def Shp (v : Value) : Prop := ∃ a n c, v = .slice a n c ∧ n ≤ c ∧ c ≤ maxLen ∧ (a = none ∨ ∃ g, a = some ⟨g, 0, none⟩)
theorem Shp.at {a : Option Addr} {n c : Nat} (h : Shp (.slice a n c)) : n ≤ c ∧ c ≤ maxLen ∧ (a = none ∨ ∃ g, a = some ⟨g, 0, none⟩) := by
  obtain ⟨a', n', c', e, h⟩ := h
  cases e
  exact h
end St
end Go.Proofs.YtiipppfkpgbpeaaGreat
namespace Go.Proofs.YtiipppfkpgbpeaaGreat
open Go.ChangeShapes Go.WideShapes Go.ChangeAt Go.RowKit
set_option linter.unusedVariables false
set_option linter.unusedSimpArgs false
set_option maxRecDepth 100000
attribute [local go_sem ↓] Go.wp_at_zero Go.wp_at_succ
namespace Tp
open W1 So
theorem copied (g off : Nat) (ms : List R) (cap n : Nat) (w : World) (hn : ms.length = n) (hm : ms.length ≤ 4096) (hr : RM w (some ⟨g, off, none⟩) ms) :
    Calls Tryz.prog 108 #[.slice (some ⟨g, off, none⟩) n cap] w fun e w' => ∃ v, e = .returned v ∧ Below w.heap.size w w' ∧ LstV w' v ms w.heap.size w'.heap.size := by
  have HR := hide hr
  have O0 := hide (own_nil w w.heap.size)
  clear hr
  go_enter Tryz.func108, Tryz.ntmps108
  go_wp2_with (at_builtin; refine wpList_apS (unhide O0) g off n cap ms hn (unhide HR) (by simp; omega) (by simp) rfl _ _ rfl rfl rfl ?_; intro v' w' ho hg; have HL := hide (lst_own rfl ho); have HB := hide (below_own (Below.refl _ _) (unhide O0) hg (Nat.le_refl _) (Nat.le_refl _)); clear ho hg)
  go_ret
  exact ⟨_, rfl, unhide HB, unhide HL⟩
/-- One of the lists that are put together. -/
structure Seg where
  g : Nat
  off : Nat
  cap : Nat
  ms : List R
def Seg.zero : Seg := ⟨0, 0, 0, []⟩
/-- The lists stand in block h, and read so. -/
def Segs (w : World) (h : Nat) (ss : List Seg) : Prop := ∀ i, i < ss.length → w.cell? ⟨h, i, none⟩ = some (.slice (some ⟨(ss.getD i Seg.zero).g, (ss.getD i Seg.zero).off, none⟩) (ss.getD i Seg.zero).ms.length (ss.getD i Seg.zero).cap) ∧ RM w (some ⟨(ss.getD i Seg.zero).g, (ss.getD i Seg.zero).off, none⟩) (ss.getD i Seg.zero).ms
theorem Segs.below {w w' : World} {h : Nat} {ss : List Seg} (hs : Segs w h ss) (hb : Below w.heap.size w w') : Segs w' h ss := fun i hi => by
  obtain ⟨h1, h2⟩ := hs i hi
  exact ⟨(hb.cell (p := ⟨h, i, none⟩) (World.block_lt_of_cell? _ _ h1)).trans h1, h2.below hb⟩
end Tp
end Go.Proofs.YtiipppfkpgbpeaaGreat
namespace Go.Proofs.YtiipppfkpgbpeaaGreat
namespace Rl
variable {P : Program} {ops : Array Oper} {Q : Exit → Act → World → Prop} {md : Region.Mode} {S T : World → Prop} {k : Nat}
/-- Whatever order is picked from here on, S holds behind every operation that is carried out, and T as long as k has not come up. -/
def wpAnyL (P : Program) (md : Region.Mode) (ops : Array Oper) (Q : Exit → Act → World → Prop) (S T : World → Prop) (k : Nat) : Nat → Array Bool → Act → World → Prop
  | 0, listed, a, w => Region.ready md ops listed = [] ∧ Q .normal a w
  | fuel + 1, listed, a, w =>
    (Region.ready md ops listed = [] → Q .normal a w) ∧
    ∀ i ∈ Region.ready md ops listed, wpOp P ops Q i (fun a' w' => (S w' ∧ ((listed.setIfInBounds i true).getD k true = false → T w')) ∧ wpAnyL P md ops Q S T k fuel (listed.setIfInBounds i true) a' w') a w
theorem wpAny_of : ∀ (fuel : Nat) (listed : Array Bool) (a : Act) (w : World), wpAnyL P md ops Q S T k fuel listed a w → wpAny P md ops Q fuel listed a w
  | 0, _, _, _, h => h
  | fuel + 1, _, _, _, h => ⟨h.1, fun i hi => wpOp_mono (fun a' w' h' => wpAny_of fuel _ a' w' h'.2) (h.2 i hi)⟩
theorem first {i : Nat} {oi ok : Oper} {v : Value} (hi : ops[i]? = some oi) (hk : ops[k]? = some ok) (hki : k ≠ i) (hsel : ∀ (j : Nat) (o : Oper) cs b, ops[j]? = some o → o.op ≠ .select cs b)
    (hwait : ∃ e ∈ ok.after, Region.binds md e = true ∧ e.on = i)
    (hQ : ∀ c a w, Q (.panic c) (a.put oi.dst v) w → Q (.panic c) a w) :
    ∀ (fuel : Nat) (listed : Array Bool) (a : Act) (w : World),
      (∀ j oj, ops[j]? = some oj → j ≠ i → listed.getD j true = false → (∀ e ∈ oj.after, Region.binds md e = true → e.on ≠ i) → oi.apart ops oj = true) →
      i ∈ Region.ready md ops listed → YieldsIf P ops (fun w => S w ∧ T w) oi v a → listed.getD k true = false → S w ∧ T w →
      wpAnyL P md ops Q S T k fuel (listed.setIfInBounds i true) (a.put oi.dst v) w → wpAnyL P md ops Q S T k (fuel + 1) listed a w := by
  intro fuel
  induction fuel with
  | zero =>
    intro listed a w _ hr hy hlk hS H
    refine ⟨fun h => (by rw [h] at hr; cases hr), fun j hj => ?_⟩
    by_cases hji : j = i
    · subst hji; exact hy.wpOp hi hS ⟨⟨hS.1, fun _ => hS.2⟩, H⟩
    · have := ready_mono hj hji
      rw [H.1] at this
      cases this
  | succ fuel ih =>
    intro listed a w hfree hr hy hlk hS H
    refine ⟨fun h => (by rw [h] at hr; cases hr), fun j hj => ?_⟩
    by_cases hji : j = i
    · subst hji; exact hy.wpOp hi hS ⟨⟨hS.1, fun _ => hS.2⟩, H⟩
    · have h1 := H.2 j (ready_mono hj hji)
      obtain ⟨hjun, oj, hoj, hall⟩ := mem_ready.1 hj
      have hnot : ∀ e ∈ oj.after, Region.binds md e = true → e.on ≠ i := fun e he hb heq => by
        have h1 := hall e he hb
        have h0 := (mem_ready.1 hr).1
        rw [heq] at h1
        rcases Nat.lt_or_ge i listed.size with h' | h'
        · simp [h'] at h0 h1; rw [h0] at h1; cases h1
        · simp [Array.getElem?_eq_none h'] at h1
      have hjk : j ≠ k := fun e => by
        subst e
        rw [hk] at hoj; cases hoj
        obtain ⟨e, he, hb, hon⟩ := hwait
        exact hnot e he hb hon
      have hlj : (listed.setIfInBounds j true).getD k true = false := by rw [getD_set_ne true hjk]; exact hlk
      have hlij : ((listed.setIfInBounds i true).setIfInBounds j true).getD k true = false := by rw [getD_set_ne true hjk, getD_set_ne true (Ne.symm hki)]; exact hlk
      have h2 := wpOp_putIf hoj (hfree j oj hoj hji hjun hnot) (fun cs b => hsel i oi cs b hi) (fun cs b => hsel j oj cs b hoj) hQ hy h1
      have hfree' : ∀ k ok, ops[k]? = some ok → k ≠ i → (listed.setIfInBounds j true).getD k true = false →
          (∀ e ∈ ok.after, Region.binds md e = true → e.on ≠ i) → oi.apart ops ok = true := fun k ok hk hki hun hno => by
        refine hfree k ok hk hki ?_ hno
        by_cases hjk : j = k
        · subst hjk; exact hjun
        · rw [getD_set_ne true hjk] at hun; exact hun
      refine wpOp_mono (fun a' w' h3 => ⟨⟨h3.2.1.1, fun _ => h3.2.1.2 hlij⟩, ih (listed.setIfInBounds j true) a' w' hfree' (ready_mono hr (Ne.symm hji)) h3.1 hlj ⟨h3.2.1.1, h3.2.1.2 hlij⟩ ?_⟩) h2
      rw [Array.setIfInBounds_comm _ _ hji]
      exact h3.2.2
/-- Whether operation k waits for i. -/
def waits (md : Region.Mode) (ops : Array Oper) (k i : Nat) : Bool := match ops[k]? with | some ok => ok.after.any (fun e => Region.binds md e && e.on == i) | none => false
theorem waits_spec {i : Nat} (h : waits md ops k i = true) : ∃ ok, ops[k]? = some ok ∧ ∃ e ∈ ok.after, Region.binds md e = true ∧ e.on = i := by
  unfold waits at h
  split at h
  · rename_i ok ho
    obtain ⟨e, he, hh⟩ := Array.any_eq_true'.1 h
    rw [Bool.and_eq_true] at hh
    exact ⟨ok, ho, e, he, hh.1, by simpa using hh.2⟩
  · cases h
/-- Take number i first, into slot d. -/
theorem tk {i d : Nat} {oi : Oper} {v : Value} {fuel : Nat} {listed : Array Bool} {a : Act} {w : World} (hi : ops[i]? = some oi) (hd : oi.dst = some d)
    (hs : Region.noSelect ops = true) (hf : Region.free md ops listed i = true) (hr : (Region.ready md ops listed).contains i = true) (hw : waits md ops k i = true) (hki : (k == i) = false) (hlk : listed.getD k true = false)
    (hQ : ∀ c a w, Q (.panic c) (a.put oi.dst v) w → Q (.panic c) a w) (hy : Region.wanted oi (yielded ops a.tmps) = true) (hv : ∀ w, S w ∧ T w → (execOp a.eval oi).run P w = .ok (.value v) w) (hS : S w ∧ T w)
    (h : wpAnyL P md ops Q S T k fuel (listed.setIfInBounds i true) (a.put (some d) v) w) : wpAnyL P md ops Q S T k (fuel + 1) listed a w := by
  obtain ⟨ok, hok, hwt⟩ := waits_spec hw
  exact first hi hok (fun e => by subst e; simp at hki) (Region.noSelect_spec hs) hwt hQ fuel listed a w (Region.free_spec hi hf) (by simpa using hr) (.inl ⟨hy, hv⟩) hlk hS (by rw [hd]; exact h)
/-- What yields under S alone may be taken first whether k waits for it or not. -/
theorem firstS {i : Nat} {oi : Oper} {v : Value} (hi : ops[i]? = some oi) (hki : k ≠ i) (hsel : ∀ (j : Nat) (o : Oper) cs b, ops[j]? = some o → o.op ≠ .select cs b)
    (hQ : ∀ c a w, Q (.panic c) (a.put oi.dst v) w → Q (.panic c) a w) :
    ∀ (fuel : Nat) (listed : Array Bool) (a : Act) (w : World),
      (∀ j oj, ops[j]? = some oj → j ≠ i → listed.getD j true = false → (∀ e ∈ oj.after, Region.binds md e = true → e.on ≠ i) → oi.apart ops oj = true) →
      i ∈ Region.ready md ops listed → YieldsIf P ops S oi v a → S w ∧ (listed.getD k true = false → T w) →
      wpAnyL P md ops Q S T k fuel (listed.setIfInBounds i true) (a.put oi.dst v) w → wpAnyL P md ops Q S T k (fuel + 1) listed a w := by
  intro fuel
  induction fuel with
  | zero =>
    intro listed a w _ hr hy hS H
    refine ⟨fun h => (by rw [h] at hr; cases hr), fun j hj => ?_⟩
    by_cases hji : j = i
    · subst hji; exact hy.wpOp hi hS.1 ⟨⟨hS.1, fun h => hS.2 (by rw [getD_set_ne true (Ne.symm hki)] at h; exact h)⟩, H⟩
    · have := ready_mono hj hji
      rw [H.1] at this
      cases this
  | succ fuel ih =>
    intro listed a w hfree hr hy hS H
    refine ⟨fun h => (by rw [h] at hr; cases hr), fun j hj => ?_⟩
    by_cases hji : j = i
    · subst hji; exact hy.wpOp hi hS.1 ⟨⟨hS.1, fun h => hS.2 (by rw [getD_set_ne true (Ne.symm hki)] at h; exact h)⟩, H⟩
    · have h1 := H.2 j (ready_mono hj hji)
      obtain ⟨hjun, oj, hoj, hall⟩ := mem_ready.1 hj
      have hnot : ∀ e ∈ oj.after, Region.binds md e = true → e.on ≠ i := fun e he hb heq => by
        have h1 := hall e he hb
        have h0 := (mem_ready.1 hr).1
        rw [heq] at h1
        rcases Nat.lt_or_ge i listed.size with h' | h'
        · simp [h'] at h0 h1; rw [h0] at h1; cases h1
        · simp [Array.getElem?_eq_none h'] at h1
      have hsame : ((listed.setIfInBounds i true).setIfInBounds j true).getD k true = (listed.setIfInBounds j true).getD k true := by rw [Array.setIfInBounds_comm _ _ (Ne.symm hji), getD_set_ne true (Ne.symm hki)]
      have h2 := wpOp_putIf hoj (hfree j oj hoj hji hjun hnot) (fun cs b => hsel i oi cs b hi) (fun cs b => hsel j oj cs b hoj) hQ hy h1
      have hfree' : ∀ k ok, ops[k]? = some ok → k ≠ i → (listed.setIfInBounds j true).getD k true = false →
          (∀ e ∈ ok.after, Region.binds md e = true → e.on ≠ i) → oi.apart ops ok = true := fun k ok hk hki hun hno => by
        refine hfree k ok hk hki ?_ hno
        by_cases hjk : j = k
        · subst hjk; exact hjun
        · rw [getD_set_ne true hjk] at hun; exact hun
      refine wpOp_mono (fun a' w' h3 => ⟨⟨h3.2.1.1, fun h => h3.2.1.2 (hsame.trans h)⟩, ih (listed.setIfInBounds j true) a' w' hfree' (ready_mono hr (Ne.symm hji)) h3.1 ⟨h3.2.1.1, fun h => h3.2.1.2 (hsame.trans h)⟩ ?_⟩) h2
      rw [Array.setIfInBounds_comm _ _ hji]
      exact h3.2.2
theorem tkS {i d : Nat} {oi : Oper} {v : Value} {fuel : Nat} {listed : Array Bool} {a : Act} {w : World} (hi : ops[i]? = some oi) (hd : oi.dst = some d)
    (hs : Region.noSelect ops = true) (hf : Region.free md ops listed i = true) (hr : (Region.ready md ops listed).contains i = true) (hki : (k == i) = false)
    (hQ : ∀ c a w, Q (.panic c) (a.put oi.dst v) w → Q (.panic c) a w) (hy : Region.wanted oi (yielded ops a.tmps) = true) (hv : ∀ w, S w → (execOp a.eval oi).run P w = .ok (.value v) w) (hS : S w ∧ T w)
    (h : wpAnyL P md ops Q S T k fuel (listed.setIfInBounds i true) (a.put (some d) v) w) : wpAnyL P md ops Q S T k (fuel + 1) listed a w :=
  firstS hi (fun e => by subst e; simp at hki) (Region.noSelect_spec hs) hQ fuel listed a w (Region.free_spec hi hf) (by simpa using hr) (.inl ⟨hy, hv⟩) ⟨hS.1, fun _ => hS.2⟩ (by rw [hd]; exact h)
/-- Each of the operations rs comes up next. -/
def AllReadyL (P : Program) (md : Region.Mode) (ops : Array Oper) (Q : Exit → Act → World → Prop) (S T : World → Prop) (k : Nat) (fuel : Nat) (listed : Array Bool) (a : Act) (w : World) (rs : List Nat) : Prop :=
  ∀ i ∈ rs, wpOp P ops Q i (fun a' w' => (S w' ∧ ((listed.setIfInBounds i true).getD k true = false → T w')) ∧ wpAnyL P md ops Q S T k fuel (listed.setIfInBounds i true) a' w') a w
theorem AllReadyL.nil {fuel : Nat} {listed : Array Bool} {a : Act} {w : World} : AllReadyL P md ops Q S T k fuel listed a w [] := fun _ h => by cases h
theorem AllReadyL.cons {fuel : Nat} {listed : Array Bool} {a : Act} {w : World} {i : Nat} {o : Oper} {rs : List Nat} (ho : ops[i]? = some o) (hik : (i == k) = false)
    (h : ∀ K' : Act → World → Prop, Shut (∀ a w, S w ∧ T w → (S w ∧ T w → wpAnyL P md ops Q S T k fuel (listed.setIfInBounds i true) a w) → K' a w) → if Region.wanted o (yielded ops a.tmps) = true then Oper.wp P o a w K' Q else K' (a.put o.dst undef) w)
    (hs : AllReadyL P md ops Q S T k fuel listed a w rs) : AllReadyL P md ops Q S T k fuel listed a w (i :: rs) := fun j hj => by
  rcases List.mem_cons.1 hj with rfl | hj
  · exact wpOp_step ho (fun K' hK => h K' (fun a w hS hW => hK a w ⟨⟨hS.1, fun _ => hS.2⟩, hW hS⟩))
  · exact hs j hj
theorem AllReadyL.last {fuel : Nat} {listed : Array Bool} {a : Act} {w : World} {o : Oper} (ho : ops[k]? = some o) (hlk : (listed.setIfInBounds k true).getD k true = true)
    (h : ∀ K' : Act → World → Prop, Shut (∀ a w, S w → (S w → wpAnyL P md ops Q S T k fuel (listed.setIfInBounds k true) a w) → K' a w) → if Region.wanted o (yielded ops a.tmps) = true then Oper.wp P o a w K' Q else K' (a.put o.dst undef) w) :
    AllReadyL P md ops Q S T k fuel listed a w [k] := fun j hj => by
  rcases List.mem_cons.1 hj with rfl | hj
  · exact wpOp_step ho (fun K' hK => h K' (fun a w hS hW => hK a w ⟨⟨hS, fun e => by rw [hlk] at e; cases e⟩, hW hS⟩))
  · cases hj
theorem ready {rs : List Nat} {fuel : Nat} {listed : Array Bool} {a : Act} {w : World} (hr : Region.ready md ops listed = rs) (hne : rs ≠ [])
    (h : AllReadyL P md ops Q S T k fuel listed a w rs) : wpAnyL P md ops Q S T k (fuel + 1) listed a w :=
  ⟨fun h0 => absurd (hr ▸ h0) hne, hr ▸ h⟩
theorem done {listed : Array Bool} {a : Act} {w : World} (hr : Region.ready md ops listed = []) (h : Q .normal a w) : ∀ fuel, wpAnyL P md ops Q S T k fuel listed a w
  | 0 => ⟨hr, h⟩
  | _ + 1 => ⟨fun _ => h, by rw [hr]; simp⟩
/-- The beginning. -/
theorem drew {id : Nat} {a : Act} {w : World} (k : Nat) (hm : P.follows .mixedOrders = true) (hS : S w.drew ∧ T w.drew)
    (h : S w.drew ∧ T w.drew → wpAnyL P .any ops Q S T k ops.size (Array.replicate ops.size false) a w.drew) : (Code.region id ops true).wp P Q a w :=
  wp_region_any hm (wpAny_of _ _ _ _ (h hS))
end Rl
end Go.Proofs.YtiipppfkpgbpeaaGreat
namespace Go.Proofs.YtiipppfkpgbpeaaGreat
open Go.ChangeShapes Go.WideShapes Go.ChangeAt Go.RowKit
set_option linter.unusedVariables false
set_option linter.unusedSimpArgs false
set_option maxRecDepth 100000
attribute [local go_sem ↓] Go.wp_at_zero Go.wp_at_succ
namespace Rt
open W1
/-- A core's cells: five numbers, seven lists, a number. -/
def cC (x1 x2 x3 x4 x5 : Int) (v1 v2 v3 v4 v5 v6 v7 : Value) (x6 : Int) (v8 : Value) : List Value := [.int .i64 x1, .int .i64 x2, .int .i64 x3, .int .i64 x4, .int .i64 x5, v1, v2, v3, v4, v5, v6, v7, .int .i64 x6, v8]
def ones14 (cs : List Value) : Prop := cs.length = 14 ∧ ∀ v ∈ cs, v.oneCell' = true
theorem cC_ones {x1 x2 x3 x4 x5 : Int} {v1 v2 v3 v4 v5 v6 v7 : Value} {x6 : Int} {v8 : Value} (h1 : v1.oneCell' = true) (h2 : v2.oneCell' = true) (h3 : v3.oneCell' = true) (h4 : v4.oneCell' = true) (h5 : v5.oneCell' = true) (h6 : v6.oneCell' = true) (h7 : v7.oneCell' = true) (h8 : v8.oneCell' = true) : ones14 (cC x1 x2 x3 x4 x5 v1 v2 v3 v4 v5 v6 v7 x6 v8) := by
  refine ⟨rfl, ?_⟩
  intro v hv
  unfold cC at hv
  simp only [List.mem_cons, List.not_mem_nil, or_false] at hv
  rcases hv with rfl | rfl | rfl | rfl | rfl | rfl | rfl | rfl | rfl | rfl | rfl | rfl | rfl | rfl <;> first | rfl | assumption
def CA (w : World) (b : Nat) (cs : List Value) : Prop := w.rangeAt b 0 cs ∧ w.there b 0 14 ∧ cs.length = 14
theorem CA.at {w : World} {b : Nat} {cs : List Value} (h : CA w b cs) {i : Nat} {v : Value} (hi : cs[i]? = some v) : w.cell? ⟨b, i, none⟩ = some v := by
  have := h.1 i v hi; rwa [Nat.zero_add] at this
theorem CA.lt {w : World} {b : Nat} {cs : List Value} (h : CA w b cs) : b < w.heap.size := by
  obtain ⟨u, hu⟩ := Option.isSome_iff_exists.1 (h.2.1 0 (by omega)).1
  exact World.block_lt_of_cell? _ _ hu
theorem CA.free {w : World} {b : Nat} {cs : List Value} (h : CA w b cs) {i : Nat} (hi : i < 14) : w.frozen? ⟨b, i, none⟩ = false := by
  have := (h.2.1 i hi).2; rwa [Nat.zero_add] at this
theorem CA.under {w w' : World} {B b : Nat} {cs : List Value} (h : CA w b cs) (hb : Below B w w') (hg : b < B) : CA w' b cs :=
  ⟨fun j v hv => (hb.cell (p := ⟨b, 0 + j, none⟩) hg).trans (h.1 j v hv), fun j hj => ⟨by rw [hb.cell (p := ⟨b, 0 + j, none⟩) hg]; exact (h.2.1 j hj).1, by rw [hb.frozen (p := ⟨b, 0 + j, none⟩) hg]; exact (h.2.1 j hj).2⟩, h.2.2⟩
theorem CA.below {w w' : World} {b : Nat} {cs : List Value} (h : CA w b cs) (hb : Below w.heap.size w w') : CA w' b cs := h.under hb h.lt
theorem CA.drew {w : World} {b : Nat} {cs : List Value} (h : CA w b cs) : CA w.drew b cs := h
theorem CA.set {w : World} {b : Nat} {cs : List Value} (h : CA w b cs) {k : Nat} (hk : k < 14) (v : Value) : CA (w.setCell ⟨b, k, none⟩ v) b (cs.set k v) := ⟨range_set h.1 (by rw [h.2.2]; exact hk), there_set h.2.1, by rw [List.length_set]; exact h.2.2⟩
theorem infoC : Tryz.prog.underlying 78 = some (Tryz.prog.underlying 78).get! ∧ ((Tryz.prog.underlying 78).get!).isRow = true ∧ (Tryz.prog.info? 78).map (·.size) = some 14 := ⟨by kernel_rfl, by kernel_rfl, by kernel_rfl⟩
/-- A core is written whole. -/
theorem wpList_storeC {ops : Array Oper} {rest : List Oper} {op : Oper} {a : Act} {w : World} {Q : Exit → Act → World → Prop} (x y : Operand) (hgd : op.guard = none) (ho : op.op = .store 78 x y) {b : Nat} (cs : List Value) (h14 : ones14 cs) (hx : a.eval x = .pointer (some ⟨b, 0, none⟩)) (hy : a.eval y = .agg cs.toArray) (ht : w.there b 0 14)
    (hk : ∀ w', CA w' b cs → (∀ B w0, Below B w0 w → B ≤ b → Below B w0 w') → w'.heap.size = w.heap.size → wpList Tryz.prog ops Q rest (a.put op.dst undef) w') : wpList Tryz.prog ops Q (op :: rest) a w := by
  have ht' : w.there b 0 cs.length := h14.1.symm ▸ ht
  exact wpList_store_mid hgd 78 x y ho b 0 cs.toArray hx hy (by simpa using ht') (by simpa [h14.1] using infoC.2.2) (all_oneCell_toArray h14.2) (hk _ ⟨World.rangeAt_setCells_same w b 0 _ ht', there_cells _ _ _ ht, h14.1⟩ (fun B w0 h hb => below_cells hb _ _ _ h) (size_cells _ _ _))
/-- The same, with all other blocks as they were. -/
theorem wpList_storeC2 {ops : Array Oper} {rest : List Oper} {op : Oper} {a : Act} {w : World} {Q : Exit → Act → World → Prop} (x y : Operand) (hgd : op.guard = none) (ho : op.op = .store 78 x y) {b : Nat} (cs : List Value) (h14 : ones14 cs) (hx : a.eval x = .pointer (some ⟨b, 0, none⟩)) (hy : a.eval y = .agg cs.toArray) (ht : w.there b 0 14)
    (hk : ∀ w', CA w' b cs → (∀ B w0, Below B w0 w → B ≤ b → Below B w0 w') → w'.heap.size = w.heap.size → (∀ k, k ≠ b → w'.heap[k]? = w.heap[k]?) → wpList Tryz.prog ops Q rest (a.put op.dst undef) w') : wpList Tryz.prog ops Q (op :: rest) a w := by
  have ht' : w.there b 0 cs.length := h14.1.symm ▸ ht
  exact wpList_store_mid hgd 78 x y ho b 0 cs.toArray hx hy (by simpa using ht') (by simpa [h14.1] using infoC.2.2) (all_oneCell_toArray h14.2) (hk _ ⟨World.rangeAt_setCells_same w b 0 _ ht', there_cells _ _ _ ht, h14.1⟩ (fun B w0 h hb => below_cells hb _ _ _ h) (size_cells _ _ _) (fun k hk => heap_cells hk _ _ _))
/-- A core handed back, alone or with a number. -/
theorem resultsC {fn : Func} {p : Tmp} (h : fn.results = #[.cell p 78]) (tmps : Array Value) (w : World) {b : Nat} {cs : List Value} (hp : tmps.getD p undef = .pointer (some ⟨b, 0, none⟩)) (hg : CA w b cs) : (results fn tmps).run Tryz.prog w = .ok (.agg cs.toArray) w := by
  have hp' : tmps[p]?.getD undef = .pointer (some ⟨b, 0, none⟩) := by simpa using hp
  simp only [results, h]
  simp [Sem.run_bind, hp', asAddr, run_loadVar_mid w b 0 78 cs _ hg.1 infoC.1 infoC.2.1 (hg.2.2 ▸ infoC.2.2), Result.andThen]
theorem ca_new (w : World) (cs : List Value) (h14 : cs.length = 14) (t : Nat) : CA (w.alloc (.cells cs.toArray t)) w.heap.size cs := by
  have hb : (w.alloc (.cells cs.toArray t)).heap[w.heap.size]? = some (.cells cs.toArray t) := heap_alloc_last w _
  refine ⟨fun j v hv => ?_, fun j hj => ⟨?_, ?_⟩, h14⟩
  · rw [Nat.zero_add]
    unfold World.cell?
    simp only [hb]
    simpa using hv
  · rw [Nat.zero_add]
    unfold World.cell?
    simp only [hb]
    simp [h14, hj]
  · unfold World.frozen?
    simp only [hb]
    simp
theorem CA.other {w : World} {b : Nat} {cs : List Value} (h : CA w b cs) {p : Addr} (hne : b ≠ p.block) (v : Value) : CA (w.setCell p v) b cs := by
  have hb : (w.setCell p v).heap[b]? = w.heap[b]? := Below.heap_setCell _ _ _ _ hne
  refine ⟨fun j u hu => ?_, fun j hj => ⟨?_, ?_⟩, h.2.2⟩
  · exact (World.cell?_of_block (a := ⟨b, 0 + j, none⟩) hb).trans (h.1 j u hu)
  · rw [World.cell?_of_block (a := ⟨b, 0 + j, none⟩) hb]; exact (h.2.1 j hj).1
  · rw [World.frozen?_setCell]; exact (h.2.1 j hj).2
theorem copyE (g off : Nat) (ms : List Ed.R) (cap n : Nat) (w : World) (hn : ms.length = n) (hm : ms.length ≤ 4096) (hr : Ed.RM w (some ⟨g, off, none⟩) ms) :
    Calls Tryz.prog 109 #[.slice (some ⟨g, off, none⟩) n cap] w fun e w' => ∃ v, e = .returned v ∧ Below w.heap.size w w' ∧ Ed.LstV w' v ms w.heap.size w'.heap.size := by
  have HR := hide hr
  have O0 := hide (Ed.own_nil w w.heap.size)
  clear hr
  go_enter Tryz.func109, Tryz.ntmps109
  go_wp2_with (at_builtin; refine Ed.wpList_apS (unhide O0) g off n cap ms hn (unhide HR) (by simp; omega) (by simp) rfl _ _ rfl rfl rfl ?_; intro v' w' ho hg; have HL := hide (Ed.lst_own rfl ho); have HB := hide (Ed.below_own (Below.refl _ _) (unhide O0) hg (Nat.le_refl _) (Nat.le_refl _)); clear ho hg)
  go_ret
  exact ⟨_, rfl, unhide HB, unhide HL⟩
theorem copyL (g off : Nat) (ms : List Lk.R) (cap n : Nat) (w : World) (hn : ms.length = n) (hm : ms.length ≤ 4096) (hr : Lk.RM w (some ⟨g, off, none⟩) ms) :
    Calls Tryz.prog 106 #[.slice (some ⟨g, off, none⟩) n cap] w fun e w' => ∃ v, e = .returned v ∧ Below w.heap.size w w' ∧ Lk.LstV w' v ms w.heap.size w'.heap.size := by
  have HR := hide hr
  have O0 := hide (Lk.own_nil w w.heap.size)
  clear hr
  go_enter Tryz.func106, Tryz.ntmps106
  go_wp2_with (at_builtin; refine Lk.wpList_apS (unhide O0) g off n cap ms hn (unhide HR) (by simp; omega) (by simp) rfl _ _ rfl rfl rfl ?_; intro v' w' ho hg; have HL := hide (Lk.lst_own rfl ho); have HB := hide (Lk.below_own (Below.refl _ _) (unhide O0) hg (Nat.le_refl _) (Nat.le_refl _)); clear ho hg)
  go_ret
  exact ⟨_, rfl, unhide HB, unhide HL⟩
set_option maxHeartbeats 16000000 in
theorem coreOf (x1 x2 x3 x4 x5 x6 : Int) (h1 h2 h3 h4 h5 h6 h7 : Nat) (c1 c2 c3 c4 c5 c6 c7 : Nat) (ls : List Lk.R) (tw : List Tu.R) (se : List Tu.R) (du : List Tu.R) (ss : List So.R) (es : List Tu.R) (la : List Ed.R) (w : World) (hm1 : ls.length ≤ 4096) (hm2 : tw.length ≤ 4096) (hm3 : se.length ≤ 4096) (hm4 : du.length ≤ 4096) (hm5 : ss.length ≤ 4096) (hm6 : es.length ≤ 4096) (hm7 : la.length ≤ 4096) (hr1 : Lk.RM w (some ⟨h1, 0, none⟩) ls) (hr2 : Tu.RM w (some ⟨h2, 0, none⟩) tw) (hr3 : Tu.RM w (some ⟨h3, 0, none⟩) se) (hr4 : Tu.RM w (some ⟨h4, 0, none⟩) du) (hr5 : So.RM w (some ⟨h5, 0, none⟩) ss) (hr6 : Tu.RM w (some ⟨h6, 0, none⟩) es) (hr7 : Ed.RM w (some ⟨h7, 0, none⟩) la) :
    Calls Tryz.prog 42 #[.agg #[.int .i64 x1, .int .i64 x2, .int .i64 x3, .int .i64 x4, .int .i64 x5, .slice (some ⟨h1, 0, none⟩) ls.length c1, .slice (some ⟨h2, 0, none⟩) tw.length c2, .slice (some ⟨h3, 0, none⟩) se.length c3, .slice (some ⟨h4, 0, none⟩) du.length c4, .slice (some ⟨h5, 0, none⟩) ss.length c5, .slice (some ⟨h6, 0, none⟩) es.length c6, .slice (some ⟨h7, 0, none⟩) la.length c7, .int .i64 x6]] w fun e w' => ∃ a1 a2 a3 a4 a5 a6 a7 d1 d2 d3 d4 d5 d6 d7, e = .returned (.agg (cC x1 x2 x3 x4 x5 (.slice a1 ls.length d1) (.slice a2 tw.length d2) (.slice a3 se.length d3) (.slice a4 du.length d4) (.slice a5 ss.length d5) (.slice a6 es.length d6) (.slice a7 la.length d7) x6 (.slice none 0 0)).toArray) ∧ Below w.heap.size w w' ∧ RL w' w.heap.size w'.heap.size a1 a2 a3 a4 a5 a6 a7 ls tw se du ss es la := by
  have HA1 : Hid (Below w.heap.size w (w.alloc (.cells #[.int .i64 x1, .int .i64 x2, .int .i64 x3, .int .i64 x4, .int .i64 x5, .slice (some ⟨h1, 0, none⟩) ls.length c1, .slice (some ⟨h2, 0, none⟩) tw.length c2, .slice (some ⟨h3, 0, none⟩) se.length c3, .slice (some ⟨h4, 0, none⟩) du.length c4, .slice (some ⟨h5, 0, none⟩) ss.length c5, .slice (some ⟨h6, 0, none⟩) es.length c6, .slice (some ⟨h7, 0, none⟩) la.length c7, .int .i64 x6] 38))) := hide ((Below.refl _ _).alloc (Nat.le_refl _) _)
  have HB0 : Hid (Below w.heap.size w ((w.alloc (.cells #[.int .i64 x1, .int .i64 x2, .int .i64 x3, .int .i64 x4, .int .i64 x5, .slice (some ⟨h1, 0, none⟩) ls.length c1, .slice (some ⟨h2, 0, none⟩) tw.length c2, .slice (some ⟨h3, 0, none⟩) se.length c3, .slice (some ⟨h4, 0, none⟩) du.length c4, .slice (some ⟨h5, 0, none⟩) ss.length c5, .slice (some ⟨h6, 0, none⟩) es.length c6, .slice (some ⟨h7, 0, none⟩) la.length c7, .int .i64 x6] 38)).alloc (.cells #[.int .i64 0, .int .i64 0, .int .i64 0, .int .i64 0, .int .i64 0, .slice none 0 0, .slice none 0 0, .slice none 0 0, .slice none 0 0, .slice none 0 0, .slice none 0 0, .slice none 0 0, .int .i64 0, .slice none 0 0] 78))) := hide ((unhide HA1).alloc (unhide HA1).size _)
  have HX0 : Hid (RA ((w.alloc (.cells #[.int .i64 x1, .int .i64 x2, .int .i64 x3, .int .i64 x4, .int .i64 x5, .slice (some ⟨h1, 0, none⟩) ls.length c1, .slice (some ⟨h2, 0, none⟩) tw.length c2, .slice (some ⟨h3, 0, none⟩) se.length c3, .slice (some ⟨h4, 0, none⟩) du.length c4, .slice (some ⟨h5, 0, none⟩) ss.length c5, .slice (some ⟨h6, 0, none⟩) es.length c6, .slice (some ⟨h7, 0, none⟩) la.length c7, .int .i64 x6] 38)).alloc (.cells #[.int .i64 0, .int .i64 0, .int .i64 0, .int .i64 0, .int .i64 0, .slice none 0 0, .slice none 0 0, .slice none 0 0, .slice none 0 0, .slice none 0 0, .slice none 0 0, .slice none 0 0, .int .i64 0, .slice none 0 0] 78)) w.heap.size (rC x1 x2 x3 x4 x5 (.slice (some ⟨h1, 0, none⟩) ls.length c1) (.slice (some ⟨h2, 0, none⟩) tw.length c2) (.slice (some ⟨h3, 0, none⟩) se.length c3) (.slice (some ⟨h4, 0, none⟩) du.length c4) (.slice (some ⟨h5, 0, none⟩) ss.length c5) (.slice (some ⟨h6, 0, none⟩) es.length c6) (.slice (some ⟨h7, 0, none⟩) la.length c7) x6)) := hide ((ra_new w _ rfl _).below ((Below.refl _ _).alloc (Nat.le_refl _) _))
  have HZ0 : Hid (CA ((w.alloc (.cells #[.int .i64 x1, .int .i64 x2, .int .i64 x3, .int .i64 x4, .int .i64 x5, .slice (some ⟨h1, 0, none⟩) ls.length c1, .slice (some ⟨h2, 0, none⟩) tw.length c2, .slice (some ⟨h3, 0, none⟩) se.length c3, .slice (some ⟨h4, 0, none⟩) du.length c4, .slice (some ⟨h5, 0, none⟩) ss.length c5, .slice (some ⟨h6, 0, none⟩) es.length c6, .slice (some ⟨h7, 0, none⟩) la.length c7, .int .i64 x6] 38)).alloc (.cells #[.int .i64 0, .int .i64 0, .int .i64 0, .int .i64 0, .int .i64 0, .slice none 0 0, .slice none 0 0, .slice none 0 0, .slice none 0 0, .slice none 0 0, .slice none 0 0, .slice none 0 0, .int .i64 0, .slice none 0 0] 78)) (w.heap.size + 1) (cC 0 0 0 0 0 (.slice none 0 0) (.slice none 0 0) (.slice none 0 0) (.slice none 0 0) (.slice none 0 0) (.slice none 0 0) (.slice none 0 0) 0 (.slice none 0 0))) := hide (by have := ca_new (w.alloc (.cells #[.int .i64 x1, .int .i64 x2, .int .i64 x3, .int .i64 x4, .int .i64 x5, .slice (some ⟨h1, 0, none⟩) ls.length c1, .slice (some ⟨h2, 0, none⟩) tw.length c2, .slice (some ⟨h3, 0, none⟩) se.length c3, .slice (some ⟨h4, 0, none⟩) du.length c4, .slice (some ⟨h5, 0, none⟩) ss.length c5, .slice (some ⟨h6, 0, none⟩) es.length c6, .slice (some ⟨h7, 0, none⟩) la.length c7, .int .i64 x6] 38)) (cC 0 0 0 0 0 (.slice none 0 0) (.slice none 0 0) (.slice none 0 0) (.slice none 0 0) (.slice none 0 0) (.slice none 0 0) (.slice none 0 0) 0 (.slice none 0 0)) rfl 78; rw [show (w.alloc (.cells #[.int .i64 x1, .int .i64 x2, .int .i64 x3, .int .i64 x4, .int .i64 x5, .slice (some ⟨h1, 0, none⟩) ls.length c1, .slice (some ⟨h2, 0, none⟩) tw.length c2, .slice (some ⟨h3, 0, none⟩) se.length c3, .slice (some ⟨h4, 0, none⟩) du.length c4, .slice (some ⟨h5, 0, none⟩) ss.length c5, .slice (some ⟨h6, 0, none⟩) es.length c6, .slice (some ⟨h7, 0, none⟩) la.length c7, .int .i64 x6] 38)).heap.size = w.heap.size + 1 by simp] at this; exact this)
  have hq0 : (((w.alloc (.cells #[.int .i64 x1, .int .i64 x2, .int .i64 x3, .int .i64 x4, .int .i64 x5, .slice (some ⟨h1, 0, none⟩) ls.length c1, .slice (some ⟨h2, 0, none⟩) tw.length c2, .slice (some ⟨h3, 0, none⟩) se.length c3, .slice (some ⟨h4, 0, none⟩) du.length c4, .slice (some ⟨h5, 0, none⟩) ss.length c5, .slice (some ⟨h6, 0, none⟩) es.length c6, .slice (some ⟨h7, 0, none⟩) la.length c7, .int .i64 x6] 38)).alloc (.cells #[.int .i64 0, .int .i64 0, .int .i64 0, .int .i64 0, .int .i64 0, .slice none 0 0, .slice none 0 0, .slice none 0 0, .slice none 0 0, .slice none 0 0, .slice none 0 0, .slice none 0 0, .int .i64 0, .slice none 0 0] 78))).heap.size = w.heap.size + 2 := by simp
  have HR1 := hide hr1
  have HR2 := hide hr2
  have HR3 := hide hr3
  have HR4 := hide hr4
  have HR5 := hide hr5
  have HR6 := hide hr6
  have HR7 := hide hr7
  clear hr1 hr2 hr3 hr4 hr5 hr6 hr7 HA1
  go_enter Tryz.func42, Tryz.ntmps42
  go_wp2_with fail
  generalize hW : ((w.alloc (.cells #[.int .i64 x1, .int .i64 x2, .int .i64 x3, .int .i64 x4, .int .i64 x5, .slice (some ⟨h1, 0, none⟩) ls.length c1, .slice (some ⟨h2, 0, none⟩) tw.length c2, .slice (some ⟨h3, 0, none⟩) se.length c3, .slice (some ⟨h4, 0, none⟩) du.length c4, .slice (some ⟨h5, 0, none⟩) ss.length c5, .slice (some ⟨h6, 0, none⟩) es.length c6, .slice (some ⟨h7, 0, none⟩) la.length c7, .int .i64 x6] 38)).alloc (.cells #[.int .i64 0, .int .i64 0, .int .i64 0, .int .i64 0, .int .i64 0, .slice none 0 0, .slice none 0 0, .slice none 0 0, .slice none 0 0, .slice none 0 0, .slice none 0 0, .slice none 0 0, .int .i64 0, .slice none 0 0] 78)) = V0 at *
  clear hW
  refine (copyL h1 0 ls c1 ls.length _ rfl hm1 ((unhide HR1).below (unhide HB0))).mono ?_
  rintro e V1 ⟨v1, rfl, b1, l1⟩
  obtain ⟨a1, d1, rfl, L1⟩ := l1
  have HB1 := hide ((unhide HB0).trans (b1.mono (unhide HB0).size))
  have HX1 := hide ((unhide HX0).below b1)
  have HZ1 := hide ((unhide HZ0).below b1)
  have hq1 := b1.size
  clear HX0 HZ0 
  have U1_1 := hide L1
  clear L1 b1
  obtain ⟨V2, hV2⟩ : ∃ V, (V1.setCell ⟨w.heap.size, 5, none⟩ (.slice a1 ls.length d1)) = V := ⟨_, rfl⟩
  have HB2 : Hid (Below w.heap.size w V2) := hide (by rw [← hV2]; exact ((unhide HB1).setCell (p := ⟨w.heap.size, 5, none⟩) (Nat.le_refl _) (.slice a1 ls.length d1)))
  have HX2 : Hid (RA V2 w.heap.size (rC x1 x2 x3 x4 x5 (.slice a1 ls.length d1) (.slice (some ⟨h2, 0, none⟩) tw.length c2) (.slice (some ⟨h3, 0, none⟩) se.length c3) (.slice (some ⟨h4, 0, none⟩) du.length c4) (.slice (some ⟨h5, 0, none⟩) ss.length c5) (.slice (some ⟨h6, 0, none⟩) es.length c6) (.slice (some ⟨h7, 0, none⟩) la.length c7) x6)) := hide (by rw [← hV2]; exact (RA.set (unhide HX1) (k := 5) (by omega) (.slice a1 ls.length d1)))
  have HZ2 : Hid (CA V2 (w.heap.size + 1) (cC 0 0 0 0 0 (.slice none 0 0) (.slice none 0 0) (.slice none 0 0) (.slice none 0 0) (.slice none 0 0) (.slice none 0 0) (.slice none 0 0) 0 (.slice none 0 0))) := hide (by rw [← hV2]; exact (CA.other (unhide HZ1) (p := ⟨w.heap.size, 5, none⟩) (by show w.heap.size + 1 ≠ w.heap.size; omega) (.slice a1 ls.length d1)))
  have hq2 : V2.heap.size = V1.heap.size := by rw [← hV2]; simp [World.setCell]
  have hk2 : ∀ k, k < V1.heap.size → k ≠ w.heap.size → V2.heap[k]? = V1.heap[k]? := fun k _ h => by rw [← hV2]; exact (Below.heap_setCell _ _ _ _ h)
  have U1_2 := hide ((unhide U1_1).but (p := fun k => k ≠ w.heap.size) (by omega) hk2 (fun k h1 h2 => by omega))
  have HV2 := hide hV2
  clear hV2 hk2
  have o5 := (unhide HX1).at (i := 5) rfl
  have f5 := (unhide HX1).free (i := 5) (by omega)
  have z6 := (unhide HX1).at (i := 6) rfl
  go_wp2_with fail
  rw [unhide HV2]
  clear o5 f5 z6 HX1 HZ1 U1_1
  refine (St.copied h2 0 tw c2 tw.length _ rfl hm2 ((unhide HR2).below (unhide HB2))).mono ?_
  rintro e V3 ⟨v3, rfl, b3, l3⟩
  obtain ⟨a2, d2, rfl, L3⟩ := l3
  have HB3 := hide ((unhide HB2).trans (b3.mono (unhide HB2).size))
  have HX3 := hide ((unhide HX2).below b3)
  have HZ3 := hide ((unhide HZ2).below b3)
  have U1_3 := hide ((unhide U1_2).below b3)
  have hq3 := b3.size
  clear HX2 HZ2 U1_2
  have U2_3 := hide L3
  clear L3 b3
  obtain ⟨V4, hV4⟩ : ∃ V, (V3.setCell ⟨w.heap.size, 6, none⟩ (.slice a2 tw.length d2)) = V := ⟨_, rfl⟩
  have HB4 : Hid (Below w.heap.size w V4) := hide (by rw [← hV4]; exact ((unhide HB3).setCell (p := ⟨w.heap.size, 6, none⟩) (Nat.le_refl _) (.slice a2 tw.length d2)))
  have HX4 : Hid (RA V4 w.heap.size (rC x1 x2 x3 x4 x5 (.slice a1 ls.length d1) (.slice a2 tw.length d2) (.slice (some ⟨h3, 0, none⟩) se.length c3) (.slice (some ⟨h4, 0, none⟩) du.length c4) (.slice (some ⟨h5, 0, none⟩) ss.length c5) (.slice (some ⟨h6, 0, none⟩) es.length c6) (.slice (some ⟨h7, 0, none⟩) la.length c7) x6)) := hide (by rw [← hV4]; exact (RA.set (unhide HX3) (k := 6) (by omega) (.slice a2 tw.length d2)))
  have HZ4 : Hid (CA V4 (w.heap.size + 1) (cC 0 0 0 0 0 (.slice none 0 0) (.slice none 0 0) (.slice none 0 0) (.slice none 0 0) (.slice none 0 0) (.slice none 0 0) (.slice none 0 0) 0 (.slice none 0 0))) := hide (by rw [← hV4]; exact (CA.other (unhide HZ3) (p := ⟨w.heap.size, 6, none⟩) (by show w.heap.size + 1 ≠ w.heap.size; omega) (.slice a2 tw.length d2)))
  have hq4 : V4.heap.size = V3.heap.size := by rw [← hV4]; simp [World.setCell]
  have hk4 : ∀ k, k < V3.heap.size → k ≠ w.heap.size → V4.heap[k]? = V3.heap[k]? := fun k _ h => by rw [← hV4]; exact (Below.heap_setCell _ _ _ _ h)
  have U1_4 := hide ((unhide U1_3).but (p := fun k => k ≠ w.heap.size) (by omega) hk4 (fun k h1 h2 => by omega))
  have U2_4 := hide ((unhide U2_3).but (p := fun k => k ≠ w.heap.size) (by omega) hk4 (fun k h1 h2 => by omega))
  have HV4 := hide hV4
  clear hV4 hk4
  have o6 := (unhide HX3).at (i := 6) rfl
  have f6 := (unhide HX3).free (i := 6) (by omega)
  have z7 := (unhide HX3).at (i := 7) rfl
  go_wp2_with fail
  rw [unhide HV4]
  clear o6 f6 z7 HX3 HZ3 U1_3 U2_3
  refine (St.copied h3 0 se c3 se.length _ rfl hm3 ((unhide HR3).below (unhide HB4))).mono ?_
  rintro e V5 ⟨v5, rfl, b5, l5⟩
  obtain ⟨a3, d3, rfl, L5⟩ := l5
  have HB5 := hide ((unhide HB4).trans (b5.mono (unhide HB4).size))
  have HX5 := hide ((unhide HX4).below b5)
  have HZ5 := hide ((unhide HZ4).below b5)
  have U1_5 := hide ((unhide U1_4).below b5)
  have U2_5 := hide ((unhide U2_4).below b5)
  have hq5 := b5.size
  clear HX4 HZ4 U1_4 U2_4
  have U3_5 := hide L5
  clear L5 b5
  obtain ⟨V6, hV6⟩ : ∃ V, (V5.setCell ⟨w.heap.size, 7, none⟩ (.slice a3 se.length d3)) = V := ⟨_, rfl⟩
  have HB6 : Hid (Below w.heap.size w V6) := hide (by rw [← hV6]; exact ((unhide HB5).setCell (p := ⟨w.heap.size, 7, none⟩) (Nat.le_refl _) (.slice a3 se.length d3)))
  have HX6 : Hid (RA V6 w.heap.size (rC x1 x2 x3 x4 x5 (.slice a1 ls.length d1) (.slice a2 tw.length d2) (.slice a3 se.length d3) (.slice (some ⟨h4, 0, none⟩) du.length c4) (.slice (some ⟨h5, 0, none⟩) ss.length c5) (.slice (some ⟨h6, 0, none⟩) es.length c6) (.slice (some ⟨h7, 0, none⟩) la.length c7) x6)) := hide (by rw [← hV6]; exact (RA.set (unhide HX5) (k := 7) (by omega) (.slice a3 se.length d3)))
  have HZ6 : Hid (CA V6 (w.heap.size + 1) (cC 0 0 0 0 0 (.slice none 0 0) (.slice none 0 0) (.slice none 0 0) (.slice none 0 0) (.slice none 0 0) (.slice none 0 0) (.slice none 0 0) 0 (.slice none 0 0))) := hide (by rw [← hV6]; exact (CA.other (unhide HZ5) (p := ⟨w.heap.size, 7, none⟩) (by show w.heap.size + 1 ≠ w.heap.size; omega) (.slice a3 se.length d3)))
  have hq6 : V6.heap.size = V5.heap.size := by rw [← hV6]; simp [World.setCell]
  have hk6 : ∀ k, k < V5.heap.size → k ≠ w.heap.size → V6.heap[k]? = V5.heap[k]? := fun k _ h => by rw [← hV6]; exact (Below.heap_setCell _ _ _ _ h)
  have U1_6 := hide ((unhide U1_5).but (p := fun k => k ≠ w.heap.size) (by omega) hk6 (fun k h1 h2 => by omega))
  have U2_6 := hide ((unhide U2_5).but (p := fun k => k ≠ w.heap.size) (by omega) hk6 (fun k h1 h2 => by omega))
  have U3_6 := hide ((unhide U3_5).but (p := fun k => k ≠ w.heap.size) (by omega) hk6 (fun k h1 h2 => by omega))
  have HV6 := hide hV6
  clear hV6 hk6
  have o7 := (unhide HX5).at (i := 7) rfl
  have f7 := (unhide HX5).free (i := 7) (by omega)
  have z8 := (unhide HX5).at (i := 8) rfl
  go_wp2_with fail
  rw [unhide HV6]
  clear o7 f7 z8 HX5 HZ5 U1_5 U2_5 U3_5
  refine (St.copied h4 0 du c4 du.length _ rfl hm4 ((unhide HR4).below (unhide HB6))).mono ?_
  rintro e V7 ⟨v7, rfl, b7, l7⟩
  obtain ⟨a4, d4, rfl, L7⟩ := l7
  have HB7 := hide ((unhide HB6).trans (b7.mono (unhide HB6).size))
  have HX7 := hide ((unhide HX6).below b7)
  have HZ7 := hide ((unhide HZ6).below b7)
  have U1_7 := hide ((unhide U1_6).below b7)
  have U2_7 := hide ((unhide U2_6).below b7)
  have U3_7 := hide ((unhide U3_6).below b7)
  have hq7 := b7.size
  clear HX6 HZ6 U1_6 U2_6 U3_6
  have U4_7 := hide L7
  clear L7 b7
  obtain ⟨V8, hV8⟩ : ∃ V, (V7.setCell ⟨w.heap.size, 8, none⟩ (.slice a4 du.length d4)) = V := ⟨_, rfl⟩
  have HB8 : Hid (Below w.heap.size w V8) := hide (by rw [← hV8]; exact ((unhide HB7).setCell (p := ⟨w.heap.size, 8, none⟩) (Nat.le_refl _) (.slice a4 du.length d4)))
  have HX8 : Hid (RA V8 w.heap.size (rC x1 x2 x3 x4 x5 (.slice a1 ls.length d1) (.slice a2 tw.length d2) (.slice a3 se.length d3) (.slice a4 du.length d4) (.slice (some ⟨h5, 0, none⟩) ss.length c5) (.slice (some ⟨h6, 0, none⟩) es.length c6) (.slice (some ⟨h7, 0, none⟩) la.length c7) x6)) := hide (by rw [← hV8]; exact (RA.set (unhide HX7) (k := 8) (by omega) (.slice a4 du.length d4)))
  have HZ8 : Hid (CA V8 (w.heap.size + 1) (cC 0 0 0 0 0 (.slice none 0 0) (.slice none 0 0) (.slice none 0 0) (.slice none 0 0) (.slice none 0 0) (.slice none 0 0) (.slice none 0 0) 0 (.slice none 0 0))) := hide (by rw [← hV8]; exact (CA.other (unhide HZ7) (p := ⟨w.heap.size, 8, none⟩) (by show w.heap.size + 1 ≠ w.heap.size; omega) (.slice a4 du.length d4)))
  have hq8 : V8.heap.size = V7.heap.size := by rw [← hV8]; simp [World.setCell]
  have hk8 : ∀ k, k < V7.heap.size → k ≠ w.heap.size → V8.heap[k]? = V7.heap[k]? := fun k _ h => by rw [← hV8]; exact (Below.heap_setCell _ _ _ _ h)
  have U1_8 := hide ((unhide U1_7).but (p := fun k => k ≠ w.heap.size) (by omega) hk8 (fun k h1 h2 => by omega))
  have U2_8 := hide ((unhide U2_7).but (p := fun k => k ≠ w.heap.size) (by omega) hk8 (fun k h1 h2 => by omega))
  have U3_8 := hide ((unhide U3_7).but (p := fun k => k ≠ w.heap.size) (by omega) hk8 (fun k h1 h2 => by omega))
  have U4_8 := hide ((unhide U4_7).but (p := fun k => k ≠ w.heap.size) (by omega) hk8 (fun k h1 h2 => by omega))
  have HV8 := hide hV8
  clear hV8 hk8
  have o8 := (unhide HX7).at (i := 8) rfl
  have f8 := (unhide HX7).free (i := 8) (by omega)
  go_wp2_with fail
  rw [unhide HV8]
  clear o8 f8  HX7 HZ7 U1_7 U2_7 U3_7 U4_7
  refine wp_region_noPanic ?_
  refine Rl.drew (S := fun _ => True) (T := fun w' => RA w' w.heap.size (rC x1 x2 x3 x4 x5 (.slice a1 ls.length d1) (.slice a2 tw.length d2) (.slice a3 se.length d3) (.slice a4 du.length d4) (.slice (some ⟨h5, 0, none⟩) ss.length c5) (.slice (some ⟨h6, 0, none⟩) es.length c6) (.slice (some ⟨h7, 0, none⟩) la.length c7) x6) ∧ w'.cell? ⟨w.heap.size, 9, none⟩ = some (.slice (some ⟨h5, 0, none⟩) ss.length c5) ∧ w'.cell? ⟨w.heap.size, 10, none⟩ = some (.slice (some ⟨h6, 0, none⟩) es.length c6)) 10 (by kernel_rfl) ⟨trivial, ⟨(unhide HX8).drew, (unhide HX8).drew.at (i := 9) rfl, (unhide HX8).drew.at (i := 10) rfl⟩⟩ (fun hHeld => ?_)

  (refine Rl.tkS (k := 10) (i := 0) (d := 19) (v := ?_) rfl rfl (by kernel_rfl) (by kernel_rfl) (by kernel_rfl) rfl (fun _ _ _ h => h) (by rfl) ?_ (by assumption) ?_; rotate_left; (focus (intro w0 hSw; (try dsimp only at hSw); go_simp; (try with_reducible rfl))); (try simp only [Act.put, List.setIfInBounds_toArray, List.set_cons_zero, List.set_cons_succ]))
  (refine Rl.tkS (k := 10) (i := 1) (d := 20) (v := ?_) rfl rfl (by kernel_rfl) (by kernel_rfl) (by kernel_rfl) rfl (fun _ _ _ h => h) (by rfl) ?_ (by assumption) ?_; rotate_left; (focus (intro w0 hSw; (try dsimp only at hSw); go_simp; (try with_reducible rfl))); (try simp only [Act.put, List.setIfInBounds_toArray, List.set_cons_zero, List.set_cons_succ]))
  (refine Rl.tk (k := 10) (i := 2) (d := 21) (v := ?_) rfl rfl (by kernel_rfl) (by kernel_rfl) (by kernel_rfl) (by kernel_rfl) rfl (by kernel_rfl) (fun _ _ _ h => h) (by rfl) ?_ (by assumption) ?_; rotate_left; (focus (intro w0 hSw; (try dsimp only at hSw); go_simp; (try with_reducible rfl))); (try simp only [Act.put, List.setIfInBounds_toArray, List.set_cons_zero, List.set_cons_succ]))
  (refine Rl.tkS (k := 10) (i := 4) (d := 23) (v := ?_) rfl rfl (by kernel_rfl) (by kernel_rfl) (by kernel_rfl) rfl (fun _ _ _ h => h) (by rfl) ?_ (by assumption) ?_; rotate_left; (focus (intro w0 hSw; (try dsimp only at hSw); go_simp; (try with_reducible rfl))); (try simp only [Act.put, List.setIfInBounds_toArray, List.set_cons_zero, List.set_cons_succ]))
  (refine Rl.tkS (k := 10) (i := 5) (d := 24) (v := ?_) rfl rfl (by kernel_rfl) (by kernel_rfl) (by kernel_rfl) rfl (fun _ _ _ h => h) (by rfl) ?_ (by assumption) ?_; rotate_left; (focus (intro w0 hSw; (try dsimp only at hSw); go_simp; (try with_reducible rfl))); (try simp only [Act.put, List.setIfInBounds_toArray, List.set_cons_zero, List.set_cons_succ]))
  (refine Rl.tk (k := 10) (i := 6) (d := 25) (v := ?_) rfl rfl (by kernel_rfl) (by kernel_rfl) (by kernel_rfl) (by kernel_rfl) rfl (by kernel_rfl) (fun _ _ _ h => h) (by rfl) ?_ (by assumption) ?_; rotate_left; (focus (intro w0 hSw; (try dsimp only at hSw); go_simp; (try with_reducible rfl))); (try simp only [Act.put, List.setIfInBounds_toArray, List.set_cons_zero, List.set_cons_succ]))
  (refine Rl.ready (rs := [3]) (by kernel_rfl) (by simp) ?_; refine Rl.AllReadyL.cons (o := _) rfl rfl (fun K hK => ?_) Rl.AllReadyL.nil; go_simp)
  refine (Tp.copied h5 0 ss c5 ss.length _ rfl hm5 ((unhide HR5).below (unhide HB8).drew)).mono ?_
  rintro e V9 ⟨v9, rfl, b_, l9⟩
  have b9 : Below V8.heap.size V8 V9 := (Below.refl _ _).drew.trans b_
  obtain ⟨a5, d5, rfl, L9⟩ := l9
  have HB9 := hide ((unhide HB8).trans (b9.mono (unhide HB8).size))
  have HX9 := hide ((unhide HX8).below b9)
  have HZ9 := hide ((unhide HZ8).below b9)
  have U1_9 := hide ((unhide U1_8).below b9)
  have U2_9 := hide ((unhide U2_8).below b9)
  have U3_9 := hide ((unhide U3_8).below b9)
  have U4_9 := hide ((unhide U4_8).below b9)
  have hq9 := b9.size
  clear HX8 HZ8 U1_8 U2_8 U3_8 U4_8
  have U5_9 : Hid (So.Lst V9 a5 ss V8.heap.size V9.heap.size) := hide L9
  clear L9 b9 b_ hHeld
  refine hK.out _ _ ⟨trivial, ⟨(unhide HX9), (unhide HX9).at (i := 9) rfl, (unhide HX9).at (i := 10) rfl⟩⟩ (fun hHeld => ?_)
  clear hK K
  (try simp only [Act.put, List.setIfInBounds_toArray, List.set_cons_zero, List.set_cons_succ])
  (refine Rl.ready (rs := [7]) (by kernel_rfl) (by simp) ?_; refine Rl.AllReadyL.cons (o := _) rfl rfl (fun K hK => ?_) Rl.AllReadyL.nil; go_simp)
  refine (St.copied h6 0 es c6 es.length _ rfl hm6 ((unhide HR6).below (unhide HB9))).mono ?_
  rintro e V10 ⟨v10, rfl, b10, l10⟩
  obtain ⟨a6, d6, rfl, L10⟩ := l10
  have HB10 := hide ((unhide HB9).trans (b10.mono (unhide HB9).size))
  have HX10 := hide ((unhide HX9).below b10)
  have HZ10 := hide ((unhide HZ9).below b10)
  have U1_10 := hide ((unhide U1_9).below b10)
  have U2_10 := hide ((unhide U2_9).below b10)
  have U3_10 := hide ((unhide U3_9).below b10)
  have U4_10 := hide ((unhide U4_9).below b10)
  have U5_10 := hide ((unhide U5_9).below b10)
  have hq10 := b10.size
  clear HX9 HZ9 U1_9 U2_9 U3_9 U4_9 U5_9
  have U6_10 := hide L10
  clear L10 b10 hHeld
  refine hK.out _ _ ⟨trivial, ⟨(unhide HX10), (unhide HX10).at (i := 9) rfl, (unhide HX10).at (i := 10) rfl⟩⟩ (fun hHeld => ?_)
  clear hK K
  (try simp only [Act.put, List.setIfInBounds_toArray, List.set_cons_zero, List.set_cons_succ])
  (refine Rl.tkS (k := 10) (i := 8) (d := 27) (v := ?_) rfl rfl (by kernel_rfl) (by kernel_rfl) (by kernel_rfl) rfl (fun _ _ _ h => h) (by rfl) ?_ (by assumption) ?_; rotate_left; (focus (intro w0 hSw; (try dsimp only at hSw); go_simp; (try with_reducible rfl))); (try simp only [Act.put, List.setIfInBounds_toArray, List.set_cons_zero, List.set_cons_succ]))
  (refine Rl.tkS (k := 10) (i := 9) (d := 28) (v := ?_) rfl rfl (by kernel_rfl) (by kernel_rfl) (by kernel_rfl) rfl (fun _ _ _ h => h) (by rfl) ?_ (by assumption) ?_; rotate_left; (focus (intro w0 hSw; (try dsimp only at hSw); go_simp; (try with_reducible rfl))); (try simp only [Act.put, List.setIfInBounds_toArray, List.set_cons_zero, List.set_cons_succ]))
  obtain ⟨V11, hV11⟩ : ∃ V, ((V10.setCell ⟨w.heap.size, 9, none⟩ (.slice a5 ss.length d5)).setCell ⟨w.heap.size, 10, none⟩ (.slice a6 es.length d6)) = V := ⟨_, rfl⟩
  have HB11 : Hid (Below w.heap.size w V11) := hide (by rw [← hV11]; exact (((unhide HB10).setCell (p := ⟨w.heap.size, 9, none⟩) (Nat.le_refl _) (.slice a5 ss.length d5)).setCell (p := ⟨w.heap.size, 10, none⟩) (Nat.le_refl _) (.slice a6 es.length d6)))
  have HX11 : Hid (RA V11 w.heap.size (rC x1 x2 x3 x4 x5 (.slice a1 ls.length d1) (.slice a2 tw.length d2) (.slice a3 se.length d3) (.slice a4 du.length d4) (.slice a5 ss.length d5) (.slice a6 es.length d6) (.slice (some ⟨h7, 0, none⟩) la.length c7) x6)) := hide (by rw [← hV11]; exact (RA.set (RA.set (unhide HX10) (k := 9) (by omega) (.slice a5 ss.length d5)) (k := 10) (by omega) (.slice a6 es.length d6)))
  have HZ11 : Hid (CA V11 (w.heap.size + 1) (cC 0 0 0 0 0 (.slice none 0 0) (.slice none 0 0) (.slice none 0 0) (.slice none 0 0) (.slice none 0 0) (.slice none 0 0) (.slice none 0 0) 0 (.slice none 0 0))) := hide (by rw [← hV11]; exact (CA.other (CA.other (unhide HZ10) (p := ⟨w.heap.size, 9, none⟩) (by show w.heap.size + 1 ≠ w.heap.size; omega) (.slice a5 ss.length d5)) (p := ⟨w.heap.size, 10, none⟩) (by show w.heap.size + 1 ≠ w.heap.size; omega) (.slice a6 es.length d6)))
  have hq11 : V11.heap.size = V10.heap.size := by rw [← hV11]; simp [World.setCell]
  have hk11 : ∀ k, k < V10.heap.size → k ≠ w.heap.size → V11.heap[k]? = V10.heap[k]? := fun k _ h => by rw [← hV11]; exact ((Below.heap_setCell _ _ _ _ h).trans (Below.heap_setCell _ _ _ _ h))
  have U1_11 := hide ((unhide U1_10).but (p := fun k => k ≠ w.heap.size) (by omega) hk11 (fun k h1 h2 => by omega))
  have U2_11 := hide ((unhide U2_10).but (p := fun k => k ≠ w.heap.size) (by omega) hk11 (fun k h1 h2 => by omega))
  have U3_11 := hide ((unhide U3_10).but (p := fun k => k ≠ w.heap.size) (by omega) hk11 (fun k h1 h2 => by omega))
  have U4_11 := hide ((unhide U4_10).but (p := fun k => k ≠ w.heap.size) (by omega) hk11 (fun k h1 h2 => by omega))
  have U5_11 := hide ((unhide U5_10).but (p := fun k => k ≠ w.heap.size) (by omega) hk11 (fun k h1 h2 => by omega))
  have U6_11 := hide ((unhide U6_10).but (p := fun k => k ≠ w.heap.size) (by omega) hk11 (fun k h1 h2 => by omega))
  have HV11 := hide hV11
  clear hV11 hk11
  have o9 := (unhide HX10).at (i := 9) rfl
  have f9 := (unhide HX10).free (i := 9) (by omega)
  have o10 := (unhide HX10).at (i := 10) rfl
  have f10 := (unhide HX10).free (i := 10) (by omega)
  (refine Rl.ready (rs := [10]) (by kernel_rfl) (by simp) ?_; refine Rl.AllReadyL.last (o := _) rfl (by kernel_rfl) (fun K hK => ?_); go_simp)
  rw [unhide HV11]
  clear o9 f9 o10 f10 hHeld HX10 HZ10 U1_10 U2_10 U3_10 U4_10 U5_10 U6_10
  refine hK.out _ _ trivial (fun hHeld => ?_)
  clear hK K hHeld
  (try simp only [Act.put, List.setIfInBounds_toArray, List.set_cons_zero, List.set_cons_succ])
  refine Rl.done (by kernel_rfl) (NoPanic.normal ?_) _
  have z11 := (unhide HX11).at (i := 11) rfl
  go_wp2_with fail
  clear z11
  refine (copyE h7 0 la c7 la.length _ rfl hm7 ((unhide HR7).below (unhide HB11))).mono ?_
  rintro e V12 ⟨v12, rfl, b12, l12⟩
  obtain ⟨a7, d7, rfl, L12⟩ := l12
  have HB12 := hide ((unhide HB11).trans (b12.mono (unhide HB11).size))
  have HX12 := hide ((unhide HX11).below b12)
  have HZ12 := hide ((unhide HZ11).below b12)
  have U1_12 := hide ((unhide U1_11).below b12)
  have U2_12 := hide ((unhide U2_11).below b12)
  have U3_12 := hide ((unhide U3_11).below b12)
  have U4_12 := hide ((unhide U4_11).below b12)
  have U5_12 := hide ((unhide U5_11).below b12)
  have U6_12 := hide ((unhide U6_11).below b12)
  have hq12 := b12.size
  clear HX11 HZ11 U1_11 U2_11 U3_11 U4_11 U5_11 U6_11
  have U7_12 := hide L12
  clear L12 b12
  obtain ⟨V13, hV13⟩ : ∃ V, (V12.setCell ⟨w.heap.size, 11, none⟩ (.slice a7 la.length d7)) = V := ⟨_, rfl⟩
  have HB13 : Hid (Below w.heap.size w V13) := hide (by rw [← hV13]; exact ((unhide HB12).setCell (p := ⟨w.heap.size, 11, none⟩) (Nat.le_refl _) (.slice a7 la.length d7)))
  have HX13 : Hid (RA V13 w.heap.size (rC x1 x2 x3 x4 x5 (.slice a1 ls.length d1) (.slice a2 tw.length d2) (.slice a3 se.length d3) (.slice a4 du.length d4) (.slice a5 ss.length d5) (.slice a6 es.length d6) (.slice a7 la.length d7) x6)) := hide (by rw [← hV13]; exact (RA.set (unhide HX12) (k := 11) (by omega) (.slice a7 la.length d7)))
  have HZ13 : Hid (CA V13 (w.heap.size + 1) (cC 0 0 0 0 0 (.slice none 0 0) (.slice none 0 0) (.slice none 0 0) (.slice none 0 0) (.slice none 0 0) (.slice none 0 0) (.slice none 0 0) 0 (.slice none 0 0))) := hide (by rw [← hV13]; exact (CA.other (unhide HZ12) (p := ⟨w.heap.size, 11, none⟩) (by show w.heap.size + 1 ≠ w.heap.size; omega) (.slice a7 la.length d7)))
  have hq13 : V13.heap.size = V12.heap.size := by rw [← hV13]; simp [World.setCell]
  have hk13 : ∀ k, k < V12.heap.size → k ≠ w.heap.size → V13.heap[k]? = V12.heap[k]? := fun k _ h => by rw [← hV13]; exact (Below.heap_setCell _ _ _ _ h)
  have U1_13 := hide ((unhide U1_12).but (p := fun k => k ≠ w.heap.size) (by omega) hk13 (fun k h1 h2 => by omega))
  have U2_13 := hide ((unhide U2_12).but (p := fun k => k ≠ w.heap.size) (by omega) hk13 (fun k h1 h2 => by omega))
  have U3_13 := hide ((unhide U3_12).but (p := fun k => k ≠ w.heap.size) (by omega) hk13 (fun k h1 h2 => by omega))
  have U4_13 := hide ((unhide U4_12).but (p := fun k => k ≠ w.heap.size) (by omega) hk13 (fun k h1 h2 => by omega))
  have U5_13 := hide ((unhide U5_12).but (p := fun k => k ≠ w.heap.size) (by omega) hk13 (fun k h1 h2 => by omega))
  have U6_13 := hide ((unhide U6_12).but (p := fun k => k ≠ w.heap.size) (by omega) hk13 (fun k h1 h2 => by omega))
  have U7_13 := hide ((unhide U7_12).but (p := fun k => k ≠ w.heap.size) (by omega) hk13 (fun k h1 h2 => by omega))
  have HV13 := hide hV13
  clear hV13 hk13
  have o11 := (unhide HX12).at (i := 11) rfl
  have f11 := (unhide HX12).free (i := 11) (by omega)
  have HOF : Hid (RA (V12.setCell ⟨w.heap.size, 11, none⟩ (.slice a7 la.length d7)) w.heap.size (rC x1 x2 x3 x4 x5 (.slice a1 ls.length d1) (.slice a2 tw.length d2) (.slice a3 se.length d3) (.slice a4 du.length d4) (.slice a5 ss.length d5) (.slice a6 es.length d6) (.slice a7 la.length d7) x6)) := hide (by rw [unhide HV13]; exact unhide HX13)
  have HZF : Hid ((V12.setCell ⟨w.heap.size, 11, none⟩ (.slice a7 la.length d7)).there (w.heap.size + 1) 0 14) := hide (by rw [unhide HV13]; exact (unhide HZ13).2.1)
  go_wp2_with (first | (refine wpList_loadR (cs := [.int .i64 x1, .int .i64 x2, .int .i64 x3, .int .i64 x4, .int .i64 x5, .slice a1 ls.length d1, .slice a2 tw.length d2, .slice a3 se.length d3, .slice a4 du.length d4, .slice a5 ss.length d5, .slice a6 es.length d6, .slice a7 la.length d7, .int .i64 x6]) _ rfl rfl rfl (unhide HOF) ?_) | (refine wpList_storeC2 _ _ rfl rfl (cC x1 x2 x3 x4 x5 (.slice a1 ls.length d1) (.slice a2 tw.length d2) (.slice a3 se.length d3) (.slice a4 du.length d4) (.slice a5 ss.length d5) (.slice a6 es.length d6) (.slice a7 la.length d7) x6 (.slice none 0 0)) (cC_ones rfl rfl rfl rfl rfl rfl rfl rfl) rfl rfl (unhide HZF) ?_; rw [unhide HV13]; intro VF raF bbF hsF kkF; have HRF := hide raF; have HBF := hide (bbF _ _ (unhide HB13) (by omega)); have HUF := hide kkF; have hqF := hsF; clear raF bbF hsF kkF))
  refine bodyPost_ret (resultsC rfl _ _ rfl (unhide HRF)) rfl ⟨a1, a2, a3, a4, a5, a6, a7, d1, d2, d3, d4, d5, d6, d7, rfl, unhide HBF, V1.heap.size, V3.heap.size, V5.heap.size, V7.heap.size, V9.heap.size, V10.heap.size, ⟨by omega, by omega, by omega, by omega, by omega, by omega, by omega⟩, ((unhide U1_13).but (p := fun k => k ≠ w.heap.size + 1) (by omega) (fun k hk h => unhide HUF k h) (fun k h1 h2 => by omega)).mono (by omega) (by omega), ((unhide U2_13).but (p := fun k => k ≠ w.heap.size + 1) (by omega) (fun k hk h => unhide HUF k h) (fun k h1 h2 => by omega)).mono (by omega) (by omega), ((unhide U3_13).but (p := fun k => k ≠ w.heap.size + 1) (by omega) (fun k hk h => unhide HUF k h) (fun k h1 h2 => by omega)).mono (by omega) (by omega), ((unhide U4_13).but (p := fun k => k ≠ w.heap.size + 1) (by omega) (fun k hk h => unhide HUF k h) (fun k h1 h2 => by omega)).mono (by omega) (by omega), ((unhide U5_13).but (p := fun k => k ≠ w.heap.size + 1) (by omega) (fun k hk h => unhide HUF k h) (fun k h1 h2 => by omega)).mono (by omega) (by omega), ((unhide U6_13).but (p := fun k => k ≠ w.heap.size + 1) (by omega) (fun k hk h => unhide HUF k h) (fun k h1 h2 => by omega)).mono (by omega) (by omega), ((unhide U7_13).but (p := fun k => k ≠ w.heap.size + 1) (by omega) (fun k hk h => unhide HUF k h) (fun k h1 h2 => by omega)).mono (by omega) (by omega)⟩
end Rt
end Go.Proofs.YtiipppfkpgbpeaaGreat
namespace Go.Proofs.YtiipppfkpgbpeaaGreat
open Go.ChangeShapes Go.WideShapes Go.ChangeAt Go.RowKit
set_option linter.unusedVariables false
set_option linter.unusedSimpArgs false
attribute [local go_sem ↓] Go.wp_at_zero Go.wp_at_succ
namespace Ln
open W1 Lk
theorem sOne {w : World} {g o : Nat} {ad hd sy ci co wl : Int} (h : At w g o ⟨ad, hd, sy, ci, co, wl⟩) : At w g o ⟨ad, hd, sy, ci, co, wl⟩ ∧ w.cell? ⟨g, o, none⟩ = some (.int .i64 ad) ∧ w.cell? ⟨g, o + 1, none⟩ = some (.int .i64 hd) ∧ w.cell? ⟨g, o + 2, none⟩ = some (.int .i64 sy) ∧ w.cell? ⟨g, o + 3, none⟩ = some (.int .i64 ci) ∧ w.cell? ⟨g, o + 4, none⟩ = some (.int .i64 co) ∧ w.cell? ⟨g, o + 5, none⟩ = some (.int .i64 wl) := ⟨h, h⟩
theorem sTwo {w : World} {g o p : Nat} {m : R} {ad hd sy ci co wl : Int} (h : At w g o ⟨ad, hd, sy, ci, co, wl⟩) (h' : At w g p m) :
    (At w g o ⟨ad, hd, sy, ci, co, wl⟩ ∧ At w g p m) ∧ w.cell? ⟨g, o, none⟩ = some (.int .i64 ad) ∧ w.cell? ⟨g, o + 1, none⟩ = some (.int .i64 hd) ∧ w.cell? ⟨g, o + 2, none⟩ = some (.int .i64 sy) ∧ w.cell? ⟨g, o + 3, none⟩ = some (.int .i64 ci) ∧ w.cell? ⟨g, o + 4, none⟩ = some (.int .i64 co) ∧ w.cell? ⟨g, o + 5, none⟩ = some (.int .i64 wl) ∧ w.cell? ⟨g, p, none⟩ = some (.int .i64 m.ad) := ⟨⟨h, h'⟩, h.1, h.2.1, h.2.2.1, h.2.2.2.1, h.2.2.2.2.1, h.2.2.2.2.2, h'.1⟩
set_option maxRecDepth 100000 in
set_option maxHeartbeats 4000000 in
theorem specOK (a : Option Addr) (ms : List R) (cap : Nat) (w : World) (hm : ms.length ≤ 1048576) (hr : RM w a ms) :
    Calls Tryz.prog 76 #[.slice a ms.length cap] w fun e w' => e = .returned (.bool (linksB ms)) ∧ Below w.heap.size w w' := by
  by_cases hbig : (4096 : Int) < ms.length
  · have hf : Hid (linksB ms = false) := hide (by cases hh : linksB ms; rfl; have := links_len hh; omega)
    go_enter Tryz.func76, Tryz.ntmps76
    go_wp2
    go_ret
    exact ⟨ret_bool (unhide hf).symm, Below.refl _ _⟩
  have HR := hide hr
  clear hr
  generalize hN : ms.length = n at *
  have HN := hide hN
  clear hN
  go_enter Tryz.func76, Tryz.ntmps76
  go_wp2
  go_loopw [3] (fun i wr => ∃ j : Nat, j ≤ n ∧ i = .int .i64 j ∧ Hid (allL ms j = true) ∧ Hid (Below w.heap.size w wr)) (fun i _ => n - (intOf i).toNat)
  case atStart => exact ⟨0, by omega, rfl, hide (Ri.all_zero), hide (Below.refl _ _)⟩
  case round =>
    obtain ⟨j, hj, rfl, hrl, hbl⟩ := hrel
    by_cases hlt : (j : Int) < (n : Int)
    · have k0 : (0 : Int) ≤ (j : Int) := by omega
      have hlen : j < ms.length := by rw [unhide HN]; omega
      rcases (unhide HR).below (by exact (unhide hbl)) with e0 | ⟨g, off, rfl, hc⟩
      · exfalso; rw [e0] at hlen; simp at hlen
      have HL := hide hlen
      have hA := hc j hlen
      cases hk : okL (ms.getD j R.zero)
      · clear hc
        have HST := hide (Ri.all_no hlen (Ri.step_bad (key := R.ad) hk))
        have HK := hide hk
        clear hk
        generalize ms.getD j R.zero = m at *
        obtain ⟨ad, hd, sy, ci, co, wl⟩ := m
        go_wp2_with fail
        refine wp_region_noPanic ?_
        refine wp_region_held_drew (S := fun w' => At w' g (off + j * 6) ⟨ad, hd, sy, ci, co, wl⟩ ∧ w'.cell? ⟨g, off + j * 6, none⟩ = some (.int .i64 ad) ∧ w'.cell? ⟨g, off + j * 6 + 1, none⟩ = some (.int .i64 hd) ∧ w'.cell? ⟨g, off + j * 6 + 2, none⟩ = some (.int .i64 sy) ∧ w'.cell? ⟨g, off + j * 6 + 3, none⟩ = some (.int .i64 ci) ∧ w'.cell? ⟨g, off + j * 6 + 4, none⟩ = some (.int .i64 co) ∧ w'.cell? ⟨g, off + j * 6 + 5, none⟩ = some (.int .i64 wl)) (by kernel_rfl) (sOne hA.drew) (fun hHeld => ?_)
        (refine Rg.tk (i := 0) (d := 13) (v := ?_) rfl rfl (by kernel_rfl) (by kernel_rfl) (by kernel_rfl) (fun _ _ _ h => h) (by rfl) ?_ (by assumption) ?_; rotate_left; (focus (intro w0 hSw; (try dsimp only at hSw); go_simp; (try with_reducible rfl))); (try simp only [Act.put, List.setIfInBounds_toArray, List.set_cons_zero, List.set_cons_succ]))
        (refine Rg.tk (i := 1) (d := 14) (v := ?_) rfl rfl (by kernel_rfl) (by kernel_rfl) (by kernel_rfl) (fun _ _ _ h => h) (by rfl) ?_ (by assumption) ?_; rotate_left; (focus (intro w0 hSw; (try dsimp only at hSw); go_simp; (try with_reducible rfl))); (try simp only [Act.put, List.setIfInBounds_toArray, List.set_cons_zero, List.set_cons_succ]))
        (refine Rg.tk (i := 2) (d := 15) (v := ?_) rfl rfl (by kernel_rfl) (by kernel_rfl) (by kernel_rfl) (fun _ _ _ h => h) (by rfl) ?_ (by assumption) ?_; rotate_left; (focus (intro w0 hSw; (try dsimp only at hSw); go_simp; (try with_reducible rfl))); (try simp only [Act.put, List.setIfInBounds_toArray, List.set_cons_zero, List.set_cons_succ]))
        (refine Rg.tk (i := 3) (d := 16) (v := ?_) rfl rfl (by kernel_rfl) (by kernel_rfl) (by kernel_rfl) (fun _ _ _ h => h) (by rfl) ?_ (by assumption) ?_; rotate_left; (focus (intro w0 hSw; (try dsimp only at hSw); go_simp; (try with_reducible rfl))); (try simp only [Act.put, List.setIfInBounds_toArray, List.set_cons_zero, List.set_cons_succ]))
        (refine wpAnyH_ready (rs := [4]) (by kernel_rfl) (by simp) ?_; refine AllReadyH.cons (o := _) rfl (fun K hK => ?_) AllReadyH.nil; go_simp)
        refine (l06Link ad hd sy ci co wl _).mono ?_
        rintro e w1 ⟨rfl, b1⟩
        rw [unhide HK]
        refine hK.out _ _ (sOne (hA.drew.below b1)) (fun hHeld => ?_)
        clear hK K
        (try simp only [Act.put, List.setIfInBounds_toArray, List.set_cons_zero, List.set_cons_succ])
        (refine Rg.tk (i := 5) (d := 18) (v := ?_) rfl rfl (by kernel_rfl) (by kernel_rfl) (by kernel_rfl) (fun _ _ _ h => h) (by rfl) ?_ (by assumption) ?_; rotate_left; (focus (intro w0 hSw; (try dsimp only at hSw); go_simp; (try with_reducible rfl))); (try simp only [Act.put, List.setIfInBounds_toArray, List.set_cons_zero, List.set_cons_succ]))
        (refine Rg.tk (i := 6) (d := 19) (v := ?_) rfl rfl (by kernel_rfl) (by kernel_rfl) (by kernel_rfl) (fun _ _ _ h => h) (by rfl) ?_ (by assumption) ?_; rotate_left; (focus (intro w0 hSw; (try dsimp only at hSw); go_simp; (try with_reducible rfl))); (try simp only [Act.put, List.setIfInBounds_toArray, List.set_cons_zero, List.set_cons_succ]))
        (refine Rg.sk (i := 7) (d := 20) rfl rfl (by kernel_rfl) (by kernel_rfl) (by kernel_rfl) (fun _ _ _ h => h) (by first | kernel_rfl | rfl) (by assumption) ?_; (try simp only [Act.put, List.setIfInBounds_toArray, List.set_cons_zero, List.set_cons_succ]))
        (refine Rg.sk (i := 8) (d := 21) rfl rfl (by kernel_rfl) (by kernel_rfl) (by kernel_rfl) (fun _ _ _ h => h) (by first | kernel_rfl | rfl) (by assumption) ?_; (try simp only [Act.put, List.setIfInBounds_toArray, List.set_cons_zero, List.set_cons_succ]))
        (refine Rg.sk (i := 9) (d := 22) rfl rfl (by kernel_rfl) (by kernel_rfl) (by kernel_rfl) (fun _ _ _ h => h) (by first | kernel_rfl | rfl) (by assumption) ?_; (try simp only [Act.put, List.setIfInBounds_toArray, List.set_cons_zero, List.set_cons_succ]))
        (refine Rg.sk (i := 10) (d := 23) rfl rfl (by kernel_rfl) (by kernel_rfl) (by kernel_rfl) (fun _ _ _ h => h) (by first | kernel_rfl | rfl) (by assumption) ?_; (try simp only [Act.put, List.setIfInBounds_toArray, List.set_cons_zero, List.set_cons_succ]))
        (refine Rg.sk (i := 11) (d := 24) rfl rfl (by kernel_rfl) (by kernel_rfl) (by kernel_rfl) (fun _ _ _ h => h) (by first | kernel_rfl | rfl) (by assumption) ?_; (try simp only [Act.put, List.setIfInBounds_toArray, List.set_cons_zero, List.set_cons_succ]))
        (refine Rg.sk (i := 12) (d := 25) rfl rfl (by kernel_rfl) (by kernel_rfl) (by kernel_rfl) (fun _ _ _ h => h) (by first | kernel_rfl | rfl) (by assumption) ?_; (try simp only [Act.put, List.setIfInBounds_toArray, List.set_cons_zero, List.set_cons_succ]))
        (refine Rg.sk (i := 13) (d := 26) rfl rfl (by kernel_rfl) (by kernel_rfl) (by kernel_rfl) (fun _ _ _ h => h) (by first | kernel_rfl | rfl) (by assumption) ?_; (try simp only [Act.put, List.setIfInBounds_toArray, List.set_cons_zero, List.set_cons_succ]))
        (refine Rg.sk (i := 14) (d := 27) rfl rfl (by kernel_rfl) (by kernel_rfl) (by kernel_rfl) (fun _ _ _ h => h) (by first | kernel_rfl | rfl) (by assumption) ?_; (try simp only [Act.put, List.setIfInBounds_toArray, List.set_cons_zero, List.set_cons_succ]))
        (refine Rg.sk (i := 15) (d := 28) rfl rfl (by kernel_rfl) (by kernel_rfl) (by kernel_rfl) (fun _ _ _ h => h) (by first | kernel_rfl | rfl) (by assumption) ?_; (try simp only [Act.put, List.setIfInBounds_toArray, List.set_cons_zero, List.set_cons_succ]))
        (refine Rg.sk (i := 16) (d := 29) rfl rfl (by kernel_rfl) (by kernel_rfl) (by kernel_rfl) (fun _ _ _ h => h) (by first | kernel_rfl | rfl) (by assumption) ?_; (try simp only [Act.put, List.setIfInBounds_toArray, List.set_cons_zero, List.set_cons_succ]))
        (refine Rg.sk (i := 17) (d := 30) rfl rfl (by kernel_rfl) (by kernel_rfl) (by kernel_rfl) (fun _ _ _ h => h) (by first | kernel_rfl | rfl) (by assumption) ?_; (try simp only [Act.put, List.setIfInBounds_toArray, List.set_cons_zero, List.set_cons_succ]))
        (refine Rg.sk (i := 18) (d := 31) rfl rfl (by kernel_rfl) (by kernel_rfl) (by kernel_rfl) (fun _ _ _ h => h) (by first | kernel_rfl | rfl) (by assumption) ?_; (try simp only [Act.put, List.setIfInBounds_toArray, List.set_cons_zero, List.set_cons_succ]))
        (refine Rg.sk (i := 19) (d := 32) rfl rfl (by kernel_rfl) (by kernel_rfl) (by kernel_rfl) (fun _ _ _ h => h) (by first | kernel_rfl | rfl) (by assumption) ?_; (try simp only [Act.put, List.setIfInBounds_toArray, List.set_cons_zero, List.set_cons_succ]))
        (refine Rg.sk (i := 20) (d := 33) rfl rfl (by kernel_rfl) (by kernel_rfl) (by kernel_rfl) (fun _ _ _ h => h) (by first | kernel_rfl | rfl) (by assumption) ?_; (try simp only [Act.put, List.setIfInBounds_toArray, List.set_cons_zero, List.set_cons_succ]))
        (refine Rg.sk (i := 21) (d := 34) rfl rfl (by kernel_rfl) (by kernel_rfl) (by kernel_rfl) (fun _ _ _ h => h) (by first | kernel_rfl | rfl) (by assumption) ?_; (try simp only [Act.put, List.setIfInBounds_toArray, List.set_cons_zero, List.set_cons_succ]))
        (refine Rg.sk (i := 22) (d := 35) rfl rfl (by kernel_rfl) (by kernel_rfl) (by kernel_rfl) (fun _ _ _ h => h) (by first | kernel_rfl | rfl) (by assumption) ?_; (try simp only [Act.put, List.setIfInBounds_toArray, List.set_cons_zero, List.set_cons_succ]))
        (refine Rg.tk (i := 23) (d := 36) (v := ?_) rfl rfl (by kernel_rfl) (by kernel_rfl) (by kernel_rfl) (fun _ _ _ h => h) (by rfl) ?_ (by assumption) ?_; rotate_left; (focus (intro w0 hSw; (try dsimp only at hSw); go_simp; (try with_reducible rfl))); (try simp only [Act.put, List.setIfInBounds_toArray, List.set_cons_zero, List.set_cons_succ]))
        refine wpAnyH_done (by kernel_rfl) (NoPanic.normal ?_) _
        have hb1 := hide ((unhide hbl).drew.trans (b1.mono (by show w.heap.size ≤ wr.heap.size; exact (unhide hbl).size)))
        go_wp2_with fail
        go_ret
        exact ⟨ret_bool (unhide HST).symm, unhide hb1⟩
      have HK := hide hk
      clear hk
      by_cases hj0 : j = 0
      · subst hj0
        clear hc
        rw [Nat.zero_mul, Nat.add_zero] at hA
        have HST := hide (Ri.all_succ (unhide hrl) (Ri.step_zero (key := R.ad) (unhide HK)))
        generalize ms.getD 0 R.zero = m at *
        obtain ⟨ad, hd, sy, ci, co, wl⟩ := m
        go_wp2_with fail
        refine wp_region_noPanic ?_
        refine wp_region_held_drew (S := fun w' => At w' g off ⟨ad, hd, sy, ci, co, wl⟩ ∧ w'.cell? ⟨g, off, none⟩ = some (.int .i64 ad) ∧ w'.cell? ⟨g, off + 1, none⟩ = some (.int .i64 hd) ∧ w'.cell? ⟨g, off + 2, none⟩ = some (.int .i64 sy) ∧ w'.cell? ⟨g, off + 3, none⟩ = some (.int .i64 ci) ∧ w'.cell? ⟨g, off + 4, none⟩ = some (.int .i64 co) ∧ w'.cell? ⟨g, off + 5, none⟩ = some (.int .i64 wl)) (by kernel_rfl) (sOne hA.drew) (fun hHeld => ?_)
        (refine Rg.tk (i := 0) (d := 13) (v := ?_) rfl rfl (by kernel_rfl) (by kernel_rfl) (by kernel_rfl) (fun _ _ _ h => h) (by rfl) ?_ (by assumption) ?_; rotate_left; (focus (intro w0 hSw; (try dsimp only at hSw); go_simp; (try with_reducible rfl))); (try simp only [Act.put, List.setIfInBounds_toArray, List.set_cons_zero, List.set_cons_succ]))
        (refine Rg.tk (i := 1) (d := 14) (v := ?_) rfl rfl (by kernel_rfl) (by kernel_rfl) (by kernel_rfl) (fun _ _ _ h => h) (by rfl) ?_ (by assumption) ?_; rotate_left; (focus (intro w0 hSw; (try dsimp only at hSw); go_simp; (try with_reducible rfl))); (try simp only [Act.put, List.setIfInBounds_toArray, List.set_cons_zero, List.set_cons_succ]))
        (refine Rg.tk (i := 2) (d := 15) (v := ?_) rfl rfl (by kernel_rfl) (by kernel_rfl) (by kernel_rfl) (fun _ _ _ h => h) (by rfl) ?_ (by assumption) ?_; rotate_left; (focus (intro w0 hSw; (try dsimp only at hSw); go_simp; (try with_reducible rfl))); (try simp only [Act.put, List.setIfInBounds_toArray, List.set_cons_zero, List.set_cons_succ]))
        (refine Rg.tk (i := 3) (d := 16) (v := ?_) rfl rfl (by kernel_rfl) (by kernel_rfl) (by kernel_rfl) (fun _ _ _ h => h) (by rfl) ?_ (by assumption) ?_; rotate_left; (focus (intro w0 hSw; (try dsimp only at hSw); go_simp; (try with_reducible rfl))); (try simp only [Act.put, List.setIfInBounds_toArray, List.set_cons_zero, List.set_cons_succ]))
        (refine wpAnyH_ready (rs := [4]) (by kernel_rfl) (by simp) ?_; refine AllReadyH.cons (o := _) rfl (fun K hK => ?_) AllReadyH.nil; go_simp)
        refine (l06Link ad hd sy ci co wl _).mono ?_
        rintro e w1 ⟨rfl, b1⟩
        rw [unhide HK]
        refine hK.out _ _ (sOne (hA.drew.below b1)) (fun hHeld => ?_)
        clear hK K
        (try simp only [Act.put, List.setIfInBounds_toArray, List.set_cons_zero, List.set_cons_succ])
        (refine Rg.tk (i := 5) (d := 18) (v := ?_) rfl rfl (by kernel_rfl) (by kernel_rfl) (by kernel_rfl) (fun _ _ _ h => h) (by rfl) ?_ (by assumption) ?_; rotate_left; (focus (intro w0 hSw; (try dsimp only at hSw); go_simp; (try with_reducible rfl))); (try simp only [Act.put, List.setIfInBounds_toArray, List.set_cons_zero, List.set_cons_succ]))
        (refine Rg.tk (i := 6) (d := 19) (v := ?_) rfl rfl (by kernel_rfl) (by kernel_rfl) (by kernel_rfl) (fun _ _ _ h => h) (by rfl) ?_ (by assumption) ?_; rotate_left; (focus (intro w0 hSw; (try dsimp only at hSw); go_simp; (try with_reducible rfl))); (try simp only [Act.put, List.setIfInBounds_toArray, List.set_cons_zero, List.set_cons_succ]))
        (refine Rg.tk (i := 7) (d := 20) (v := ?_) rfl rfl (by kernel_rfl) (by kernel_rfl) (by kernel_rfl) (fun _ _ _ h => h) (by rfl) ?_ (by assumption) ?_; rotate_left; (focus (intro w0 hSw; (try dsimp only at hSw); go_simp; (try with_reducible rfl))); (try simp only [Act.put, List.setIfInBounds_toArray, List.set_cons_zero, List.set_cons_succ]))
        (refine Rg.tk (i := 8) (d := 21) (v := ?_) rfl rfl (by kernel_rfl) (by kernel_rfl) (by kernel_rfl) (fun _ _ _ h => h) (by rfl) ?_ (by assumption) ?_; rotate_left; (focus (intro w0 hSw; (try dsimp only at hSw); go_simp; (try with_reducible rfl))); (try simp only [Act.put, List.setIfInBounds_toArray, List.set_cons_zero, List.set_cons_succ]))
        (refine Rg.tk (i := 9) (d := 22) (v := ?_) rfl rfl (by kernel_rfl) (by kernel_rfl) (by kernel_rfl) (fun _ _ _ h => h) (by rfl) ?_ (by assumption) ?_; rotate_left; (focus (intro w0 hSw; (try dsimp only at hSw); go_simp; (try with_reducible rfl))); (try simp only [Act.put, List.setIfInBounds_toArray, List.set_cons_zero, List.set_cons_succ]))
        (refine Rg.sk (i := 10) (d := 23) rfl rfl (by kernel_rfl) (by kernel_rfl) (by kernel_rfl) (fun _ _ _ h => h) (by first | kernel_rfl | rfl) (by assumption) ?_; (try simp only [Act.put, List.setIfInBounds_toArray, List.set_cons_zero, List.set_cons_succ]))
        (refine Rg.sk (i := 11) (d := 24) rfl rfl (by kernel_rfl) (by kernel_rfl) (by kernel_rfl) (fun _ _ _ h => h) (by first | kernel_rfl | rfl) (by assumption) ?_; (try simp only [Act.put, List.setIfInBounds_toArray, List.set_cons_zero, List.set_cons_succ]))
        (refine Rg.sk (i := 12) (d := 25) rfl rfl (by kernel_rfl) (by kernel_rfl) (by kernel_rfl) (fun _ _ _ h => h) (by first | kernel_rfl | rfl) (by assumption) ?_; (try simp only [Act.put, List.setIfInBounds_toArray, List.set_cons_zero, List.set_cons_succ]))
        (refine Rg.sk (i := 13) (d := 26) rfl rfl (by kernel_rfl) (by kernel_rfl) (by kernel_rfl) (fun _ _ _ h => h) (by first | kernel_rfl | rfl) (by assumption) ?_; (try simp only [Act.put, List.setIfInBounds_toArray, List.set_cons_zero, List.set_cons_succ]))
        (refine Rg.sk (i := 14) (d := 27) rfl rfl (by kernel_rfl) (by kernel_rfl) (by kernel_rfl) (fun _ _ _ h => h) (by first | kernel_rfl | rfl) (by assumption) ?_; (try simp only [Act.put, List.setIfInBounds_toArray, List.set_cons_zero, List.set_cons_succ]))
        (refine Rg.sk (i := 15) (d := 28) rfl rfl (by kernel_rfl) (by kernel_rfl) (by kernel_rfl) (fun _ _ _ h => h) (by first | kernel_rfl | rfl) (by assumption) ?_; (try simp only [Act.put, List.setIfInBounds_toArray, List.set_cons_zero, List.set_cons_succ]))
        (refine Rg.sk (i := 16) (d := 29) rfl rfl (by kernel_rfl) (by kernel_rfl) (by kernel_rfl) (fun _ _ _ h => h) (by first | kernel_rfl | rfl) (by assumption) ?_; (try simp only [Act.put, List.setIfInBounds_toArray, List.set_cons_zero, List.set_cons_succ]))
        (refine Rg.sk (i := 17) (d := 30) rfl rfl (by kernel_rfl) (by kernel_rfl) (by kernel_rfl) (fun _ _ _ h => h) (by first | kernel_rfl | rfl) (by assumption) ?_; (try simp only [Act.put, List.setIfInBounds_toArray, List.set_cons_zero, List.set_cons_succ]))
        (refine Rg.sk (i := 18) (d := 31) rfl rfl (by kernel_rfl) (by kernel_rfl) (by kernel_rfl) (fun _ _ _ h => h) (by first | kernel_rfl | rfl) (by assumption) ?_; (try simp only [Act.put, List.setIfInBounds_toArray, List.set_cons_zero, List.set_cons_succ]))
        (refine Rg.sk (i := 19) (d := 32) rfl rfl (by kernel_rfl) (by kernel_rfl) (by kernel_rfl) (fun _ _ _ h => h) (by first | kernel_rfl | rfl) (by assumption) ?_; (try simp only [Act.put, List.setIfInBounds_toArray, List.set_cons_zero, List.set_cons_succ]))
        (refine Rg.sk (i := 20) (d := 33) rfl rfl (by kernel_rfl) (by kernel_rfl) (by kernel_rfl) (fun _ _ _ h => h) (by first | kernel_rfl | rfl) (by assumption) ?_; (try simp only [Act.put, List.setIfInBounds_toArray, List.set_cons_zero, List.set_cons_succ]))
        (refine Rg.sk (i := 21) (d := 34) rfl rfl (by kernel_rfl) (by kernel_rfl) (by kernel_rfl) (fun _ _ _ h => h) (by first | kernel_rfl | rfl) (by assumption) ?_; (try simp only [Act.put, List.setIfInBounds_toArray, List.set_cons_zero, List.set_cons_succ]))
        (refine Rg.tk (i := 22) (d := 35) (v := ?_) rfl rfl (by kernel_rfl) (by kernel_rfl) (by kernel_rfl) (fun _ _ _ h => h) (by rfl) ?_ (by assumption) ?_; rotate_left; (focus (intro w0 hSw; (try dsimp only at hSw); go_simp; (try with_reducible rfl))); (try simp only [Act.put, List.setIfInBounds_toArray, List.set_cons_zero, List.set_cons_succ]))
        (refine Rg.tk (i := 23) (d := 36) (v := ?_) rfl rfl (by kernel_rfl) (by kernel_rfl) (by kernel_rfl) (fun _ _ _ h => h) (by rfl) ?_ (by assumption) ?_; rotate_left; (focus (intro w0 hSw; (try dsimp only at hSw); go_simp; (try with_reducible rfl))); (try simp only [Act.put, List.setIfInBounds_toArray, List.set_cons_zero, List.set_cons_succ]))
        refine wpAnyH_done (by kernel_rfl) (NoPanic.normal ?_) _
        have hb1 := hide ((unhide hbl).drew.trans (b1.mono (by show w.heap.size ≤ wr.heap.size; exact (unhide hbl).size)))
        go_wp2_with fail
        go_roundw
        case rel => exact ⟨0 + 1, by omega, by go_num, HST, hb1⟩
        case measure => simp [intOf]; omega
      · obtain ⟨i, hji⟩ : ∃ i, j = i + 1 := ⟨j - 1, by omega⟩
        have HJ := hide hji
        have e1 : (j : Int) - 1 = (i : Int) := by omega
        have i0 : (0 : Int) ≤ (i : Int) := by omega
        have wi : IntKind.i64.wrap (i : Int) = (i : Int) := by rw [IntKind.wrap_i64]; omega
        have i1 : (i : Int) < (n : Int) := by omega
        have j1 : (0 : Int) < (j : Int) := by omega
        have j2 : 0 < j := by omega
        have hP := hc i (by omega)
        have EJ : ms.getD j R.zero = ms.getD (i + 1) R.zero := by rw [hji]
        clear hc hji
        by_cases hk : (ms.getD i R.zero).ad < (ms.getD j R.zero).ad
        · have HST : Hid (allL ms (j + 1) = true) := hide (Ri.all_succ (unhide hrl) (by rw [unhide HJ]; exact Ri.step_lt (by rw [← EJ]; exact unhide HK) (by rw [← EJ]; exact hk)))
          clear EJ
          generalize ms.getD j R.zero = m at *
          generalize ms.getD i R.zero = m0 at *
          obtain ⟨ad, hd, sy, ci, co, wl⟩ := m
          obtain ⟨ad0, hd0, sy0, ci0, co0, wl0⟩ := m0
          dsimp only at hk
          go_wp2_with fail
          refine wp_region_noPanic ?_
          refine wp_region_held_drew (S := fun w' => (At w' g (off + j * 6) ⟨ad, hd, sy, ci, co, wl⟩ ∧ At w' g (off + i * 6) ⟨ad0, hd0, sy0, ci0, co0, wl0⟩) ∧ w'.cell? ⟨g, off + j * 6, none⟩ = some (.int .i64 ad) ∧ w'.cell? ⟨g, off + j * 6 + 1, none⟩ = some (.int .i64 hd) ∧ w'.cell? ⟨g, off + j * 6 + 2, none⟩ = some (.int .i64 sy) ∧ w'.cell? ⟨g, off + j * 6 + 3, none⟩ = some (.int .i64 ci) ∧ w'.cell? ⟨g, off + j * 6 + 4, none⟩ = some (.int .i64 co) ∧ w'.cell? ⟨g, off + j * 6 + 5, none⟩ = some (.int .i64 wl) ∧ w'.cell? ⟨g, off + i * 6, none⟩ = some (.int .i64 ad0)) (by kernel_rfl) (sTwo hA.drew hP.drew) (fun hHeld => ?_)
          (refine Rg.tk (i := 0) (d := 13) (v := ?_) rfl rfl (by kernel_rfl) (by kernel_rfl) (by kernel_rfl) (fun _ _ _ h => h) (by rfl) ?_ (by assumption) ?_; rotate_left; (focus (intro w0 hSw; (try dsimp only at hSw); go_simp; (try with_reducible rfl))); (try simp only [Act.put, List.setIfInBounds_toArray, List.set_cons_zero, List.set_cons_succ]))
          (refine Rg.tk (i := 1) (d := 14) (v := ?_) rfl rfl (by kernel_rfl) (by kernel_rfl) (by kernel_rfl) (fun _ _ _ h => h) (by rfl) ?_ (by assumption) ?_; rotate_left; (focus (intro w0 hSw; (try dsimp only at hSw); go_simp; (try with_reducible rfl))); (try simp only [Act.put, List.setIfInBounds_toArray, List.set_cons_zero, List.set_cons_succ]))
          (refine Rg.tk (i := 2) (d := 15) (v := ?_) rfl rfl (by kernel_rfl) (by kernel_rfl) (by kernel_rfl) (fun _ _ _ h => h) (by rfl) ?_ (by assumption) ?_; rotate_left; (focus (intro w0 hSw; (try dsimp only at hSw); go_simp; (try with_reducible rfl))); (try simp only [Act.put, List.setIfInBounds_toArray, List.set_cons_zero, List.set_cons_succ]))
          (refine Rg.tk (i := 3) (d := 16) (v := ?_) rfl rfl (by kernel_rfl) (by kernel_rfl) (by kernel_rfl) (fun _ _ _ h => h) (by rfl) ?_ (by assumption) ?_; rotate_left; (focus (intro w0 hSw; (try dsimp only at hSw); go_simp; (try with_reducible rfl))); (try simp only [Act.put, List.setIfInBounds_toArray, List.set_cons_zero, List.set_cons_succ]))
          (refine wpAnyH_ready (rs := [4]) (by kernel_rfl) (by simp) ?_; refine AllReadyH.cons (o := _) rfl (fun K hK => ?_) AllReadyH.nil; go_simp)
          refine (l06Link ad hd sy ci co wl _).mono ?_
          rintro e w1 ⟨rfl, b1⟩
          rw [unhide HK]
          refine hK.out _ _ (sTwo (hA.drew.below b1) (hP.drew.below b1)) (fun hHeld => ?_)
          clear hK K
          (try simp only [Act.put, List.setIfInBounds_toArray, List.set_cons_zero, List.set_cons_succ])
          (refine Rg.tk (i := 5) (d := 18) (v := ?_) rfl rfl (by kernel_rfl) (by kernel_rfl) (by kernel_rfl) (fun _ _ _ h => h) (by rfl) ?_ (by assumption) ?_; rotate_left; (focus (intro w0 hSw; (try dsimp only at hSw); go_simp; (try with_reducible rfl))); (try simp only [Act.put, List.setIfInBounds_toArray, List.set_cons_zero, List.set_cons_succ]))
          (refine Rg.tk (i := 6) (d := 19) (v := ?_) rfl rfl (by kernel_rfl) (by kernel_rfl) (by kernel_rfl) (fun _ _ _ h => h) (by rfl) ?_ (by assumption) ?_; rotate_left; (focus (intro w0 hSw; (try dsimp only at hSw); go_simp; (try with_reducible rfl))); (try simp only [Act.put, List.setIfInBounds_toArray, List.set_cons_zero, List.set_cons_succ]))
          (refine Rg.tk (i := 7) (d := 20) (v := ?_) rfl rfl (by kernel_rfl) (by kernel_rfl) (by kernel_rfl) (fun _ _ _ h => h) (by rfl) ?_ (by assumption) ?_; rotate_left; (focus (intro w0 hSw; (try dsimp only at hSw); go_simp; (try with_reducible rfl))); (try simp only [Act.put, List.setIfInBounds_toArray, List.set_cons_zero, List.set_cons_succ]))
          (refine Rg.tk (i := 8) (d := 21) (v := ?_) rfl rfl (by kernel_rfl) (by kernel_rfl) (by kernel_rfl) (fun _ _ _ h => h) (by rfl) ?_ (by assumption) ?_; rotate_left; (focus (intro w0 hSw; (try dsimp only at hSw); go_simp; (try with_reducible rfl))); (try simp only [Act.put, List.setIfInBounds_toArray, List.set_cons_zero, List.set_cons_succ]))
          (refine Rg.tk (i := 9) (d := 22) (v := ?_) rfl rfl (by kernel_rfl) (by kernel_rfl) (by kernel_rfl) (fun _ _ _ h => h) (by rfl) ?_ (by assumption) ?_; rotate_left; (focus (intro w0 hSw; (try dsimp only at hSw); go_simp; (try with_reducible rfl))); (try simp only [Act.put, List.setIfInBounds_toArray, List.set_cons_zero, List.set_cons_succ]))
          (refine Rg.tk (i := 10) (d := 23) (v := ?_) rfl rfl (by kernel_rfl) (by kernel_rfl) (by kernel_rfl) (fun _ _ _ h => h) (by rfl) ?_ (by assumption) ?_; rotate_left; (focus (intro w0 hSw; (try dsimp only at hSw); go_simp; (try with_reducible rfl))); (try simp only [Act.put, List.setIfInBounds_toArray, List.set_cons_zero, List.set_cons_succ]))
          (refine Rg.tk (i := 11) (d := 24) (v := ?_) rfl rfl (by kernel_rfl) (by kernel_rfl) (by kernel_rfl) (fun _ _ _ h => h) (by rfl) ?_ (by assumption) ?_; rotate_left; (focus (intro w0 hSw; (try dsimp only at hSw); go_simp; (try with_reducible rfl))); (try simp only [Act.put, List.setIfInBounds_toArray, List.set_cons_zero, List.set_cons_succ]))
          (refine Rg.tk (i := 12) (d := 25) (v := ?_) rfl rfl (by kernel_rfl) (by kernel_rfl) (by kernel_rfl) (fun _ _ _ h => h) (by rfl) ?_ (by assumption) ?_; rotate_left; (focus (intro w0 hSw; (try dsimp only at hSw); go_simp; (try with_reducible rfl))); (try simp only [Act.put, List.setIfInBounds_toArray, List.set_cons_zero, List.set_cons_succ]))
          (refine Rg.tk (i := 13) (d := 26) (v := ?_) rfl rfl (by kernel_rfl) (by kernel_rfl) (by kernel_rfl) (fun _ _ _ h => h) (by rfl) ?_ (by assumption) ?_; rotate_left; (focus (intro w0 hSw; (try dsimp only at hSw); go_simp; (try with_reducible rfl))); (try simp only [Act.put, List.setIfInBounds_toArray, List.set_cons_zero, List.set_cons_succ]))
          (refine Rg.tk (i := 14) (d := 27) (v := ?_) rfl rfl (by kernel_rfl) (by kernel_rfl) (by kernel_rfl) (fun _ _ _ h => h) (by rfl) ?_ (by assumption) ?_; rotate_left; (focus (intro w0 hSw; (try dsimp only at hSw); go_simp; (try with_reducible rfl))); (try simp only [Act.put, List.setIfInBounds_toArray, List.set_cons_zero, List.set_cons_succ]))
          (refine Rg.tk (i := 15) (d := 28) (v := ?_) rfl rfl (by kernel_rfl) (by kernel_rfl) (by kernel_rfl) (fun _ _ _ h => h) (by rfl) ?_ (by assumption) ?_; rotate_left; (focus (intro w0 hSw; (try dsimp only at hSw); go_simp; (try with_reducible rfl))); (try simp only [Act.put, List.setIfInBounds_toArray, List.set_cons_zero, List.set_cons_succ]))
          (refine Rg.tk (i := 16) (d := 29) (v := ?_) rfl rfl (by kernel_rfl) (by kernel_rfl) (by kernel_rfl) (fun _ _ _ h => h) (by rfl) ?_ (by assumption) ?_; rotate_left; (focus (intro w0 hSw; (try dsimp only at hSw); go_simp; (try with_reducible rfl))); (try simp only [Act.put, List.setIfInBounds_toArray, List.set_cons_zero, List.set_cons_succ]))
          (refine Rg.tk (i := 17) (d := 30) (v := ?_) rfl rfl (by kernel_rfl) (by kernel_rfl) (by kernel_rfl) (fun _ _ _ h => h) (by rfl) ?_ (by assumption) ?_; rotate_left; (focus (intro w0 hSw; (try dsimp only at hSw); go_simp; (try with_reducible rfl))); (try simp only [Act.put, List.setIfInBounds_toArray, List.set_cons_zero, List.set_cons_succ]))
          (refine Rg.tk (i := 18) (d := 31) (v := ?_) rfl rfl (by kernel_rfl) (by kernel_rfl) (by kernel_rfl) (fun _ _ _ h => h) (by rfl) ?_ (by assumption) ?_; rotate_left; (focus (intro w0 hSw; (try dsimp only at hSw); go_simp; (try with_reducible rfl))); (try simp only [Act.put, List.setIfInBounds_toArray, List.set_cons_zero, List.set_cons_succ]))
          (refine Rg.tk (i := 19) (d := 32) (v := ?_) rfl rfl (by kernel_rfl) (by kernel_rfl) (by kernel_rfl) (fun _ _ _ h => h) (by rfl) ?_ (by assumption) ?_; rotate_left; (focus (intro w0 hSw; (try dsimp only at hSw); go_simp; (try with_reducible rfl))); (try simp only [Act.put, List.setIfInBounds_toArray, List.set_cons_zero, List.set_cons_succ]))
          (refine Rg.tk (i := 20) (d := 33) (v := ?_) rfl rfl (by kernel_rfl) (by kernel_rfl) (by kernel_rfl) (fun _ _ _ h => h) (by rfl) ?_ (by assumption) ?_; rotate_left; (focus (intro w0 hSw; (try dsimp only at hSw); go_simp; (try with_reducible rfl))); (try simp only [Act.put, List.setIfInBounds_toArray, List.set_cons_zero, List.set_cons_succ]))
          (refine Rg.tk (i := 21) (d := 34) (v := ?_) rfl rfl (by kernel_rfl) (by kernel_rfl) (by kernel_rfl) (fun _ _ _ h => h) (by rfl) ?_ (by assumption) ?_; rotate_left; (focus (intro w0 hSw; (try dsimp only at hSw); go_simp; (try with_reducible rfl))); (try simp only [Act.put, List.setIfInBounds_toArray, List.set_cons_zero, List.set_cons_succ]))
          (refine Rg.tk (i := 22) (d := 35) (v := ?_) rfl rfl (by kernel_rfl) (by kernel_rfl) (by kernel_rfl) (fun _ _ _ h => h) (by rfl) ?_ (by assumption) ?_; rotate_left; (focus (intro w0 hSw; (try dsimp only at hSw); go_simp; (try with_reducible rfl))); (try simp only [Act.put, List.setIfInBounds_toArray, List.set_cons_zero, List.set_cons_succ]))
          (refine Rg.tk (i := 23) (d := 36) (v := ?_) rfl rfl (by kernel_rfl) (by kernel_rfl) (by kernel_rfl) (fun _ _ _ h => h) (by rfl) ?_ (by assumption) ?_; rotate_left; (focus (intro w0 hSw; (try dsimp only at hSw); go_simp; (try with_reducible rfl))); (try simp only [Act.put, List.setIfInBounds_toArray, List.set_cons_zero, List.set_cons_succ]))
          refine wpAnyH_done (by kernel_rfl) (NoPanic.normal ?_) _
          have hb1 := hide ((unhide hbl).drew.trans (b1.mono (by show w.heap.size ≤ wr.heap.size; exact (unhide hbl).size)))
          go_wp2_with fail
          go_roundw
          case rel => exact ⟨j + 1, by omega, by go_num, HST, hb1⟩
          case measure => simp [intOf]; omega
        · have HST : Hid (linksB ms = false) := hide (Ri.all_no (unhide HL) (show Ri.step R.zero okL R.ad ms j = false by rw [unhide HJ]; exact Ri.step_ge (by rw [← EJ]; omega)))
          clear EJ
          generalize ms.getD j R.zero = m at *
          generalize ms.getD i R.zero = m0 at *
          obtain ⟨ad, hd, sy, ci, co, wl⟩ := m
          obtain ⟨ad0, hd0, sy0, ci0, co0, wl0⟩ := m0
          dsimp only at hk
          go_wp2_with fail
          refine wp_region_noPanic ?_
          refine wp_region_held_drew (S := fun w' => (At w' g (off + j * 6) ⟨ad, hd, sy, ci, co, wl⟩ ∧ At w' g (off + i * 6) ⟨ad0, hd0, sy0, ci0, co0, wl0⟩) ∧ w'.cell? ⟨g, off + j * 6, none⟩ = some (.int .i64 ad) ∧ w'.cell? ⟨g, off + j * 6 + 1, none⟩ = some (.int .i64 hd) ∧ w'.cell? ⟨g, off + j * 6 + 2, none⟩ = some (.int .i64 sy) ∧ w'.cell? ⟨g, off + j * 6 + 3, none⟩ = some (.int .i64 ci) ∧ w'.cell? ⟨g, off + j * 6 + 4, none⟩ = some (.int .i64 co) ∧ w'.cell? ⟨g, off + j * 6 + 5, none⟩ = some (.int .i64 wl) ∧ w'.cell? ⟨g, off + i * 6, none⟩ = some (.int .i64 ad0)) (by kernel_rfl) (sTwo hA.drew hP.drew) (fun hHeld => ?_)
          (refine Rg.tk (i := 0) (d := 13) (v := ?_) rfl rfl (by kernel_rfl) (by kernel_rfl) (by kernel_rfl) (fun _ _ _ h => h) (by rfl) ?_ (by assumption) ?_; rotate_left; (focus (intro w0 hSw; (try dsimp only at hSw); go_simp; (try with_reducible rfl))); (try simp only [Act.put, List.setIfInBounds_toArray, List.set_cons_zero, List.set_cons_succ]))
          (refine Rg.tk (i := 1) (d := 14) (v := ?_) rfl rfl (by kernel_rfl) (by kernel_rfl) (by kernel_rfl) (fun _ _ _ h => h) (by rfl) ?_ (by assumption) ?_; rotate_left; (focus (intro w0 hSw; (try dsimp only at hSw); go_simp; (try with_reducible rfl))); (try simp only [Act.put, List.setIfInBounds_toArray, List.set_cons_zero, List.set_cons_succ]))
          (refine Rg.tk (i := 2) (d := 15) (v := ?_) rfl rfl (by kernel_rfl) (by kernel_rfl) (by kernel_rfl) (fun _ _ _ h => h) (by rfl) ?_ (by assumption) ?_; rotate_left; (focus (intro w0 hSw; (try dsimp only at hSw); go_simp; (try with_reducible rfl))); (try simp only [Act.put, List.setIfInBounds_toArray, List.set_cons_zero, List.set_cons_succ]))
          (refine Rg.tk (i := 3) (d := 16) (v := ?_) rfl rfl (by kernel_rfl) (by kernel_rfl) (by kernel_rfl) (fun _ _ _ h => h) (by rfl) ?_ (by assumption) ?_; rotate_left; (focus (intro w0 hSw; (try dsimp only at hSw); go_simp; (try with_reducible rfl))); (try simp only [Act.put, List.setIfInBounds_toArray, List.set_cons_zero, List.set_cons_succ]))
          (refine wpAnyH_ready (rs := [4]) (by kernel_rfl) (by simp) ?_; refine AllReadyH.cons (o := _) rfl (fun K hK => ?_) AllReadyH.nil; go_simp)
          refine (l06Link ad hd sy ci co wl _).mono ?_
          rintro e w1 ⟨rfl, b1⟩
          rw [unhide HK]
          refine hK.out _ _ (sTwo (hA.drew.below b1) (hP.drew.below b1)) (fun hHeld => ?_)
          clear hK K
          (try simp only [Act.put, List.setIfInBounds_toArray, List.set_cons_zero, List.set_cons_succ])
          (refine Rg.tk (i := 5) (d := 18) (v := ?_) rfl rfl (by kernel_rfl) (by kernel_rfl) (by kernel_rfl) (fun _ _ _ h => h) (by rfl) ?_ (by assumption) ?_; rotate_left; (focus (intro w0 hSw; (try dsimp only at hSw); go_simp; (try with_reducible rfl))); (try simp only [Act.put, List.setIfInBounds_toArray, List.set_cons_zero, List.set_cons_succ]))
          (refine Rg.tk (i := 6) (d := 19) (v := ?_) rfl rfl (by kernel_rfl) (by kernel_rfl) (by kernel_rfl) (fun _ _ _ h => h) (by rfl) ?_ (by assumption) ?_; rotate_left; (focus (intro w0 hSw; (try dsimp only at hSw); go_simp; (try with_reducible rfl))); (try simp only [Act.put, List.setIfInBounds_toArray, List.set_cons_zero, List.set_cons_succ]))
          (refine Rg.tk (i := 7) (d := 20) (v := ?_) rfl rfl (by kernel_rfl) (by kernel_rfl) (by kernel_rfl) (fun _ _ _ h => h) (by rfl) ?_ (by assumption) ?_; rotate_left; (focus (intro w0 hSw; (try dsimp only at hSw); go_simp; (try with_reducible rfl))); (try simp only [Act.put, List.setIfInBounds_toArray, List.set_cons_zero, List.set_cons_succ]))
          (refine Rg.tk (i := 8) (d := 21) (v := ?_) rfl rfl (by kernel_rfl) (by kernel_rfl) (by kernel_rfl) (fun _ _ _ h => h) (by rfl) ?_ (by assumption) ?_; rotate_left; (focus (intro w0 hSw; (try dsimp only at hSw); go_simp; (try with_reducible rfl))); (try simp only [Act.put, List.setIfInBounds_toArray, List.set_cons_zero, List.set_cons_succ]))
          (refine Rg.tk (i := 9) (d := 22) (v := ?_) rfl rfl (by kernel_rfl) (by kernel_rfl) (by kernel_rfl) (fun _ _ _ h => h) (by rfl) ?_ (by assumption) ?_; rotate_left; (focus (intro w0 hSw; (try dsimp only at hSw); go_simp; (try with_reducible rfl))); (try simp only [Act.put, List.setIfInBounds_toArray, List.set_cons_zero, List.set_cons_succ]))
          (refine Rg.tk (i := 10) (d := 23) (v := ?_) rfl rfl (by kernel_rfl) (by kernel_rfl) (by kernel_rfl) (fun _ _ _ h => h) (by rfl) ?_ (by assumption) ?_; rotate_left; (focus (intro w0 hSw; (try dsimp only at hSw); go_simp; (try with_reducible rfl))); (try simp only [Act.put, List.setIfInBounds_toArray, List.set_cons_zero, List.set_cons_succ]))
          (refine Rg.tk (i := 11) (d := 24) (v := ?_) rfl rfl (by kernel_rfl) (by kernel_rfl) (by kernel_rfl) (fun _ _ _ h => h) (by rfl) ?_ (by assumption) ?_; rotate_left; (focus (intro w0 hSw; (try dsimp only at hSw); go_simp; (try with_reducible rfl))); (try simp only [Act.put, List.setIfInBounds_toArray, List.set_cons_zero, List.set_cons_succ]))
          (refine Rg.tk (i := 12) (d := 25) (v := ?_) rfl rfl (by kernel_rfl) (by kernel_rfl) (by kernel_rfl) (fun _ _ _ h => h) (by rfl) ?_ (by assumption) ?_; rotate_left; (focus (intro w0 hSw; (try dsimp only at hSw); go_simp; (try with_reducible rfl))); (try simp only [Act.put, List.setIfInBounds_toArray, List.set_cons_zero, List.set_cons_succ]))
          (refine Rg.tk (i := 13) (d := 26) (v := ?_) rfl rfl (by kernel_rfl) (by kernel_rfl) (by kernel_rfl) (fun _ _ _ h => h) (by rfl) ?_ (by assumption) ?_; rotate_left; (focus (intro w0 hSw; (try dsimp only at hSw); go_simp; (try with_reducible rfl))); (try simp only [Act.put, List.setIfInBounds_toArray, List.set_cons_zero, List.set_cons_succ]))
          (refine Rg.tk (i := 14) (d := 27) (v := ?_) rfl rfl (by kernel_rfl) (by kernel_rfl) (by kernel_rfl) (fun _ _ _ h => h) (by rfl) ?_ (by assumption) ?_; rotate_left; (focus (intro w0 hSw; (try dsimp only at hSw); go_simp; (try with_reducible rfl))); (try simp only [Act.put, List.setIfInBounds_toArray, List.set_cons_zero, List.set_cons_succ]))
          (refine Rg.tk (i := 15) (d := 28) (v := ?_) rfl rfl (by kernel_rfl) (by kernel_rfl) (by kernel_rfl) (fun _ _ _ h => h) (by rfl) ?_ (by assumption) ?_; rotate_left; (focus (intro w0 hSw; (try dsimp only at hSw); go_simp; (try with_reducible rfl))); (try simp only [Act.put, List.setIfInBounds_toArray, List.set_cons_zero, List.set_cons_succ]))
          (refine Rg.tk (i := 16) (d := 29) (v := ?_) rfl rfl (by kernel_rfl) (by kernel_rfl) (by kernel_rfl) (fun _ _ _ h => h) (by rfl) ?_ (by assumption) ?_; rotate_left; (focus (intro w0 hSw; (try dsimp only at hSw); go_simp; (try with_reducible rfl))); (try simp only [Act.put, List.setIfInBounds_toArray, List.set_cons_zero, List.set_cons_succ]))
          (refine Rg.tk (i := 17) (d := 30) (v := ?_) rfl rfl (by kernel_rfl) (by kernel_rfl) (by kernel_rfl) (fun _ _ _ h => h) (by rfl) ?_ (by assumption) ?_; rotate_left; (focus (intro w0 hSw; (try dsimp only at hSw); go_simp; (try with_reducible rfl))); (try simp only [Act.put, List.setIfInBounds_toArray, List.set_cons_zero, List.set_cons_succ]))
          (refine Rg.tk (i := 18) (d := 31) (v := ?_) rfl rfl (by kernel_rfl) (by kernel_rfl) (by kernel_rfl) (fun _ _ _ h => h) (by rfl) ?_ (by assumption) ?_; rotate_left; (focus (intro w0 hSw; (try dsimp only at hSw); go_simp; (try with_reducible rfl))); (try simp only [Act.put, List.setIfInBounds_toArray, List.set_cons_zero, List.set_cons_succ]))
          (refine Rg.tk (i := 19) (d := 32) (v := ?_) rfl rfl (by kernel_rfl) (by kernel_rfl) (by kernel_rfl) (fun _ _ _ h => h) (by rfl) ?_ (by assumption) ?_; rotate_left; (focus (intro w0 hSw; (try dsimp only at hSw); go_simp; (try with_reducible rfl))); (try simp only [Act.put, List.setIfInBounds_toArray, List.set_cons_zero, List.set_cons_succ]))
          (refine Rg.tk (i := 20) (d := 33) (v := ?_) rfl rfl (by kernel_rfl) (by kernel_rfl) (by kernel_rfl) (fun _ _ _ h => h) (by rfl) ?_ (by assumption) ?_; rotate_left; (focus (intro w0 hSw; (try dsimp only at hSw); go_simp; (try with_reducible rfl))); (try simp only [Act.put, List.setIfInBounds_toArray, List.set_cons_zero, List.set_cons_succ]))
          (refine Rg.tk (i := 21) (d := 34) (v := ?_) rfl rfl (by kernel_rfl) (by kernel_rfl) (by kernel_rfl) (fun _ _ _ h => h) (by rfl) ?_ (by assumption) ?_; rotate_left; (focus (intro w0 hSw; (try dsimp only at hSw); go_simp; (try with_reducible rfl))); (try simp only [Act.put, List.setIfInBounds_toArray, List.set_cons_zero, List.set_cons_succ]))
          (refine Rg.tk (i := 22) (d := 35) (v := ?_) rfl rfl (by kernel_rfl) (by kernel_rfl) (by kernel_rfl) (fun _ _ _ h => h) (by rfl) ?_ (by assumption) ?_; rotate_left; (focus (intro w0 hSw; (try dsimp only at hSw); go_simp; (try with_reducible rfl))); (try simp only [Act.put, List.setIfInBounds_toArray, List.set_cons_zero, List.set_cons_succ]))
          (refine Rg.tk (i := 23) (d := 36) (v := ?_) rfl rfl (by kernel_rfl) (by kernel_rfl) (by kernel_rfl) (fun _ _ _ h => h) (by rfl) ?_ (by assumption) ?_; rotate_left; (focus (intro w0 hSw; (try dsimp only at hSw); go_simp; (try with_reducible rfl))); (try simp only [Act.put, List.setIfInBounds_toArray, List.set_cons_zero, List.set_cons_succ]))
          refine wpAnyH_done (by kernel_rfl) (NoPanic.normal ?_) _
          have hb1 := hide ((unhide hbl).drew.trans (b1.mono (by show w.heap.size ≤ wr.heap.size; exact (unhide hbl).size)))
          go_wp2_with fail
          go_ret
          exact ⟨ret_bool (unhide HST).symm, unhide hb1⟩
    · obtain rfl : j = n := by omega
      have hok : linksB ms = true := by unfold linksB; rw [unhide HN]; exact unhide hrl
      have h8 := links_len hok
      have h8' : (j : Int) ≤ 8 := by have := unhide HN; omega
      have HO := hide hok
      clear hok h8
      go_wp2
      go_ret
      exact ⟨ret_bool (unhide HO).symm, unhide hbl⟩
end Ln
end Go.Proofs.YtiipppfkpgbpeaaGreat
