/-
  Of the texts SetC, TwoH, SetD, TwoI, TopA, TopB, TwoC, TopV, StrTop, RtrS, RtrM, RtrL, NetW, RecFrame, Ints, IntsL, NetT, NetU, NetZ, NetF, Dig: what this claim needs of them. (put together by mkprune.py)
-/
import Derived.Test.YtpmlpojefelbbaaQf1
import Derived.Maps.AppendAt
import Derived.Laws.NewBlocks
import Derived.Deep.QuietTactic
import Derived.BigQuiet
import Derived.OneCell
import Derived.Deep.RegionHeld3
import Derived.Deep.DrawnRows
import Derived.Deep.Slices
import Derived.Laws.AppendOwn
import Derived.Deep.MidRow
import Derived.Deep.Cut
import Derived.Lib.ItoaMem
import Derived.Laws.BytesArg
namespace Go.Proofs.Ytpmlpojefelbbaa
open Go.ChangeShapes Go.WideShapes Go.ChangeAt Go.RowKit
set_option linter.unusedVariables false
set_option linter.unusedSimpArgs false
attribute [local go_sem ↓] Go.wp_at_zero Go.wp_at_succ
namespace St
open W1 Tu
/-- One in a variable's block. -/
def Bx (w : World) (b : Nat) (m : R) : Prop := w.cell? ⟨b, 0, none⟩ = some (.int .i64 m.key) ∧ w.cell? ⟨b, 1, none⟩ = some (.int .i64 m.til) ∧ w.cell? ⟨b, 2, none⟩ = some (.int .i64 m.val)
theorem Bx.below {w w' : World} {b : Nat} {m : R} (h : Bx w b m) (hb : Below w.heap.size w w') : Bx w' b m := by
  have hg : b < w.heap.size := World.block_lt_of_cell? _ _ h.1
  obtain ⟨h0, h1, h2⟩ := h
  refine ⟨?_, ?_, ?_⟩ <;> (rw [hb.cell hg]; assumption)
theorem Bx.drew {w : World} {b : Nat} {m : R} (h : Bx w b m) : Bx w.drew b m := h
end St
end Go.Proofs.Ytpmlpojefelbbaa
namespace Go.Proofs.Ytpmlpojefelbbaa
open Go.ChangeShapes Go.WideShapes Go.ChangeAt Go.RowKit
set_option linter.unusedVariables false
set_option linter.unusedSimpArgs false
attribute [local go_sem ↓] Go.wp_at_zero Go.wp_at_succ
namespace Tw
open W1 Tu Mt
end Tw
end Go.Proofs.Ytpmlpojefelbbaa
namespace Go.Proofs.Ytpmlpojefelbbaa
open Go.ChangeShapes Go.WideShapes Go.ChangeAt Go.RowKit
set_option linter.unusedVariables false
set_option linter.unusedSimpArgs false
attribute [local go_sem ↓] Go.wp_at_zero Go.wp_at_succ
namespace St
open W1 Tu
end St
end Go.Proofs.Ytpmlpojefelbbaa
namespace Go.Proofs.Ytpmlpojefelbbaa
open Go.ChangeShapes Go.WideShapes Go.ChangeAt Go.RowKit
set_option linter.unusedVariables false
set_option linter.unusedSimpArgs false
attribute [local go_sem ↓] Go.wp_at_zero Go.wp_at_succ
namespace Tw
open W1 Tu St Mt
end Tw
end Go.Proofs.Ytpmlpojefelbbaa
namespace Go.Proofs.Ytpmlpojefelbbaa
open Go.ChangeShapes Go.WideShapes Go.ChangeAt Go.RowKit
set_option linter.unusedVariables false
set_option linter.unusedSimpArgs false
set_option maxRecDepth 100000
attribute [local go_sem ↓] Go.wp_at_zero Go.wp_at_succ
namespace Tp
open W1 So
/-- A source in a variable's block. -/
def Bx (w : World) (b : Nat) (m : R) : Prop := w.cell? ⟨b, 0, none⟩ = some (.int .i64 m.ad) ∧ w.cell? ⟨b, 1, none⟩ = some (.int .i64 m.an) ∧ w.cell? ⟨b, 2, none⟩ = some (.int .i64 m.til)
theorem Bx.below {w w' : World} {b : Nat} {m : R} (h : Bx w b m) (hb : Below w.heap.size w w') : Bx w' b m := by
  have hg : b < w.heap.size := World.block_lt_of_cell? _ _ h.1
  obtain ⟨h0, h1, h2⟩ := h
  refine ⟨?_, ?_, ?_⟩ <;> (rw [hb.cell hg]; assumption)
theorem Bx.lt {w : World} {b : Nat} {m : R} (h : Bx w b m) : b < w.heap.size := World.block_lt_of_cell? _ _ h.1
theorem Bx.drew {w : World} {b : Nat} {m : R} (h : Bx w b m) : Bx w.drew b m := h
end Tp
end Go.Proofs.Ytpmlpojefelbbaa
namespace Go.Proofs.Ytpmlpojefelbbaa
open Go.ChangeShapes Go.WideShapes Go.ChangeAt Go.RowKit
set_option linter.unusedVariables false
set_option linter.unusedSimpArgs false
set_option maxRecDepth 100000
attribute [local go_sem ↓] Go.wp_at_zero Go.wp_at_succ
namespace Tp
open W1 Tu St Tw
/-- A box of two values. -/
def Bx2 (w : World) (b : Nat) (x y : Value) : Prop := w.cell? ⟨b, 0, none⟩ = some x ∧ w.cell? ⟨b, 1, none⟩ = some y
theorem Bx2.lt {w : World} {b : Nat} {x y : Value} (h : Bx2 w b x y) : b < w.heap.size := World.block_lt_of_cell? _ _ h.1
theorem Bx2.below {w w' : World} {b : Nat} {x y : Value} (h : Bx2 w b x y) (hb : Below w.heap.size w w') : Bx2 w' b x y := ⟨(hb.cell (p := ⟨b, 0, none⟩) h.lt).trans h.1, (hb.cell (p := ⟨b, 1, none⟩) h.lt).trans h.2⟩
theorem Bx2.drew {w : World} {b : Nat} {x y : Value} (h : Bx2 w b x y) : Bx2 w.drew b x y := h
theorem Bx2.but {w w' : World} {b : Nat} {x y : Value} (h : Bx2 w b x y) (hb : w'.heap[b]? = w.heap[b]?) : Bx2 w' b x y := ⟨(World.cell?_of_block (a := ⟨b, 0, none⟩) hb).trans h.1, (World.cell?_of_block (a := ⟨b, 1, none⟩) hb).trans h.2⟩
theorem bx2_new (w : World) (x y : Value) (t : Nat) : Bx2 (w.alloc (.cells #[x, y] t)) w.heap.size x y := by
  constructor <;> simp [World.cell?_alloc_new]
end Tp
end Go.Proofs.Ytpmlpojefelbbaa
namespace Go.Proofs.Ytpmlpojefelbbaa
open Go.ChangeShapes Go.WideShapes Go.ChangeAt Go.RowKit
set_option linter.unusedVariables false
set_option linter.unusedSimpArgs false
attribute [local go_sem ↓] Go.wp_at_zero Go.wp_at_succ
namespace Tw
open W1 Tu St
end Tw
end Go.Proofs.Ytpmlpojefelbbaa
namespace Go.Proofs.Ytpmlpojefelbbaa
open Go.ChangeShapes Go.WideShapes Go.ChangeAt Go.RowKit
set_option linter.unusedVariables false
set_option linter.unusedSimpArgs false
set_option maxRecDepth 100000
attribute [local go_sem ↓] Go.wp_at_zero Go.wp_at_succ
namespace Tp
open W1 Tu St Tw
theorem lt_block {w : World} {b : Nat} {c : Obj} (h : w.heap[b]? = some c) : b < w.heap.size := by
  rcases Nat.lt_or_ge b w.heap.size with hlt | hge
  · exact hlt
  · rw [Array.getElem?_eq_none hge] at h; cases h
theorem heap_set {w : World} {b i : Nat} {c : Array Value} {t : TypeId} {fr : Nat × Nat} (u : Value) (h : w.heap[b]? = some (.cells c t fr)) : (w.setCell ⟨b, i, none⟩ u).heap[b]? = some (.cells (c.setIfInBounds i u) t fr) := by
  have hlt := lt_block h
  have h' : w.heap[b] = .cells c t fr := by simpa [Array.getElem?_eq_getElem hlt] using h
  show (w.heap.modify b _)[b]? = _
  rw [Array.getElem?_eq_getElem (by simpa using hlt), Array.getElem_modify_self, h']
  rfl
/-- A source's block that may be written. -/
def SV (w : World) (b : Nat) (m : So.R) : Prop := w.heap[b]? = some (.cells #[.int .i64 m.ad, .int .i64 m.an, .int .i64 m.til] 77 (0, 0))
theorem SV.cells {w : World} {b : Nat} {m : So.R} (h : SV w b m) : So.At w b 0 m := by
  unfold SV at h; refine ⟨?_, ?_, ?_⟩ <;> simp [World.cell?, h]
theorem SV.free {w : World} {b : Nat} {m : So.R} (h : SV w b m) (i : Nat) : w.frozen? ⟨b, i, none⟩ = false := by unfold SV at h; simp [World.frozen?, h]
theorem SV.lt {w : World} {b : Nat} {m : So.R} (h : SV w b m) : b < w.heap.size := lt_block h
theorem SV.below {w w' : World} {b : Nat} {m : So.R} (h : SV w b m) (hb : Below w.heap.size w w') : SV w' b m := (hb.block b h.lt).trans h
/-- A topology's block that may be written. -/
def TV (w : World) (b : Nat) (x y : Value) : Prop := w.heap[b]? = some (.cells #[x, y] 43 (0, 0))
theorem TV.bx {w : World} {b : Nat} {x y : Value} (h : TV w b x y) : Bx2 w b x y := by
  unfold TV at h; constructor <;> simp [World.cell?, h]
theorem TV.free {w : World} {b : Nat} {x y : Value} (h : TV w b x y) (i : Nat) : w.frozen? ⟨b, i, none⟩ = false := by unfold TV at h; simp [World.frozen?, h]
theorem TV.lt {w : World} {b : Nat} {x y : Value} (h : TV w b x y) : b < w.heap.size := lt_block h
theorem TV.drew {w : World} {b : Nat} {x y : Value} (h : TV w b x y) : TV w.drew b x y := h
theorem TV.below {w w' : World} {b : Nat} {x y : Value} (h : TV w b x y) (hb : Below w.heap.size w w') : TV w' b x y := (hb.block b h.lt).trans h
theorem TV.under {w w' : World} {B b : Nat} {x y : Value} (h : TV w b x y) (hb : Below B w w') (hl : b < B) : TV w' b x y := (hb.block b hl).trans h
theorem TV.grown {w w' : World} {b : Nat} {x y : Value} {r : Option Nat} (h : TV w b x y) (hg : w.grownBy w' r) (hne : some b ≠ r) : TV w' b x y := (hg.block b h.lt hne).trans h
theorem tv_new (w : World) (x y : Value) : TV (w.alloc (.cells #[x, y] 43)) w.heap.size x y := heap_alloc_new w _
theorem TV.set0 {w : World} {b : Nat} {x y : Value} (h : TV w b x y) (u : Value) : TV (w.setCell ⟨b, 0, none⟩ u) b u y := heap_set u h
theorem TV.set1 {w : World} {b : Nat} {x y : Value} (h : TV w b x y) (u : Value) : TV (w.setCell ⟨b, 1, none⟩ u) b x u := heap_set u h
theorem TV.put {w : World} {b : Nat} {x y : Value} (h : TV w b x y) (u v : Value) : TV ((w.setCell ⟨b, 0, none⟩ u).setCell ⟨b, 1, none⟩ v) b u v := (h.set0 u).set1 v
theorem TV.other {w : World} {b : Nat} {x y : Value} (h : TV w b x y) {p : Addr} (hp : b ≠ p.block) (u : Value) : TV (w.setCell p u) b x y := (Below.heap_setCell _ _ _ _ hp).trans h
end Tp
end Go.Proofs.Ytpmlpojefelbbaa
namespace Go.Proofs.Ytpmlpojefelbbaa
open Go.ChangeShapes Go.WideShapes Go.ChangeAt Go.RowKit
set_option linter.unusedVariables false
set_option linter.unusedSimpArgs false
set_option maxRecDepth 100000
attribute [local go_sem ↓] Go.wp_at_zero Go.wp_at_succ
namespace Tq
open W1 Tp
set_option maxHeartbeats 2000000 in
theorem eq (a : Option Addr) (ss : List So.R) (ca : Nat) (b : Option Addr) (es : List Tu.R) (cb : Nat) (c : Option Addr) (cc : Nat) (d : Option Addr) (cd : Nat) (w : World) (hm : ss.length ≤ 1048576) (hl : es.length ≤ 1048576) (h1 : So.RM w a ss) (h2 : Tu.RM w b es) (h3 : So.RM w c ss) (h4 : Tu.RM w d es) :
    Calls Try.prog 50 #[.agg #[.slice a ss.length ca, .slice b es.length cb], .agg #[.slice c ss.length cc, .slice d es.length cd]] w fun e w' => e = .returned (.bool true) ∧ Below w.heap.size w w' := by
  have HA0 : Hid (Below w.heap.size w (w.alloc (.cells #[.slice a ss.length ca, .slice b es.length cb] 43))) := hide ((Below.refl _ _).alloc (Nat.le_refl _) _)
  have HA : Hid (Below w.heap.size w ((w.alloc (.cells #[.slice a ss.length ca, .slice b es.length cb] 43)).alloc (.cells #[.slice c ss.length cc, .slice d es.length cd] 43))) := hide ((unhide HA0).alloc (unhide HA0).size _)
  have HX : Hid (Bx2 ((w.alloc (.cells #[.slice a ss.length ca, .slice b es.length cb] 43)).alloc (.cells #[.slice c ss.length cc, .slice d es.length cd] 43)) w.heap.size (.slice a ss.length ca) (.slice b es.length cb)) := hide ((bx2_new w _ _ _).below ((Below.refl _ _).alloc (Nat.le_refl _) _))
  have HY : Hid (Bx2 ((w.alloc (.cells #[.slice a ss.length ca, .slice b es.length cb] 43)).alloc (.cells #[.slice c ss.length cc, .slice d es.length cd] 43)) (w.heap.size + 1) (.slice c ss.length cc) (.slice d es.length cd)) := hide (by have := bx2_new (w.alloc (.cells #[.slice a ss.length ca, .slice b es.length cb] 43)) (.slice c ss.length cc) (.slice d es.length cd) 43; rw [show (w.alloc (.cells #[.slice a ss.length ca, .slice b es.length cb] 43)).heap.size = w.heap.size + 1 by simp] at this; exact this)
  have H1 := hide (h1.below (unhide HA))
  have H2 := hide (h2.below (unhide HA))
  have H3 := hide (h3.below (unhide HA))
  have H4 := hide (h4.below (unhide HA))
  clear h1 h2 h3 h4 HA0
  go_enter Try.func50, Try.ntmps50
  go_wp2_with fail
  refine (So.eqS a c ss ca cc _ hm (unhide H1) (unhide H3)).mono ?_
  rintro e w1 ⟨rfl, b1⟩
  have B1 := hide ((unhide HA).trans (b1.mono (unhide HA).size))
  obtain ⟨z0, z1⟩ := (unhide HX).below b1
  obtain ⟨y0, y1⟩ := (unhide HY).below b1
  have H2' := hide ((unhide H2).below b1)
  have H4' := hide ((unhide H4).below b1)
  clear b1
  go_wp2_with fail
  refine (Tu.eqS b d es cb cd _ hl (unhide H2') (unhide H4')).mono ?_
  rintro e w2 ⟨rfl, b2⟩
  have B2 := hide ((unhide B1).trans (b2.mono (unhide B1).size))
  clear b2 z0 z1 y0 y1
  go_wp2_with fail
  go_ret
  exact ⟨rfl, unhide B2⟩
end Tq
end Go.Proofs.Ytpmlpojefelbbaa
namespace Go.Proofs.Ytpmlpojefelbbaa
open Go.ChangeShapes Go.WideShapes Go.ChangeAt Go.RowKit
set_option linter.unusedVariables false
set_option linter.unusedSimpArgs false
set_option maxRecDepth 100000
attribute [local go_sem ↓] Go.wp_at_zero Go.wp_at_succ
namespace Rt
open W1
theorem RA.other {w : World} {b : Nat} {cs : List Value} (h : RA w b cs) {p : Addr} (hne : b ≠ p.block) (v : Value) : RA (w.setCell p v) b cs := by
  have hb : (w.setCell p v).heap[b]? = w.heap[b]? := Below.heap_setCell _ _ _ _ hne
  refine ⟨fun j u hu => ?_, fun j hj => ⟨?_, ?_⟩, h.2.2⟩
  · exact (World.cell?_of_block (a := ⟨b, 0 + j, none⟩) hb).trans (h.1 j u hu)
  · rw [World.cell?_of_block (a := ⟨b, 0 + j, none⟩) hb]; exact (h.2.1 j hj).1
  · rw [World.frozen?_setCell]; exact (h.2.1 j hj).2
set_option maxHeartbeats 16000000 in
theorem eqR (x1 x2 x3 x4 x5 x6 : Int) (a1 a2 a3 a4 a5 a6 a7 : Option Addr) (c1 c2 c3 c4 c5 c6 c7 : Nat) (b1 b2 b3 b4 b5 b6 b7 : Option Addr) (d1 d2 d3 d4 d5 d6 d7 : Nat) (ls : List Lk.R) (tw : List Tu.R) (se : List Tu.R) (du : List Tu.R) (ss : List So.R) (es : List Tu.R) (la : List Ed.R) (w : World) (hm1 : ls.length ≤ 1048576) (hm2 : tw.length ≤ 1048576) (hm3 : se.length ≤ 1048576) (hm4 : du.length ≤ 1048576) (hm5 : ss.length ≤ 1048576) (hm6 : es.length ≤ 1048576) (hm7 : la.length ≤ 1048576) (hr1 : Lk.RM w a1 ls) (hr2 : Tu.RM w a2 tw) (hr3 : Tu.RM w a3 se) (hr4 : Tu.RM w a4 du) (hr5 : So.RM w a5 ss) (hr6 : Tu.RM w a6 es) (hr7 : Ed.RM w a7 la) (hs1 : Lk.RM w b1 ls) (hs2 : Tu.RM w b2 tw) (hs3 : Tu.RM w b3 se) (hs4 : Tu.RM w b4 du) (hs5 : So.RM w b5 ss) (hs6 : Tu.RM w b6 es) (hs7 : Ed.RM w b7 la) :
    Calls Try.prog 36 #[.agg #[.int .i64 x1, .int .i64 x2, .int .i64 x3, .int .i64 x4, .int .i64 x5, .slice a1 ls.length c1, .slice a2 tw.length c2, .slice a3 se.length c3, .slice a4 du.length c4, .slice a5 ss.length c5, .slice a6 es.length c6, .slice a7 la.length c7, .int .i64 x6], .agg #[.int .i64 x1, .int .i64 x2, .int .i64 x3, .int .i64 x4, .int .i64 x5, .slice b1 ls.length d1, .slice b2 tw.length d2, .slice b3 se.length d3, .slice b4 du.length d4, .slice b5 ss.length d5, .slice b6 es.length d6, .slice b7 la.length d7, .int .i64 x6]] w fun e w' => e = .returned (.bool true) ∧ Below w.heap.size w w' := by
  have HA1 : Hid (Below w.heap.size w (w.alloc (.cells #[.int .i64 x1, .int .i64 x2, .int .i64 x3, .int .i64 x4, .int .i64 x5, .slice a1 ls.length c1, .slice a2 tw.length c2, .slice a3 se.length c3, .slice a4 du.length c4, .slice a5 ss.length c5, .slice a6 es.length c6, .slice a7 la.length c7, .int .i64 x6] 46))) := hide ((Below.refl _ _).alloc (Nat.le_refl _) _)
  have HB0 : Hid (Below w.heap.size w ((w.alloc (.cells #[.int .i64 x1, .int .i64 x2, .int .i64 x3, .int .i64 x4, .int .i64 x5, .slice a1 ls.length c1, .slice a2 tw.length c2, .slice a3 se.length c3, .slice a4 du.length c4, .slice a5 ss.length c5, .slice a6 es.length c6, .slice a7 la.length c7, .int .i64 x6] 46)).alloc (.cells #[.int .i64 x1, .int .i64 x2, .int .i64 x3, .int .i64 x4, .int .i64 x5, .slice b1 ls.length d1, .slice b2 tw.length d2, .slice b3 se.length d3, .slice b4 du.length d4, .slice b5 ss.length d5, .slice b6 es.length d6, .slice b7 la.length d7, .int .i64 x6] 46))) := hide ((unhide HA1).alloc (unhide HA1).size _)
  have HX0 : Hid (RA ((w.alloc (.cells #[.int .i64 x1, .int .i64 x2, .int .i64 x3, .int .i64 x4, .int .i64 x5, .slice a1 ls.length c1, .slice a2 tw.length c2, .slice a3 se.length c3, .slice a4 du.length c4, .slice a5 ss.length c5, .slice a6 es.length c6, .slice a7 la.length c7, .int .i64 x6] 46)).alloc (.cells #[.int .i64 x1, .int .i64 x2, .int .i64 x3, .int .i64 x4, .int .i64 x5, .slice b1 ls.length d1, .slice b2 tw.length d2, .slice b3 se.length d3, .slice b4 du.length d4, .slice b5 ss.length d5, .slice b6 es.length d6, .slice b7 la.length d7, .int .i64 x6] 46)) w.heap.size (rC x1 x2 x3 x4 x5 (.slice a1 ls.length c1) (.slice a2 tw.length c2) (.slice a3 se.length c3) (.slice a4 du.length c4) (.slice a5 ss.length c5) (.slice a6 es.length c6) (.slice a7 la.length c7) x6)) := hide ((ra_new w _ rfl _).below ((Below.refl _ _).alloc (Nat.le_refl _) _))
  have HY0 : Hid (RA ((w.alloc (.cells #[.int .i64 x1, .int .i64 x2, .int .i64 x3, .int .i64 x4, .int .i64 x5, .slice a1 ls.length c1, .slice a2 tw.length c2, .slice a3 se.length c3, .slice a4 du.length c4, .slice a5 ss.length c5, .slice a6 es.length c6, .slice a7 la.length c7, .int .i64 x6] 46)).alloc (.cells #[.int .i64 x1, .int .i64 x2, .int .i64 x3, .int .i64 x4, .int .i64 x5, .slice b1 ls.length d1, .slice b2 tw.length d2, .slice b3 se.length d3, .slice b4 du.length d4, .slice b5 ss.length d5, .slice b6 es.length d6, .slice b7 la.length d7, .int .i64 x6] 46)) (w.heap.size + 1) (rC x1 x2 x3 x4 x5 (.slice b1 ls.length d1) (.slice b2 tw.length d2) (.slice b3 se.length d3) (.slice b4 du.length d4) (.slice b5 ss.length d5) (.slice b6 es.length d6) (.slice b7 la.length d7) x6)) := hide (by have := ra_new (w.alloc (.cells #[.int .i64 x1, .int .i64 x2, .int .i64 x3, .int .i64 x4, .int .i64 x5, .slice a1 ls.length c1, .slice a2 tw.length c2, .slice a3 se.length c3, .slice a4 du.length c4, .slice a5 ss.length c5, .slice a6 es.length c6, .slice a7 la.length c7, .int .i64 x6] 46)) (rC x1 x2 x3 x4 x5 (.slice b1 ls.length d1) (.slice b2 tw.length d2) (.slice b3 se.length d3) (.slice b4 du.length d4) (.slice b5 ss.length d5) (.slice b6 es.length d6) (.slice b7 la.length d7) x6) rfl 46; rw [show (w.alloc (.cells #[.int .i64 x1, .int .i64 x2, .int .i64 x3, .int .i64 x4, .int .i64 x5, .slice a1 ls.length c1, .slice a2 tw.length c2, .slice a3 se.length c3, .slice a4 du.length c4, .slice a5 ss.length c5, .slice a6 es.length c6, .slice a7 la.length c7, .int .i64 x6] 46)).heap.size = w.heap.size + 1 by simp] at this; exact this)
  have HR1 := hide hr1
  have HS1 := hide hs1
  have HR2 := hide hr2
  have HS2 := hide hs2
  have HR3 := hide hr3
  have HS3 := hide hs3
  have HR4 := hide hr4
  have HS4 := hide hs4
  have HR5 := hide hr5
  have HS5 := hide hs5
  have HR6 := hide hr6
  have HS6 := hide hs6
  have HR7 := hide hr7
  have HS7 := hide hs7
  clear hr1 hs1 hr2 hs2 hr3 hs3 hr4 hs4 hr5 hs5 hr6 hs6 hr7 hs7 HA1
  have hx1 : (x1 != x1) = false := by simp
  have hx2 : (x2 != x2) = false := by simp
  have hx3 : (x3 != x3) = false := by simp
  have hx4 : (x4 != x4) = false := by simp
  have hx5 : (x5 != x5) = false := by simp
  have hx6 : (x6 != x6) = false := by simp
  go_enter Try.func36, Try.ntmps36
  go_wp2_with fail
  generalize hW : ((w.alloc (.cells #[.int .i64 x1, .int .i64 x2, .int .i64 x3, .int .i64 x4, .int .i64 x5, .slice a1 ls.length c1, .slice a2 tw.length c2, .slice a3 se.length c3, .slice a4 du.length c4, .slice a5 ss.length c5, .slice a6 es.length c6, .slice a7 la.length c7, .int .i64 x6] 46)).alloc (.cells #[.int .i64 x1, .int .i64 x2, .int .i64 x3, .int .i64 x4, .int .i64 x5, .slice b1 ls.length d1, .slice b2 tw.length d2, .slice b3 se.length d3, .slice b4 du.length d4, .slice b5 ss.length d5, .slice b6 es.length d6, .slice b7 la.length d7, .int .i64 x6] 46)) = V0 at *
  clear hW
  refine (Lk.eqS a1 b1 ls c1 d1 _ hm1 ((unhide HR1).below (unhide HB0)) ((unhide HS1).below (unhide HB0))).mono ?_
  rintro e V1 ⟨rfl, d_⟩
  have HB1 := hide ((unhide HB0).trans (d_.mono (unhide HB0).size))
  have HX1 := hide ((unhide HX0).below d_)
  have HY1 := hide ((unhide HY0).below d_)
  clear d_ HX0 HY0
  have z6 := (unhide HX1).at (i := 6) rfl
  have y6 := (unhide HY1).at (i := 6) rfl
  go_wp2_with fail
  clear z6 y6
  refine (Tu.eqS a2 b2 tw c2 d2 _ hm2 ((unhide HR2).below (unhide HB1)) ((unhide HS2).below (unhide HB1))).mono ?_
  rintro e V2 ⟨rfl, d_⟩
  have HB2 := hide ((unhide HB1).trans (d_.mono (unhide HB1).size))
  have HX2 := hide ((unhide HX1).below d_)
  have HY2 := hide ((unhide HY1).below d_)
  clear d_ HX1 HY1
  have z7 := (unhide HX2).at (i := 7) rfl
  have y7 := (unhide HY2).at (i := 7) rfl
  go_wp2_with fail
  clear z7 y7
  refine (Tu.eqS a3 b3 se c3 d3 _ hm3 ((unhide HR3).below (unhide HB2)) ((unhide HS3).below (unhide HB2))).mono ?_
  rintro e V3 ⟨rfl, d_⟩
  have HB3 := hide ((unhide HB2).trans (d_.mono (unhide HB2).size))
  have HX3 := hide ((unhide HX2).below d_)
  have HY3 := hide ((unhide HY2).below d_)
  clear d_ HX2 HY2
  have z8 := (unhide HX3).at (i := 8) rfl
  have y8 := (unhide HY3).at (i := 8) rfl
  go_wp2_with fail
  clear z8 y8
  refine (Tu.eqS a4 b4 du c4 d4 _ hm4 ((unhide HR4).below (unhide HB3)) ((unhide HS4).below (unhide HB3))).mono ?_
  rintro e V4 ⟨rfl, d_⟩
  have HB4 := hide ((unhide HB3).trans (d_.mono (unhide HB3).size))
  have HX4 := hide ((unhide HX3).below d_)
  have HY4 := hide ((unhide HY3).below d_)
  clear d_ HX3 HY3
  have z9 := (unhide HX4).at (i := 9) rfl
  have y9 := (unhide HY4).at (i := 9) rfl
  have z10 := (unhide HX4).at (i := 10) rfl
  have y10 := (unhide HY4).at (i := 10) rfl
  go_wp2_with fail
  clear z9 y9 z10 y10
  refine (Tq.eq a5 ss c5 a6 es c6 b5 d5 b6 d6 _ hm5 hm6 ((unhide HR5).below (unhide HB4)) ((unhide HR6).below (unhide HB4)) ((unhide HS5).below (unhide HB4)) ((unhide HS6).below (unhide HB4))).mono ?_
  rintro e V5 ⟨rfl, d_⟩
  have HB5 := hide ((unhide HB4).trans (d_.mono (unhide HB4).size))
  have HX5 := hide ((unhide HX4).below d_)
  have HY5 := hide ((unhide HY4).below d_)
  clear d_ HX4 HY4
  have z11 := (unhide HX5).at (i := 11) rfl
  have y11 := (unhide HY5).at (i := 11) rfl
  go_wp2_with fail
  clear z11 y11
  refine (Ed.eqS a7 b7 la c7 d7 _ hm7 ((unhide HR7).below (unhide HB5)) ((unhide HS7).below (unhide HB5))).mono ?_
  rintro e V6 ⟨rfl, d_⟩
  have HB6 := hide ((unhide HB5).trans (d_.mono (unhide HB5).size))
  have HX6 := hide ((unhide HX5).below d_)
  have HY6 := hide ((unhide HY5).below d_)
  clear d_ HX5 HY5
  have z12 := (unhide HX6).at (i := 12) rfl
  have y12 := (unhide HY6).at (i := 12) rfl
  go_wp2_with fail
  go_ret
  exact ⟨rfl, unhide HB6⟩
end Rt
end Go.Proofs.Ytpmlpojefelbbaa
namespace Go.Proofs.Ytpmlpojefelbbaa
open Go.ChangeShapes Go.WideShapes Go.ChangeAt Go.RowKit
set_option linter.unusedVariables false
set_option linter.unusedSimpArgs false
set_option maxRecDepth 100000
attribute [local go_sem ↓] Go.wp_at_zero Go.wp_at_succ
namespace Rt
open W1
theorem RA.but {w w' : World} {b : Nat} {cs : List Value} (h : RA w b cs) (hb : w'.heap[b]? = w.heap[b]?) : RA w' b cs := by
  have c : ∀ q, w'.cell? ⟨b, q, none⟩ = w.cell? ⟨b, q, none⟩ := fun q => World.cell?_of_block (a := ⟨b, q, none⟩) hb
  have f : ∀ q, w'.frozen? ⟨b, q, none⟩ = w.frozen? ⟨b, q, none⟩ := fun q => World.frozen?_of_block (a := ⟨b, q, none⟩) hb
  exact ⟨fun j u hu => (c _).trans (h.1 j u hu), fun j hj => ⟨by rw [c]; exact (h.2.1 j hj).1, by rw [f]; exact (h.2.1 j hj).2⟩, h.2.2⟩
end Rt
end Go.Proofs.Ytpmlpojefelbbaa
namespace Go.Proofs.Ytpmlpojefelbbaa
open Go.ChangeShapes Go.WideShapes Go.ChangeAt Go.RowKit
set_option linter.unusedVariables false
set_option linter.unusedSimpArgs false
set_option maxRecDepth 100000
namespace Rt
open W1
/-- Seven lists that lie one behind the other between two bounds of the heap. -/
def RL (W : World) (lo hi : Nat) (a1 a2 a3 a4 a5 a6 a7 : Option Addr) (ls : List Lk.R) (tw : List Tu.R) (se : List Tu.R) (du : List Tu.R) (ss : List So.R) (es : List Tu.R) (la : List Ed.R) : Prop :=
  ∃ b1 b2 b3 b4 b5 b6 : Nat, (lo ≤ b1 ∧ b1 ≤ b2 ∧ b2 ≤ b3 ∧ b3 ≤ b4 ∧ b4 ≤ b5 ∧ b5 ≤ b6 ∧ b6 ≤ hi) ∧ Lk.Lst W a1 (ls) lo b1 ∧ Tu.Lst W a2 (tw) b1 b2 ∧ Tu.Lst W a3 (se) b2 b3 ∧ Tu.Lst W a4 (du) b3 b4 ∧ So.Lst W a5 (ss) b4 b5 ∧ Tu.Lst W a6 (es) b5 b6 ∧ Ed.Lst W a7 (la) b6 hi
theorem RL.below {W W' : World} {lo hi : Nat} {a1 a2 a3 a4 a5 a6 a7 : Option Addr} {ls : List Lk.R} {tw : List Tu.R} {se : List Tu.R} {du : List Tu.R} {ss : List So.R} {es : List Tu.R} {la : List Ed.R} (h : RL W lo hi a1 a2 a3 a4 a5 a6 a7 ls tw se du ss es la) (hb : Below W.heap.size W W') : RL W' lo hi a1 a2 a3 a4 a5 a6 a7 ls tw se du ss es la := by
  obtain ⟨b1, b2, b3, b4, b5, b6, ⟨o0, o1, o2, o3, o4, o5, o6⟩, h1, h2, h3, h4, h5, h6, h7⟩ := h
  exact ⟨b1, b2, b3, b4, b5, b6, ⟨o0, o1, o2, o3, o4, o5, o6⟩, h1.below hb, h2.below hb, h3.below hb, h4.below hb, h5.below hb, h6.below hb, h7.below hb⟩
theorem RL.but {W W' : World} {lo hi L H : Nat} {a1 a2 a3 a4 a5 a6 a7 : Option Addr} {ls : List Lk.R} {tw : List Tu.R} {se : List Tu.R} {du : List Tu.R} {ss : List So.R} {es : List Tu.R} {la : List Ed.R} (h : RL W lo hi a1 a2 a3 a4 a5 a6 a7 ls tw se du ss es la) (hs : W.heap.size ≤ W'.heap.size) (hb : ∀ k, k < W.heap.size → (k < L ∨ H ≤ k) → W'.heap[k]? = W.heap[k]?) (hd : hi ≤ L ∨ H ≤ lo) : RL W' lo hi a1 a2 a3 a4 a5 a6 a7 ls tw se du ss es la := by
  obtain ⟨b1, b2, b3, b4, b5, b6, ⟨o0, o1, o2, o3, o4, o5, o6⟩, h1, h2, h3, h4, h5, h6, h7⟩ := h
  exact ⟨b1, b2, b3, b4, b5, b6, ⟨o0, o1, o2, o3, o4, o5, o6⟩, h1.but (p := fun k => k < L ∨ H ≤ k) hs (fun k hk h => hb k hk h) (fun k h1 h2 => by omega), h2.but (p := fun k => k < L ∨ H ≤ k) hs (fun k hk h => hb k hk h) (fun k h1 h2 => by omega), h3.but (p := fun k => k < L ∨ H ≤ k) hs (fun k hk h => hb k hk h) (fun k h1 h2 => by omega), h4.but (p := fun k => k < L ∨ H ≤ k) hs (fun k hk h => hb k hk h) (fun k h1 h2 => by omega), h5.but (p := fun k => k < L ∨ H ≤ k) hs (fun k hk h => hb k hk h) (fun k h1 h2 => by omega), h6.but (p := fun k => k < L ∨ H ≤ k) hs (fun k hk h => hb k hk h) (fun k h1 h2 => by omega), h7.but (p := fun k => k < L ∨ H ≤ k) hs (fun k hk h => hb k hk h) (fun k h1 h2 => by omega)⟩
theorem RL.r1 {W : World} {lo hi : Nat} {a1 a2 a3 a4 a5 a6 a7 : Option Addr} {ls : List Lk.R} {tw : List Tu.R} {se : List Tu.R} {du : List Tu.R} {ss : List So.R} {es : List Tu.R} {la : List Ed.R} (h : RL W lo hi a1 a2 a3 a4 a5 a6 a7 ls tw se du ss es la) : Lk.RM W a1 ls := by obtain ⟨b1, b2, b3, b4, b5, b6, ⟨o0, o1, o2, o3, o4, o5, o6⟩, h1, h2, h3, h4, h5, h6, h7⟩ := h; exact h1.rm
theorem RL.r2 {W : World} {lo hi : Nat} {a1 a2 a3 a4 a5 a6 a7 : Option Addr} {ls : List Lk.R} {tw : List Tu.R} {se : List Tu.R} {du : List Tu.R} {ss : List So.R} {es : List Tu.R} {la : List Ed.R} (h : RL W lo hi a1 a2 a3 a4 a5 a6 a7 ls tw se du ss es la) : Tu.RM W a2 tw := by obtain ⟨b1, b2, b3, b4, b5, b6, ⟨o0, o1, o2, o3, o4, o5, o6⟩, h1, h2, h3, h4, h5, h6, h7⟩ := h; exact h2.rm
theorem RL.r3 {W : World} {lo hi : Nat} {a1 a2 a3 a4 a5 a6 a7 : Option Addr} {ls : List Lk.R} {tw : List Tu.R} {se : List Tu.R} {du : List Tu.R} {ss : List So.R} {es : List Tu.R} {la : List Ed.R} (h : RL W lo hi a1 a2 a3 a4 a5 a6 a7 ls tw se du ss es la) : Tu.RM W a3 se := by obtain ⟨b1, b2, b3, b4, b5, b6, ⟨o0, o1, o2, o3, o4, o5, o6⟩, h1, h2, h3, h4, h5, h6, h7⟩ := h; exact h3.rm
theorem RL.r4 {W : World} {lo hi : Nat} {a1 a2 a3 a4 a5 a6 a7 : Option Addr} {ls : List Lk.R} {tw : List Tu.R} {se : List Tu.R} {du : List Tu.R} {ss : List So.R} {es : List Tu.R} {la : List Ed.R} (h : RL W lo hi a1 a2 a3 a4 a5 a6 a7 ls tw se du ss es la) : Tu.RM W a4 du := by obtain ⟨b1, b2, b3, b4, b5, b6, ⟨o0, o1, o2, o3, o4, o5, o6⟩, h1, h2, h3, h4, h5, h6, h7⟩ := h; exact h4.rm
theorem RL.r5 {W : World} {lo hi : Nat} {a1 a2 a3 a4 a5 a6 a7 : Option Addr} {ls : List Lk.R} {tw : List Tu.R} {se : List Tu.R} {du : List Tu.R} {ss : List So.R} {es : List Tu.R} {la : List Ed.R} (h : RL W lo hi a1 a2 a3 a4 a5 a6 a7 ls tw se du ss es la) : So.RM W a5 ss := by obtain ⟨b1, b2, b3, b4, b5, b6, ⟨o0, o1, o2, o3, o4, o5, o6⟩, h1, h2, h3, h4, h5, h6, h7⟩ := h; exact h5.rm
theorem RL.r6 {W : World} {lo hi : Nat} {a1 a2 a3 a4 a5 a6 a7 : Option Addr} {ls : List Lk.R} {tw : List Tu.R} {se : List Tu.R} {du : List Tu.R} {ss : List So.R} {es : List Tu.R} {la : List Ed.R} (h : RL W lo hi a1 a2 a3 a4 a5 a6 a7 ls tw se du ss es la) : Tu.RM W a6 es := by obtain ⟨b1, b2, b3, b4, b5, b6, ⟨o0, o1, o2, o3, o4, o5, o6⟩, h1, h2, h3, h4, h5, h6, h7⟩ := h; exact h6.rm
theorem RL.r7 {W : World} {lo hi : Nat} {a1 a2 a3 a4 a5 a6 a7 : Option Addr} {ls : List Lk.R} {tw : List Tu.R} {se : List Tu.R} {du : List Tu.R} {ss : List So.R} {es : List Tu.R} {la : List Ed.R} (h : RL W lo hi a1 a2 a3 a4 a5 a6 a7 ls tw se du ss es la) : Ed.RM W a7 la := by obtain ⟨b1, b2, b3, b4, b5, b6, ⟨o0, o1, o2, o3, o4, o5, o6⟩, h1, h2, h3, h4, h5, h6, h7⟩ := h; exact h7.rm
end Rt
end Go.Proofs.Ytpmlpojefelbbaa
namespace Go.Proofs.Ytpmlpojefelbbaa
open Go.ChangeShapes Go.WideShapes Go.ChangeAt Go.RowKit
set_option linter.unusedVariables false
set_option linter.unusedSimpArgs false
set_option maxRecDepth 100000
attribute [local go_sem ↓] Go.wp_at_zero Go.wp_at_succ
namespace Nt
open W1 Rt
theorem eqN (m : Rm) (p q : Pl) (w : World) (hs : Sm m) (hr : Rd w m p) (hq : Rd w m q) :
    Calls Try.prog 36 #[.agg (cl m p).toArray, .agg (cl m q).toArray] w fun e w' => e = .returned (.bool true) ∧ Below w.heap.size w w' := by
  obtain ⟨s1, s2, s3, s4, s5, s6, s7⟩ := hs
  obtain ⟨r1, r2, r3, r4, r5, r6, r7⟩ := hr
  obtain ⟨q1, q2, q3, q4, q5, q6, q7⟩ := hq
  exact eqR m.x1 m.x2 m.x3 m.x4 m.x5 m.x6 p.a1 p.a2 p.a3 p.a4 p.a5 p.a6 p.a7 p.c1 p.c2 p.c3 p.c4 p.c5 p.c6 p.c7 q.a1 q.a2 q.a3 q.a4 q.a5 q.a6 q.a7 q.c1 q.c2 q.c3 q.c4 q.c5 q.c6 q.c7 m.ls m.tw m.se m.du m.ss m.es m.la w s1 s2 s3 s4 s5 s6 s7 r1 r2 r3 r4 r5 r6 r7 q1 q2 q3 q4 q5 q6 q7
/-- Lists that may be written, one behind the other between two bounds. -/
def Ow (w : World) (lo hi : Nat) (m : Rm) (p : Pl) : Prop := RL w lo hi p.a1 p.a2 p.a3 p.a4 p.a5 p.a6 p.a7 m.ls m.tw m.se m.du m.ss m.es m.la
theorem Ow.rd {w : World} {lo hi : Nat} {m : Rm} {p : Pl} (h : Ow w lo hi m p) : Rd w m p := ⟨RL.r1 h, RL.r2 h, RL.r3 h, RL.r4 h, RL.r5 h, RL.r6 h, RL.r7 h⟩
theorem Ow.below {w w' : World} {lo hi : Nat} {m : Rm} {p : Pl} (h : Ow w lo hi m p) (hb : Below w.heap.size w w') : Ow w' lo hi m p := RL.below h hb
theorem Ow.but {w w' : World} {lo hi Lo Hi : Nat} {m : Rm} {p : Pl} (h : Ow w lo hi m p) (hs : w.heap.size ≤ w'.heap.size) (hb : ∀ k, k < w.heap.size → (k < Lo ∨ Hi ≤ k) → w'.heap[k]? = w.heap[k]?) (hd : hi ≤ Lo ∨ Hi ≤ lo) : Ow w' lo hi m p := RL.but h hs hb hd
/-- A net in a variable's block. -/
def NB (w : World) (b : Nat) (v1 v2 v3 : Value) (t : Int) : Prop := w.cell? ⟨b, 0, none⟩ = some v1 ∧ w.cell? ⟨b, 1, none⟩ = some v2 ∧ w.cell? ⟨b, 2, none⟩ = some v3 ∧ w.cell? ⟨b, 3, none⟩ = some (.int .i64 t)
theorem NB.lt {w : World} {b : Nat} {v1 v2 v3 : Value} {t : Int} (h : NB w b v1 v2 v3 t) : b < w.heap.size := World.block_lt_of_cell? _ _ h.1
theorem NB.below {w w' : World} {b : Nat} {v1 v2 v3 : Value} {t : Int} (h : NB w b v1 v2 v3 t) (hb : Below w.heap.size w w') : NB w' b v1 v2 v3 t := by
  have hg := h.lt
  obtain ⟨h0, h1, h2, h3⟩ := h
  refine ⟨?_, ?_, ?_, ?_⟩ <;> (rw [hb.cell hg]; assumption)
theorem NB.drew {w : World} {b : Nat} {v1 v2 v3 : Value} {t : Int} (h : NB w b v1 v2 v3 t) : NB w.drew b v1 v2 v3 t := h
theorem nb_new (w : World) (v1 v2 v3 : Value) (t : Int) (ty : Nat) : NB (w.alloc (.cells #[v1, v2, v3, .int .i64 t] ty)) w.heap.size v1 v2 v3 t := by
  refine ⟨?_, ?_, ?_, ?_⟩ <;> simp [World.cell?_alloc_new]
theorem bel_new (w : World) (ob : Obj) : Below w.heap.size w (w.alloc ob) := (Below.refl _ _).alloc (Nat.le_refl _) ob
end Nt
end Go.Proofs.Ytpmlpojefelbbaa
namespace Go.Proofs.Ytpmlpojefelbbaa
open Go.ChangeShapes Go.WideShapes Go.ChangeAt Go.RowKit
set_option linter.unusedVariables false
set_option linter.unusedSimpArgs false
set_option maxRecDepth 100000
attribute [local go_sem ↓] Go.wp_at_zero Go.wp_at_succ
namespace Fm
open W1
structure R where
  fr : Int
  tt : Int
  ti : Int
  bs : ByteArray
def R.zero : R := ⟨0, 0, 0, ByteArray.empty⟩
/-- The value of one. -/
def R.value (m : R) : Value := .agg #[.int .i64 m.fr, .int .i64 m.tt, .int .i64 m.ti, .string m.bs]
/-- The cells of one, of a list of them. -/
def R.cells (m : R) : List Value := [.int .i64 m.fr, .int .i64 m.tt, .int .i64 m.ti, .string m.bs]
def flat (ms : List R) : List Value := ms.flatMap R.cells
/-- The cells of one that lies at an address. -/
def At (w : World) (g o : Nat) (m : R) : Prop :=
  w.cell? ⟨g, o, none⟩ = some (.int .i64 m.fr) ∧ w.cell? ⟨g, o + 1, none⟩ = some (.int .i64 m.tt) ∧ w.cell? ⟨g, o + 2, none⟩ = some (.int .i64 m.ti) ∧ w.cell? ⟨g, o + 3, none⟩ = some (.string m.bs)
/-- The slice at a reads as these. -/
def RM (w : World) (a : Option Addr) (ms : List R) : Prop :=
  ms = [] ∨ ∃ g off, a = some ⟨g, off, none⟩ ∧ ∀ i, i < ms.length → At w g (off + i * 4) (ms.getD i R.zero)
theorem At.below {w w' : World} {g o : Nat} {m : R} (h : At w g o m) (hb : Below w.heap.size w w') : At w' g o m := by
  have hg : g < w.heap.size := World.block_lt_of_cell? _ _ h.1
  obtain ⟨h0, h1, h2, h3⟩ := h
  refine ⟨?_, ?_, ?_, ?_⟩ <;> (rw [hb.cell hg]; assumption)
theorem At.drew {w : World} {g o : Nat} {m : R} (h : At w g o m) : At w.drew g o m := h
theorem RM.below {w w' : World} {a : Option Addr} {ms : List R} (h : RM w a ms) (hb : Below w.heap.size w w') : RM w' a ms := by
  rcases h with h | ⟨g, off, rfl, hc⟩
  · exact .inl h
  · exact .inr ⟨g, off, rfl, fun i hi => (hc i hi).below hb⟩
theorem RM.drew {w : World} {a : Option Addr} {ms : List R} (h : RM w a ms) : RM w.drew a ms := h
theorem RM.at {w : World} {g off : Nat} {ms : List R} {i : Nat} (h : RM w (some ⟨g, off, none⟩) ms) (hi : i < ms.length) : At w g (off + i * 4) (ms.getD i R.zero) := by
  rcases h with rfl | ⟨g', off', e, hc⟩
  · simp at hi
  · cases e; exact hc i hi
theorem RM.form {w : World} {a : Option Addr} {ms : List R} (h : RM w a ms) (h0 : 0 < ms.length) : ∃ g off, a = some ⟨g, off, none⟩ := by
  rcases h with rfl | ⟨g, off, e, _⟩
  · simp at h0
  · exact ⟨g, off, e⟩
theorem R.len (m : R) : m.cells.length = 4 := rfl
theorem flat_len (ms : List R) : (flat ms).length = ms.length * 4 := by
  unfold flat
  induction ms with
  | nil => rfl
  | cons m t ih => rw [List.flatMap_cons, List.length_append, ih, R.len, List.length_cons]; omega
theorem flat_append (xs ys : List R) : flat (xs ++ ys) = flat xs ++ flat ys := by unfold flat; rw [List.flatMap_append]
theorem flat_get : ∀ (ms : List R) (i j : Nat), j < 4 → i < ms.length → (flat ms)[i * 4 + j]? = (ms.getD i R.zero).cells[j]?
  | [], i, j, hj, hi => by simp at hi
  | m :: t, 0, j, hj, hi => by
    unfold flat
    rw [List.flatMap_cons, Nat.zero_mul, Nat.zero_add, List.getElem?_append_left (by rw [R.len]; exact hj)]; rfl
  | m :: t, i + 1, j, hj, hi => by
    have ih := flat_get t i j hj (by simpa using hi)
    unfold flat at ih ⊢
    rw [List.flatMap_cons, show (i + 1) * 4 + j = m.cells.length + (i * 4 + j) by rw [R.len]; omega, List.getElem?_append_right (by omega), Nat.add_sub_cancel_left, ih]; rfl
theorem cell_one {m : R} {u : Value} (h : u ∈ m.cells) : u.oneCell' = true := by
  unfold R.cells at h; simp only [List.mem_cons, List.not_mem_nil, or_false] at h
  rcases h with rfl | rfl | rfl | rfl <;> rfl
theorem flat_one_cell {ms : List R} {u : Value} (h : u ∈ flat ms) : u.oneCell' = true := by
  obtain ⟨m, _, hu⟩ := List.mem_flatMap.1 h; exact cell_one hu
theorem at_cells {w : World} {g o : Nat} {m : R} (h : At w g o m) : ∀ j u, m.cells[j]? = some u → w.cell? ⟨g, o + j, none⟩ = some u := by
  intro j u hj
  match j, hj with
  | 0, hj => simp [R.cells] at hj; subst hj; exact h.1
  | 1, hj => simp [R.cells] at hj; subst hj; exact h.2.1
  | 2, hj => simp [R.cells] at hj; subst hj; exact h.2.2.1
  | 3, hj => simp [R.cells] at hj; subst hj; exact h.2.2.2
  | n + 4, hj => simp [R.cells] at hj
theorem plain_add (b off k : Nat) : (⟨b, off, none⟩ : Addr).add k = ⟨b, off + k, none⟩ := by unfold Addr.add; split <;> simp_all
/-- A list that is read, cell by cell. -/
theorem RM.cells {w : World} {g off : Nat} {ms : List R} (h : RM w (some ⟨g, off, none⟩) ms) : ∀ j u, (flat ms)[j]? = some u → w.cell? ((⟨g, off, none⟩ : Addr).add j) = some u := by
  intro j u hj
  have hl : j < ms.length * 4 := by
    rw [← flat_len]; exact (List.getElem?_eq_some_iff.1 hj).1
  have hi : j / 4 < ms.length := by omega
  have e : j / 4 * 4 + j % 4 = j := by omega
  rw [← e, flat_get ms _ _ (by omega) hi] at hj
  rw [plain_add, ← e, ← Nat.add_assoc]
  exact at_cells (h.at hi) _ _ hj
/-- A row of one's own that holds a list. -/
theorem at_own {w : World} {base g n cap : Nat} {ms : List R} (hn : n = ms.length) (h : w.ownsRow base 61 4 (.slice (some ⟨g, 0, none⟩) n cap) n (flat ms)) (i : Nat) (hi : i < ms.length) : At w g (i * 4) (ms.getD i R.zero) := by
  have hc : ∀ j, j < 4 → ∀ u, (ms.getD i R.zero).cells[j]? = some u → w.cell? ⟨g, i * 4 + j, none⟩ = some u := by
    intro j hj u hu
    have := h.cells (g := g) rfl (i * 4 + j) u (by rw [flat_get ms i j hj hi]; exact hu)
    rw [plain_add, Nat.zero_add] at this
    exact this
  exact ⟨hc 0 (by omega) _ rfl, hc 1 (by omega) _ rfl, hc 2 (by omega) _ rfl, hc 3 (by omega) _ rfl⟩

/-- One laid at an address. -/
def put (w : World) (g o : Nat) (m : R) : World := (((w.setCell ⟨g, o, none⟩ (.int .i64 m.fr)).setCell ⟨g, o + 1, none⟩ (.int .i64 m.tt)).setCell ⟨g, o + 2, none⟩ (.int .i64 m.ti)).setCell ⟨g, o + 3, none⟩ (.string m.bs)
theorem put_frozen (w : World) (g o : Nat) (m : R) (a : Addr) : (put w g o m).frozen? a = w.frozen? a := by
  unfold put; rw [World.frozen?_setCell, World.frozen?_setCell, World.frozen?_setCell, World.frozen?_setCell]
theorem put_far (w : World) (g o : Nat) (m : R) {b q : Nat} (h : b ≠ g ∨ q < o ∨ o + 4 ≤ q) : (put w g o m).cell? ⟨b, q, none⟩ = w.cell? ⟨b, q, none⟩ := by
  unfold put
  rw [World.cell?_setCell_other _ _ _ _ (by intro e; cases e <;> omega), World.cell?_setCell_other _ _ _ _ (by intro e; cases e <;> omega), World.cell?_setCell_other _ _ _ _ (by intro e; cases e <;> omega), World.cell?_setCell_other _ _ _ _ (by intro e; cases e <;> omega)]
theorem put_at (w : World) (g o : Nat) (m : R) (h : ∀ k, k < 4 → (w.cell? ⟨g, o + k, none⟩).isSome = true) : At (put w g o m) g o m := by
  obtain ⟨v0, h0⟩ := Option.isSome_iff_exists.1 (h 0 (by omega))
  obtain ⟨v1, h1⟩ := Option.isSome_iff_exists.1 (h 1 (by omega))
  obtain ⟨v2, h2⟩ := Option.isSome_iff_exists.1 (h 2 (by omega))
  obtain ⟨v3, h3⟩ := Option.isSome_iff_exists.1 (h 3 (by omega))
  rw [Nat.add_zero] at h0
  have n : ∀ {w : World} {v : Value} {a b : Nat}, a ≠ b → (w.setCell ⟨g, a, none⟩ v).cell? ⟨g, b, none⟩ = w.cell? ⟨g, b, none⟩ := fun {w v a b} e => World.cell?_setCell_other _ _ _ _ (by intro h; cases h; exact e rfl)
  unfold put
  refine ⟨?_, ?_, ?_, ?_⟩
  · rw [n (by omega), n (by omega), n (by omega), World.cell?_setCell_same _ _ _ h0]
  · rw [n (by omega), n (by omega), World.cell?_setCell_same _ _ _ ((n (by omega)).trans h1)]
  · rw [n (by omega), World.cell?_setCell_same _ _ _ ((n (by omega)).trans ((n (by omega)).trans h2))]
  · rw [World.cell?_setCell_same _ _ _ ((n (by omega)).trans ((n (by omega)).trans ((n (by omega)).trans h3)))]
theorem put_some (w : World) (g o : Nat) (m : R) (b q : Nat) (h : (w.cell? ⟨b, q, none⟩).isSome = true) : ((put w g o m).cell? ⟨b, q, none⟩).isSome = true := by
  obtain ⟨v, y0⟩ := Option.isSome_iff_exists.1 h
  unfold put
  obtain ⟨v1, y1⟩ := cell?_setCell_some (p := ⟨g, o, none⟩) (x := .int .i64 m.fr) y0
  obtain ⟨v2, y2⟩ := cell?_setCell_some (p := ⟨g, o + 1, none⟩) (x := .int .i64 m.tt) y1
  obtain ⟨v3, y3⟩ := cell?_setCell_some (p := ⟨g, o + 2, none⟩) (x := .int .i64 m.ti) y2
  obtain ⟨v4, y4⟩ := cell?_setCell_some (p := ⟨g, o + 3, none⟩) (x := .string m.bs) y3
  rw [y4]; rfl
/-- The first j stand at the head of block g, whose n times 4 cells may be written. -/
def Upto (w : World) (g n j : Nat) (ms : List R) : Prop :=
  (∀ i, i < j → At w g (i * 4) (ms.getD i R.zero)) ∧ ∀ i, i < n * 4 → (w.cell? ⟨g, i, none⟩).isSome = true ∧ w.frozen? ⟨g, i, none⟩ = false
theorem Upto.step {w : World} {g n j : Nat} {ms : List R} (h : Upto w g n j ms) (hj : j < n) : Upto (put w g (j * 4) (ms.getD j R.zero)) g n (j + 1) ms := by
  refine ⟨fun i hi => ?_, fun i hi => ⟨put_some _ _ _ _ _ _ (h.2 i hi).1, by rw [put_frozen]; exact (h.2 i hi).2⟩⟩
  by_cases e : i = j
  · subst e
    exact put_at _ _ _ _ (fun k hk => (h.2 _ (by omega)).1)
  · obtain ⟨h0, h1, h2, h3⟩ := h.1 i (by omega)
    exact ⟨(put_far _ _ _ _ (by omega)).trans h0, (put_far _ _ _ _ (by omega)).trans h1, (put_far _ _ _ _ (by omega)).trans h2, (put_far _ _ _ _ (by omega)).trans h3⟩
theorem Upto.below {w w' : World} {g n j : Nat} {ms : List R} (h : Upto w g n j ms) (hb : Below w.heap.size w w') (hg : g < w.heap.size) : Upto w' g n j ms :=
  ⟨fun i hi => (h.1 i hi).below hb, fun i hi => ⟨by rw [hb.cell (p := ⟨g, i, none⟩) hg]; exact (h.2 i hi).1, by rw [hb.frozen (p := ⟨g, i, none⟩) hg]; exact (h.2 i hi).2⟩⟩
theorem Upto.of_block {w w' : World} {g n j : Nat} {ms : List R} (h : Upto w g n j ms) (hb : w'.heap[g]? = w.heap[g]?) : Upto w' g n j ms := by
  have c : ∀ q, w'.cell? ⟨g, q, none⟩ = w.cell? ⟨g, q, none⟩ := fun q => World.cell?_of_block (a := ⟨g, q, none⟩) hb
  have f : ∀ q, w'.frozen? ⟨g, q, none⟩ = w.frozen? ⟨g, q, none⟩ := fun q => World.frozen?_of_block (a := ⟨g, q, none⟩) hb
  refine ⟨fun i hi => ?_, fun i hi => ⟨by rw [c]; exact (h.2 i hi).1, by rw [f]; exact (h.2 i hi).2⟩⟩
  obtain ⟨h0, h1, h2, h3⟩ := h.1 i hi
  exact ⟨(c _).trans h0, (c _).trans h1, (c _).trans h2, (c _).trans h3⟩
theorem rm_of {w : World} {g n : Nat} {ms : List R} (h : Upto w g n ms.length ms) : RM w (some ⟨g, 0, none⟩) ms := .inr ⟨g, 0, rfl, fun i hi => by rw [Nat.zero_add]; exact h.1 i hi⟩
theorem upto_own {w : World} {base g cap n : Nat} {ms : List R} (hn : n = ms.length) (h : w.ownsRow base 61 4 (.slice (some ⟨g, 0, none⟩) n cap) n (flat ms)) : Upto w g n n ms := by
  subst hn
  refine ⟨fun i hi => at_own rfl h i hi, fun i hi => ?_⟩
  obtain ⟨_, ⟨e, _⟩ | ⟨g', cap', cur, e, _, hg, h1, _, h3, _⟩⟩ := h
  · cases e
  · cases e
    have hlt : i < cur.size := by rw [h3]; exact Nat.lt_of_lt_of_le hi (Nat.mul_le_mul_right _ h1)
    refine ⟨?_, ?_⟩
    · simp [World.cell?, hg, hlt]
    · simp [World.frozen?, hg]
/-- A list between two bounds of the heap, in memory that may be written. -/
def Lst (W : World) (a : Option Addr) (ms : List R) (lo hi : Nat) : Prop := ms = [] ∨ ∃ g, a = some ⟨g, 0, none⟩ ∧ lo ≤ g ∧ g < hi ∧ g < W.heap.size ∧ Upto W g ms.length ms.length ms
theorem Lst.rm {W : World} {a : Option Addr} {ms : List R} {lo hi : Nat} (h : Lst W a ms lo hi) : RM W a ms := by
  rcases h with rfl | ⟨g, rfl, _, _, _, hu⟩
  · exact .inl rfl
  · exact rm_of hu
theorem Lst.below {W W' : World} {a : Option Addr} {ms : List R} {lo hi : Nat} (h : Lst W a ms lo hi) (hb : Below W.heap.size W W') : Lst W' a ms lo hi := by
  rcases h with rfl | ⟨g, rfl, h1, h2, h3, hu⟩
  · exact .inl rfl
  · exact .inr ⟨g, rfl, h1, h2, Nat.lt_of_lt_of_le h3 hb.size, hu.below hb h3⟩
theorem Lst.mono {W : World} {a : Option Addr} {ms : List R} {lo hi lo' hi' : Nat} (h : Lst W a ms lo hi) (h1 : lo' ≤ lo) (h2 : hi ≤ hi') : Lst W a ms lo' hi' := by
  rcases h with rfl | ⟨g, rfl, h3, h4, h5, hu⟩
  · exact .inl rfl
  · exact .inr ⟨g, rfl, by omega, by omega, h5, hu⟩
theorem Lst.but {W W' : World} {a : Option Addr} {ms : List R} {lo hi : Nat} {p : Nat → Prop} (h : Lst W a ms lo hi) (hs : W.heap.size ≤ W'.heap.size) (hb : ∀ k, k < W.heap.size → p k → W'.heap[k]? = W.heap[k]?) (hp : ∀ k, lo ≤ k → k < hi → p k) : Lst W' a ms lo hi := by
  rcases h with rfl | ⟨g, rfl, h1, h2, h3, hu⟩
  · exact .inl rfl
  · exact .inr ⟨g, rfl, h1, h2, Nat.lt_of_lt_of_le h3 hs, hu.of_block (hb g h3 (hp g h1 h2))⟩
/-- The same of a value. -/
def LstV (W : World) (v : Value) (ms : List R) (lo hi : Nat) : Prop := ∃ a c, v = .slice a ms.length c ∧ Lst W a ms lo hi
theorem LstV.below {W W' : World} {v : Value} {ms : List R} {lo hi : Nat} (h : LstV W v ms lo hi) (hb : Below W.heap.size W W') : LstV W' v ms lo hi := by
  obtain ⟨a, c, e, hl⟩ := h; exact ⟨a, c, e, hl.below hb⟩
theorem LstV.mono {W : World} {v : Value} {ms : List R} {lo hi lo' hi' : Nat} (h : LstV W v ms lo hi) (h1 : lo' ≤ lo) (h2 : hi ≤ hi') : LstV W v ms lo' hi' := by
  obtain ⟨a, c, e, hl⟩ := h; exact ⟨a, c, e, hl.mono h1 h2⟩
theorem lstV_nil (W : World) (a : Option Addr) (c lo hi : Nat) : LstV W (.slice a 0 c) [] lo hi := ⟨a, c, rfl, .inl rfl⟩
/-- A row of one's own as such a list. -/
theorem lst_own {w : World} {base n : Nat} {v : Value} {ms : List R} (hn : n = ms.length) (h : w.ownsRow base 61 4 v n (flat ms)) : LstV w v ms base w.heap.size := by
  unfold LstV
  have h' := h
  obtain ⟨hl, ⟨rfl, h0⟩ | ⟨g, cap, cur, rfl, hb, hg, _, _, _, _⟩⟩ := h
  · exact ⟨none, 0, by rw [← hn, h0], .inl (List.eq_nil_of_length_eq_zero (by omega))⟩
  · have hlt : g < w.heap.size := by
      rcases Nat.lt_or_ge g w.heap.size with h | h
      · exact h
      · rw [Array.getElem?_eq_none h] at hg; cases hg
    refine ⟨_, cap, by rw [hn], .inr ⟨g, rfl, hb, hlt, hlt, ?_⟩⟩
    have := upto_own hn h'
    rw [hn] at this; exact this


theorem infoR : ∃ i, Try.prog.info? 61 = some i ∧ i.zero = some (Value.agg #[.int .i64 0, .int .i64 0, .int .i64 0, .string ByteArray.empty]) ∧ i.size = 4 ∧ i.bytes = 40 := by
  have h : (Try.prog.info? 61).map (fun i => (i.zero, i.size, i.bytes)) = some (some (Value.agg #[.int .i64 0, .int .i64 0, .int .i64 0, .string ByteArray.empty]), 4, 40) := by kernel_rfl
  obtain ⟨i, hi, he⟩ := Option.map_eq_some_iff.1 h
  simp only [Prod.mk.injEq] at he
  exact ⟨i, hi, he.1, he.2.1, he.2.2⟩

/-- append of a list to a row of one's own, as a walk meets it. -/
theorem wpList_apS {ops : Array Oper} {rest : List Oper} {o : Oper} {a : Act} {Q : Exit → Act → World → Prop} {w : World} {base : Nat} {v : Value} {xs : List R} (hown : w.ownsRow base 61 4 v xs.length (flat xs)) (g off m c : Nat) (ms : List R) (hm : ms.length = m) (hr : RM w (some ⟨g, off, none⟩) ms) (hlen : xs.length + ms.length ≤ 4194304) (hbase : base ≤ w.heap.size)
    (hgd : o.guard = none) (s x : Operand) (ho : o.op = .call { callee := .builtin .append, args := #[s, x], argTypes := #[24, 24] }) (hs : a.eval s = v) (hx : a.eval x = .slice (some ⟨g, off, none⟩) m c)
    (h : ∀ v' w', w'.ownsRow base 61 4 v' (xs ++ ms).length (flat (xs ++ ms)) → w.grownBy w' v.ownBlock → wpList Try.prog ops Q rest (a.put o.dst v') w') : wpList Try.prog ops Q (o :: rest) a w := by
  subst hm
  obtain ⟨i0, hi, hz0, hz1, hz2⟩ := infoR
  refine wpList_append_own w hgd s x _ ho base 61 i0 _ 4 40 Try.underlying24 hi hz0 hz1 hz2 rfl (by decide) v xs.length (flat xs) hs hown ⟨g, off, none⟩ ms.length c (flat ms) hx (flat_len ms) hr.cells (fun u hu => flat_one_cell hu) (by unfold maxLen; omega) (by omega) hbase (fun v' w' h1 h2 _ => ?_)
  refine h v' w' ?_ h2
  rw [List.length_append, flat_append]; exact h1
theorem own_empty (w : World) (base : Nat) (hb : base ≤ w.heap.size) : (w.alloc (.cells #[] 61)).ownsRow base 61 4 (.slice (some ⟨w.heap.size, 0, none⟩) 0 0) ([] : List R).length (flat []) := World.ownsRow_made w #[] 0 hb (Nat.zero_le _) (by simp)
theorem own_nil (w : World) (base : Nat) : w.ownsRow base 61 4 (.slice none 0 0) ([] : List R).length (flat []) := World.ownsRow_nil w base _ _
theorem below_own {B : Nat} {w0 w w' : World} {base : Nat} {v : Value} {n : Nat} {xs : List Value} (h : Below B w0 w) (ho : w.ownsRow base 61 4 v n xs) (hg : w.grownBy w' v.ownBlock) (hb : B ≤ base) (hB : B ≤ w.heap.size) : Below B w0 w' :=
  h.grown hg hB (fun k hk => Nat.le_trans hb (ho.lt k hk).1)


set_option maxHeartbeats 1000000 in
theorem eqR (fr : Int) (tt : Int) (ti : Int) (bs : ByteArray) (w : World) :
    Calls Try.prog 37 #[.agg #[.int .i64 fr, .int .i64 tt, .int .i64 ti, .string bs], .agg #[.int .i64 fr, .int .i64 tt, .int .i64 ti, .string bs]] w
      fun e w' => e = .returned (.bool true) ∧ Below w.heap.size w w' := by
  go_enter Try.func37, Try.ntmps37
  go_wp2
  go_ret
  repeat (first | exact ⟨rfl, Below.refl _ _⟩ | refine ⟨rfl, ?_⟩ | exact Below.refl _ _ | refine Below.alloc ?_ (by simp <;> omega) _)

theorem sAt {w : World} {g g' o o' : Nat} {fr tt ti : Int} {bs : ByteArray} (h : At w g o ⟨fr, tt, ti, bs⟩) (h' : At w g' o' ⟨fr, tt, ti, bs⟩) :
    (At w g o ⟨fr, tt, ti, bs⟩ ∧ At w g' o' ⟨fr, tt, ti, bs⟩) ∧ w.cell? ⟨g, o, none⟩ = some (.int .i64 fr) ∧ w.cell? ⟨g, o + 1, none⟩ = some (.int .i64 tt) ∧ w.cell? ⟨g, o + 2, none⟩ = some (.int .i64 ti) ∧ w.cell? ⟨g, o + 3, none⟩ = some (.string bs) ∧ w.cell? ⟨g', o', none⟩ = some (.int .i64 fr) ∧ w.cell? ⟨g', o' + 1, none⟩ = some (.int .i64 tt) ∧ w.cell? ⟨g', o' + 2, none⟩ = some (.int .i64 ti) ∧ w.cell? ⟨g', o' + 3, none⟩ = some (.string bs) := ⟨⟨h, h'⟩, h.1, h.2.1, h.2.2.1, h.2.2.2, h'⟩

set_option maxRecDepth 100000 in
set_option maxHeartbeats 4000000 in
theorem eqS (a b : Option Addr) (ms : List R) (ca cb : Nat) (w : World) (hm : ms.length ≤ 1048576) (hr : RM w a ms) (hr' : RM w b ms) :
    Calls Try.prog 23 #[.slice a ms.length ca, .slice b ms.length cb] w fun e w' => e = .returned (.bool true) ∧ Below w.heap.size w w' := by
  have HR := hide hr
  have HR' := hide hr'
  clear hr hr'
  generalize hN : ms.length = n at *
  have HN := hide hN
  clear hN
  go_enter Try.func23, Try.ntmps23
  go_wp2
  go_loopw [5] (fun i wr => ∃ j : Nat, j ≤ n ∧ i = .int .i64 j ∧ Hid (Below w.heap.size w wr)) (fun i _ => n - (intOf i).toNat)
  case atStart => exact ⟨0, by omega, rfl, hide (Below.refl _ _)⟩
  case round =>
    obtain ⟨j, hj, rfl, hbl⟩ := hrel
    by_cases hlt : (j : Int) < (n : Int)
    · have k0 : (0 : Int) ≤ (j : Int) := by omega
      have hlen : j < ms.length := by rw [unhide HN]; omega
      rcases (unhide HR).below (by exact (unhide hbl)) with e0 | ⟨g, off, rfl, hc⟩
      · exfalso; rw [e0] at hlen; simp at hlen
      rcases (unhide HR').below (by exact (unhide hbl)) with e0 | ⟨g', off', rfl, hc'⟩
      · exfalso; rw [e0] at hlen; simp at hlen
      have hA := hc j hlen
      have hA' := hc' j hlen
      clear hc hc'
      generalize ms.getD j R.zero = m at *
      obtain ⟨fr, tt, ti, bs⟩ := m
      go_wp2_with fail
      go_region_held3 (fun w' => (At w' g (off + j * 4) ⟨fr, tt, ti, bs⟩ ∧ At w' g' (off' + j * 4) ⟨fr, tt, ti, bs⟩) ∧ w'.cell? ⟨g, off + j * 4, none⟩ = some (.int .i64 fr) ∧ w'.cell? ⟨g, off + j * 4 + 1, none⟩ = some (.int .i64 tt) ∧ w'.cell? ⟨g, off + j * 4 + 2, none⟩ = some (.int .i64 ti) ∧ w'.cell? ⟨g, off + j * 4 + 3, none⟩ = some (.string bs) ∧ w'.cell? ⟨g', off' + j * 4, none⟩ = some (.int .i64 fr) ∧ w'.cell? ⟨g', off' + j * 4 + 1, none⟩ = some (.int .i64 tt) ∧ w'.cell? ⟨g', off' + j * 4 + 2, none⟩ = some (.int .i64 ti) ∧ w'.cell? ⟨g', off' + j * 4 + 3, none⟩ = some (.string bs))
        ((go_split_ands; exact sAt (by first | with_reducible assumption | (with_reducible refine At.drew ?_; with_reducible assumption) | (exact At.below (by with_reducible assumption) b1)) (by first | with_reducible assumption | (with_reducible refine At.drew ?_; with_reducible assumption) | (exact At.below (by with_reducible assumption) b1))))
        (first | (go_at_call 37; refine (eqR fr tt ti bs _).mono ?_; rintro e w1 ⟨rfl, b1⟩))
      have hb1 := hide ((unhide hbl).drew.trans (b1.mono (by show w.heap.size ≤ wr.heap.size; exact (unhide hbl).size)))
      go_wp2_with fail
      go_roundw
      case rel => exact ⟨j + 1, by omega, by go_num, hb1⟩
      case measure => simp [intOf]; omega
    · go_wp2
      go_ret
      exact ⟨rfl, unhide hbl⟩

end Fm
end Go.Proofs.Ytpmlpojefelbbaa
namespace Go.Proofs.Ytpmlpojefelbbaa
open Go.ChangeShapes Go.WideShapes Go.ChangeAt Go.RowKit
set_option linter.unusedVariables false
set_option linter.unusedSimpArgs false
attribute [local go_sem ↓] Go.wp_at_zero Go.wp_at_succ
namespace In
open W1
def flat (zs : List Int) : List Value := zs.map (Value.int .i64)
theorem flat_len (zs : List Int) : (flat zs).length = zs.length * 1 := by simp [flat]
theorem flat_append (xs ys : List Int) : flat (xs ++ ys) = flat xs ++ flat ys := by simp [flat]
theorem flat_one_cell {zs : List Int} {u : Value} (h : u ∈ flat zs) : u.oneCell' = true := by
  obtain ⟨z, _, rfl⟩ := List.mem_map.1 h; rfl
theorem flat_get {zs : List Int} {i : Nat} (h : i < zs.length) : (flat zs)[i]? = some (.int .i64 (zs.getD i 0)) := by
  unfold flat
  rw [List.getElem?_map, List.getElem?_eq_getElem h, List.getD_eq_getElem?_getD, List.getElem?_eq_getElem h]; rfl
/-- The slice at a reads as these. -/
def RM (w : World) (a : Option Addr) (zs : List Int) : Prop :=
  zs = [] ∨ ∃ g off, a = some ⟨g, off, none⟩ ∧ ∀ i, i < zs.length → w.cell? ⟨g, off + i, none⟩ = some (.int .i64 (zs.getD i 0))
theorem RM.below {w w' : World} {a : Option Addr} {zs : List Int} (h : RM w a zs) (hb : Below w.heap.size w w') : RM w' a zs := by
  rcases h with h | ⟨g, off, rfl, hc⟩
  · exact .inl h
  · exact .inr ⟨g, off, rfl, fun i hi => (hb.cell (p := ⟨g, off + i, none⟩) (World.block_lt_of_cell? _ _ (hc i hi))).trans (hc i hi)⟩
theorem RM.at {w : World} {g off : Nat} {zs : List Int} {i : Nat} (h : RM w (some ⟨g, off, none⟩) zs) (hi : i < zs.length) : w.cell? ⟨g, off + i, none⟩ = some (.int .i64 (zs.getD i 0)) := by
  rcases h with rfl | ⟨g', off', e, hc⟩
  · simp at hi
  · cases e; exact hc i hi
theorem plain_add (b off k : Nat) : (⟨b, off, none⟩ : Addr).add k = ⟨b, off + k, none⟩ := by unfold Addr.add; split <;> simp_all
theorem RM.cells {w : World} {g off : Nat} {zs : List Int} (h : RM w (some ⟨g, off, none⟩) zs) : ∀ j u, (flat zs)[j]? = some u → w.cell? ((⟨g, off, none⟩ : Addr).add j) = some u := by
  intro j u hj
  have hl : j < zs.length := by have := (List.getElem?_eq_some_iff.1 hj).1; rw [flat_len] at this; omega
  rw [flat_get hl] at hj
  rw [plain_add, ← hj]
  exact h.at hl
/-- The first j stand at the head of block g, whose n cells may be written. -/
def Upto (w : World) (g n j : Nat) (zs : List Int) : Prop :=
  (∀ i, i < j → w.cell? ⟨g, i, none⟩ = some (.int .i64 (zs.getD i 0))) ∧ ∀ i, i < n → (w.cell? ⟨g, i, none⟩).isSome = true ∧ w.frozen? ⟨g, i, none⟩ = false
theorem Upto.step {w : World} {g n j : Nat} {zs : List Int} (h : Upto w g n j zs) (hj : j < n) : Upto (w.setCell ⟨g, j, none⟩ (.int .i64 (zs.getD j 0))) g n (j + 1) zs := by
  refine ⟨fun i hi => ?_, fun i hi => ⟨?_, by rw [World.frozen?_setCell]; exact (h.2 i hi).2⟩⟩
  · by_cases e : i = j
    · subst e
      obtain ⟨v, hv⟩ := Option.isSome_iff_exists.1 (h.2 i hj).1
      rw [World.cell?_setCell_same _ _ _ hv]
    · rw [World.cell?_setCell_other _ _ _ _ (by intro e'; cases e'; exact e rfl)]
      exact h.1 i (by omega)
  · obtain ⟨v, hv⟩ := Option.isSome_iff_exists.1 (h.2 i hi).1
    obtain ⟨v', hv'⟩ := cell?_setCell_some (p := ⟨g, j, none⟩) (x := .int .i64 (zs.getD j 0)) hv
    rw [hv']; rfl
theorem Upto.below {w w' : World} {g n j : Nat} {zs : List Int} (h : Upto w g n j zs) (hb : Below w.heap.size w w') (hg : g < w.heap.size) : Upto w' g n j zs :=
  ⟨fun i hi => (hb.cell (p := ⟨g, i, none⟩) hg).trans (h.1 i hi), fun i hi => ⟨by rw [hb.cell (p := ⟨g, i, none⟩) hg]; exact (h.2 i hi).1, by rw [hb.frozen (p := ⟨g, i, none⟩) hg]; exact (h.2 i hi).2⟩⟩
theorem Upto.of_block {w w' : World} {g n j : Nat} {zs : List Int} (h : Upto w g n j zs) (hb : w'.heap[g]? = w.heap[g]?) : Upto w' g n j zs := by
  have c : ∀ q, w'.cell? ⟨g, q, none⟩ = w.cell? ⟨g, q, none⟩ := fun q => World.cell?_of_block (a := ⟨g, q, none⟩) hb
  have f : ∀ q, w'.frozen? ⟨g, q, none⟩ = w.frozen? ⟨g, q, none⟩ := fun q => World.frozen?_of_block (a := ⟨g, q, none⟩) hb
  exact ⟨fun i hi => (c _).trans (h.1 i hi), fun i hi => ⟨by rw [c]; exact (h.2 i hi).1, by rw [f]; exact (h.2 i hi).2⟩⟩
theorem rm_of {w : World} {g n : Nat} {zs : List Int} (h : Upto w g n zs.length zs) : RM w (some ⟨g, 0, none⟩) zs := .inr ⟨g, 0, rfl, fun i hi => by rw [Nat.zero_add]; exact h.1 i hi⟩
/-- A list between two bounds of the heap, in memory that may be written. -/
def Lst (W : World) (a : Option Addr) (zs : List Int) (lo hi : Nat) : Prop := zs = [] ∨ ∃ g, a = some ⟨g, 0, none⟩ ∧ lo ≤ g ∧ g < hi ∧ g < W.heap.size ∧ Upto W g zs.length zs.length zs
theorem Lst.rm {W : World} {a : Option Addr} {zs : List Int} {lo hi : Nat} (h : Lst W a zs lo hi) : RM W a zs := by
  rcases h with rfl | ⟨g, rfl, _, _, _, hu⟩
  · exact .inl rfl
  · exact rm_of hu
theorem Lst.below {W W' : World} {a : Option Addr} {zs : List Int} {lo hi : Nat} (h : Lst W a zs lo hi) (hb : Below W.heap.size W W') : Lst W' a zs lo hi := by
  rcases h with rfl | ⟨g, rfl, h1, h2, h3, hu⟩
  · exact .inl rfl
  · exact .inr ⟨g, rfl, h1, h2, Nat.lt_of_lt_of_le h3 hb.size, hu.below hb h3⟩
theorem Lst.mono {W : World} {a : Option Addr} {zs : List Int} {lo hi lo' hi' : Nat} (h : Lst W a zs lo hi) (h1 : lo' ≤ lo) (h2 : hi ≤ hi') : Lst W a zs lo' hi' := by
  rcases h with rfl | ⟨g, rfl, h3, h4, h5, hu⟩
  · exact .inl rfl
  · exact .inr ⟨g, rfl, by omega, by omega, h5, hu⟩
theorem Lst.but {W W' : World} {a : Option Addr} {zs : List Int} {lo hi : Nat} {p : Nat → Prop} (h : Lst W a zs lo hi) (hs : W.heap.size ≤ W'.heap.size) (hb : ∀ k, k < W.heap.size → p k → W'.heap[k]? = W.heap[k]?) (hp : ∀ k, lo ≤ k → k < hi → p k) : Lst W' a zs lo hi := by
  rcases h with rfl | ⟨g, rfl, h1, h2, h3, hu⟩
  · exact .inl rfl
  · exact .inr ⟨g, rfl, h1, h2, Nat.lt_of_lt_of_le h3 hs, hu.of_block (hb g h3 (hp g h1 h2))⟩
def LstV (W : World) (v : Value) (zs : List Int) (lo hi : Nat) : Prop := ∃ a c, v = .slice a zs.length c ∧ Lst W a zs lo hi
theorem LstV.mono {W : World} {v : Value} {zs : List Int} {lo hi lo' hi' : Nat} (h : LstV W v zs lo hi) (h1 : lo' ≤ lo) (h2 : hi ≤ hi') : LstV W v zs lo' hi' := by
  obtain ⟨a, c, e, hl⟩ := h; exact ⟨a, c, e, hl.mono h1 h2⟩
theorem lstV_nil (W : World) (a : Option Addr) (c lo hi : Nat) : LstV W (.slice a 0 c) [] lo hi := ⟨a, c, rfl, .inl rfl⟩
theorem upto_own {w : World} {base g cap n : Nat} {zs : List Int} (hn : n = zs.length) (h : w.ownsRow base 3 1 (.slice (some ⟨g, 0, none⟩) n cap) n (flat zs)) : Upto w g n n zs := by
  subst hn
  refine ⟨fun i hi => ?_, fun i hi => ?_⟩
  · have := h.cells (g := g) rfl i _ (flat_get hi)
    rw [plain_add, Nat.zero_add] at this
    exact this
  · obtain ⟨_, ⟨e, _⟩ | ⟨g', cap', cur, e, _, hg, h1, _, h3, _⟩⟩ := h
    · cases e
    · cases e
      have hlt : i < cur.size := by rw [h3]; omega
      exact ⟨by simp [World.cell?, hg, hlt], by simp [World.frozen?, hg]⟩
theorem lst_own {w : World} {base n : Nat} {v : Value} {zs : List Int} (hn : n = zs.length) (h : w.ownsRow base 3 1 v n (flat zs)) : LstV w v zs base w.heap.size := by
  unfold LstV
  have h' := h
  obtain ⟨hl, ⟨rfl, h0⟩ | ⟨g, cap, cur, rfl, hb, hg, _, _, _, _⟩⟩ := h
  · exact ⟨none, 0, by rw [← hn, h0], .inl (List.eq_nil_of_length_eq_zero (by omega))⟩
  · have hlt : g < w.heap.size := by
      rcases Nat.lt_or_ge g w.heap.size with h | h
      · exact h
      · rw [Array.getElem?_eq_none h] at hg; cases hg
    refine ⟨_, cap, by rw [hn], .inr ⟨g, rfl, hb, hlt, hlt, ?_⟩⟩
    have := upto_own hn h'
    rw [hn] at this; exact this
theorem infoI : ∃ i, Try.prog.info? 3 = some i ∧ i.zero = some (.int .i64 0) ∧ i.size = 1 ∧ i.bytes = 8 := by
  have h : (Try.prog.info? 3).map (fun i => (i.zero, i.size, i.bytes)) = some (some (.int .i64 0), 1, 8) := by kernel_rfl
  obtain ⟨i, hi, he⟩ := Option.map_eq_some_iff.1 h
  simp only [Prod.mk.injEq] at he
  exact ⟨i, hi, he.1, he.2.1, he.2.2⟩
/-- append of a list to a row of one's own, as a walk meets it. -/
theorem wpList_apS {ops : Array Oper} {rest : List Oper} {o : Oper} {a : Act} {Q : Exit → Act → World → Prop} {w : World} {base : Nat} {v : Value} {xs : List Int} (hown : w.ownsRow base 3 1 v xs.length (flat xs)) (g off m c : Nat) (ms : List Int) (hm : ms.length = m) (hr : RM w (some ⟨g, off, none⟩) ms) (hlen : xs.length + ms.length ≤ 4194304) (hbase : base ≤ w.heap.size)
    (hgd : o.guard = none) (s x : Operand) (ho : o.op = .call { callee := .builtin .append, args := #[s, x], argTypes := #[22, 22] }) (hs : a.eval s = v) (hx : a.eval x = .slice (some ⟨g, off, none⟩) m c)
    (h : ∀ v' w', w'.ownsRow base 3 1 v' (xs ++ ms).length (flat (xs ++ ms)) → w.grownBy w' v.ownBlock → wpList Try.prog ops Q rest (a.put o.dst v') w') : wpList Try.prog ops Q (o :: rest) a w := by
  subst hm
  obtain ⟨i0, hi, hz0, hz1, hz2⟩ := infoI
  refine wpList_append_own w hgd s x _ ho base 3 i0 _ 1 8 Try.underlying22 hi hz0 hz1 hz2 rfl (by decide) v xs.length (flat xs) hs hown ⟨g, off, none⟩ ms.length c (flat ms) hx (flat_len ms) hr.cells (fun u hu => flat_one_cell hu) (by unfold maxLen; omega) (by omega) hbase (fun v' w' h1 h2 _ => ?_)
  refine h v' w' ?_ h2
  rw [List.length_append, flat_append]; exact h1
theorem own_empty (w : World) (base : Nat) (hb : base ≤ w.heap.size) : (w.alloc (.cells #[] 3)).ownsRow base 3 1 (.slice (some ⟨w.heap.size, 0, none⟩) 0 0) ([] : List Int).length (flat []) := World.ownsRow_made w #[] 0 hb (Nat.zero_le _) (by simp)
theorem own_nil (w : World) (base : Nat) : w.ownsRow base 3 1 (.slice none 0 0) ([] : List Int).length (flat []) := World.ownsRow_nil w base _ _
theorem below_own {B : Nat} {w0 w w' : World} {base : Nat} {v : Value} {n : Nat} {xs : List Value} (h : Below B w0 w) (ho : w.ownsRow base 3 1 v n xs) (hg : w.grownBy w' v.ownBlock) (hb : B ≤ base) (hB : B ≤ w.heap.size) : Below B w0 w' :=
  h.grown hg hB (fun k hk => Nat.le_trans hb (ho.lt k hk).1)
set_option maxRecDepth 100000 in
set_option maxHeartbeats 2000000 in
theorem eqS (a b : Option Addr) (zs : List Int) (ca cb : Nat) (w : World) (hm : zs.length ≤ 1048576) (hr : RM w a zs) (hr' : RM w b zs) :
    Calls Try.prog 9 #[.slice a zs.length ca, .slice b zs.length cb] w fun e w' => e = .returned (.bool true) ∧ Below w.heap.size w w' := by
  have HR := hide hr
  have HR' := hide hr'
  clear hr hr'
  generalize hN : zs.length = n at *
  have HN := hide hN
  clear hN
  go_enter Try.func9, Try.ntmps9
  go_wp2
  go_loopw [5] (fun i wr => ∃ j : Nat, j ≤ n ∧ i = .int .i64 j ∧ Hid (Below w.heap.size w wr)) (fun i _ => n - (intOf i).toNat)
  case atStart => exact ⟨0, by omega, rfl, hide (Below.refl _ _)⟩
  case round =>
    obtain ⟨j, hj, rfl, hbl⟩ := hrel
    by_cases hlt : (j : Int) < (n : Int)
    · have k0 : (0 : Int) ≤ (j : Int) := by omega
      have hlen : j < zs.length := by rw [unhide HN]; omega
      rcases (unhide HR).below (by exact (unhide hbl)) with e0 | ⟨g, off, rfl, hc⟩
      · exfalso; rw [e0] at hlen; simp at hlen
      rcases (unhide HR').below (by exact (unhide hbl)) with e0 | ⟨g', off', rfl, hc'⟩
      · exfalso; rw [e0] at hlen; simp at hlen
      have hA := hc j hlen
      have hA' := hc' j hlen
      clear hc hc'
      generalize zs.getD j 0 = z at *
      have hzb : (z == z) = true := by simp
      go_wp2_with fail
      go_region_held3 (fun w' => w'.cell? ⟨g, off + j, none⟩ = some (.int .i64 z) ∧ w'.cell? ⟨g', off' + j, none⟩ = some (.int .i64 z)) (exact ⟨hA, hA'⟩) (fail)
      have hb1 := hide ((unhide hbl).drew)
      go_wp2_with fail
      go_roundw
      case rel => exact ⟨j + 1, by omega, by go_num, hb1⟩
      case measure => simp [intOf]; omega
    · go_wp2
      go_ret
      exact ⟨rfl, unhide hbl⟩
/-- The marks from K on. -/
def marks (K : Int) (n : Nat) : List Int := (List.range n).map fun t : Nat => K + 1 * (t : Int)
theorem marks_len (K : Int) (n : Nat) : (marks K n).length = n := by simp [marks]
theorem marks_at (K : Int) (n t : Nat) (h : t < n) : (marks K n).getD t 0 = K + 1 * (t : Int) := by
  unfold marks
  rw [List.getD_eq_getElem?_getD, List.getElem?_map, List.getElem?_range h]; rfl
theorem grown_set {w w1 : World} {g o : Nat} {v : Value} (h : w.grownBy w1 (some g)) : w.grownBy (w1.setCell ⟨g, o, none⟩ v) (some g) :=
  ⟨h.os, h.tape, h.output, by have := h.size; simp [World.setCell]; exact this, fun k hk hne => (Below.heap_setCell _ _ _ _ (fun e => hne (by rw [e]))).trans (h.block k hk hne)⟩
set_option maxHeartbeats 2000000 in
theorem markS (g n c : Nat) (K : Int) (zs : List Int) (w : World) (hK : 0 ≤ K) (hK1 : K ≤ 1073741824) (hn : n ≤ 1048576) (hg : g < w.heap.size) (hU : Upto w g n n zs) :
    Calls Try.prog 10 #[.slice (some ⟨g, 0, none⟩) n c, .int .i64 K] w fun e w' => e = .returned (.int .i64 (K + 1 * (n : Int))) ∧ w.grownBy w' (some g) ∧ Upto w' g n n (marks K n) := by
  have hU0 : Hid (Upto w g n 0 (marks K n)) := hide ⟨fun i hi => by omega, hU.2⟩
  clear hU
  go_enter Try.func10, Try.ntmps10
  go_wp2
  go_loopw [1, 5] (fun q i wr => ∃ j : Nat, j ≤ n ∧ i = .int .i64 j ∧ q = .int .i64 (K + 1 * (j : Int)) ∧ Hid (w.grownBy wr (some g)) ∧ Hid (Upto wr g n j (marks K n))) (fun _ i _ => n - (intOf i).toNat)
  case atStart => exact ⟨0, by omega, rfl, by simp, hide ⟨rfl, rfl, rfl, Nat.le_refl _, fun _ _ _ => rfl⟩, hU0⟩
  case round =>
    obtain ⟨j, hj, rfl, rfl, hgr, hu⟩ := hrel
    by_cases hlt : (j : Int) < (n : Int)
    · have k0 : (0 : Int) ≤ (j : Int) := by omega
      obtain ⟨v0, x0⟩ := Option.isSome_iff_exists.1 ((unhide hu).2 j (by omega)).1
      have y0 := ((unhide hu).2 j (by omega)).2
      have hst := (unhide hu).step (by omega)
      rw [marks_at K n j (by omega)] at hst
      have HST := hide hst
      have HGN := hide (grown_set (o := j) (v := .int .i64 (K + 1 * (j : Int))) (unhide hgr))
      clear hst
      generalize hq : K + 1 * (j : Int) = q at *
      have hq0 : 0 ≤ q := by omega
      have hq1 : q ≤ 1109393408 := by omega
      go_wp2_with fail
      exact ⟨⟨j + 1, by omega, by go_num, by go_num, HGN, HST⟩, by simp [intOf]; omega⟩
    · obtain rfl : j = n := by omega
      go_wp2
      go_ret
      exact ⟨by first | rfl | trivial | simp, unhide hgr, unhide hu⟩
theorem markS0 (a : Option Addr) (c : Nat) (K : Int) (w : World) :
    Calls Try.prog 10 #[.slice a 0 c, .int .i64 K] w fun e w' => e = .returned (.int .i64 K) ∧ w' = w := by
  go_enter Try.func10, Try.ntmps10
  go_wp2
  go_loop [1, 5] (fun q i => q = .int .i64 K ∧ i = .int .i64 0) (fun _ i => 0)
  case atStart => exact ⟨rfl, rfl⟩
  case round =>
    obtain ⟨rfl, rfl⟩ := hrel
    go_wp2
    go_ret
    exact ⟨rfl, rfl⟩
theorem heldS0 (a : Option Addr) (c : Nat) (K : Int) (w : World) :
    Calls Try.prog 27 #[.slice a 0 c, .int .i64 K] w fun e w' => e = .returned (.int .i64 K) ∧ w' = w := by
  go_enter Try.func27, Try.ntmps27
  go_wp2
  go_loop [1, 5] (fun q i => q = .int .i64 K ∧ i = .int .i64 0) (fun _ i => 0)
  case atStart => exact ⟨rfl, rfl⟩
  case round =>
    obtain ⟨rfl, rfl⟩ := hrel
    go_wp2
    go_ret
    exact ⟨rfl, rfl⟩
set_option maxHeartbeats 2000000 in
theorem heldS (g n c : Nat) (K : Int) (w : World) (hK : 0 ≤ K) (hK1 : K ≤ 1073741824) (hn : n ≤ 1048576) (hU : Upto w g n n (marks K n)) :
    Calls Try.prog 27 #[.slice (some ⟨g, 0, none⟩) n c, .int .i64 K] w fun e w' => e = .returned (.int .i64 (K + 1 * (n : Int))) ∧ w' = w := by
  have HU := hide hU
  clear hU
  go_enter Try.func27, Try.ntmps27
  go_wp2
  go_loopw [1, 5] (fun q i wr => wr = w ∧ ∃ j : Nat, j ≤ n ∧ i = .int .i64 j ∧ q = .int .i64 (K + 1 * (j : Int))) (fun _ i _ => n - (intOf i).toNat)
  case atStart => exact ⟨rfl, 0, by omega, rfl, by simp⟩
  case round =>
    obtain ⟨rfl, j, hj, rfl, rfl⟩ := hrel
    by_cases hlt : (j : Int) < (n : Int)
    · have k0 : (0 : Int) ≤ (j : Int) := by omega
      have c0 := (unhide HU).1 j (by omega)
      rw [marks_at K n j (by omega)] at c0
      generalize hq : K + 1 * (j : Int) = q at *
      have hq0 : 0 ≤ q := by omega
      have hq1 : q ≤ 1109393408 := by omega
      go_wp2_with fail
      go_roundw
      case rel => exact ⟨by first | trivial | rfl, j + 1, by omega, by go_num, by go_num⟩
      case measure => simp [intOf]; omega
    · obtain rfl : j = n := by omega
      go_wp2
      go_ret
      exact ⟨by first | trivial | rfl | simp, rfl⟩
theorem markF (a : Option Addr) (c lo hi : Nat) (K : Int) (zs : List Int) (w : World) (hK : 0 ≤ K) (hK1 : K ≤ 1073741824) (hn : zs.length ≤ 1048576) (h : Lst w a zs lo hi) :
    Calls Try.prog 10 #[.slice a zs.length c, .int .i64 K] w fun e w' => e = .returned (.int .i64 (K + 1 * (zs.length : Int))) ∧ w.heap.size ≤ w'.heap.size ∧ Below (min lo w.heap.size) w w' ∧ Lst w' a (marks K zs.length) lo hi ∧ ∀ k, k < w.heap.size → (k < lo ∨ hi ≤ k) → w'.heap[k]? = w.heap[k]? := by
  have hnil : ∀ w', w' = w → w.heap.size ≤ w'.heap.size ∧ Below (min lo w.heap.size) w w' ∧ ∀ k, k < w.heap.size → (k < lo ∨ hi ≤ k) → w'.heap[k]? = w.heap[k]? := by
    rintro w' rfl
    exact ⟨Nat.le_refl _, Below.refl _ _, fun _ _ _ => rfl⟩
  by_cases h0 : zs.length = 0
  · obtain rfl : zs = [] := List.eq_nil_of_length_eq_zero h0
    refine (markS0 a c K w).mono ?_
    rintro e w' ⟨rfl, hw⟩
    obtain ⟨q1, q2, q3⟩ := hnil w' hw
    exact ⟨by simp, q1, q2, .inl rfl, q3⟩
  rcases h with rfl | ⟨g, rfl, h1, h2, h3, hu⟩
  · simp at h0
  refine (markS g zs.length c K zs w hK hK1 hn h3 hu).mono ?_
  rintro e w' ⟨rfl, gr, hu'⟩
  exact ⟨rfl, gr.size, ⟨gr.os, gr.tape, gr.output, gr.size, fun k hk => gr.block k (by omega) (fun e => by cases e; omega)⟩, .inr ⟨g, rfl, h1, h2, Nat.lt_of_lt_of_le h3 gr.size, by rw [marks_len]; exact hu'⟩, fun k hk hne => gr.block k hk (fun e => by cases e; omega)⟩
theorem heldF (a : Option Addr) (c n lo hi : Nat) (K : Int) (w : World) (hK : 0 ≤ K) (hK1 : K ≤ 1073741824) (hn : n ≤ 1048576) (h : Lst w a (marks K n) lo hi) :
    Calls Try.prog 27 #[.slice a n c, .int .i64 K] w fun e w' => e = .returned (.int .i64 (K + 1 * (n : Int))) ∧ w' = w := by
  by_cases h0 : n = 0
  · subst h0
    refine (heldS0 a c K w).mono ?_
    rintro e w' ⟨rfl, rfl⟩
    exact ⟨by simp, rfl⟩
  rcases h with h | ⟨g, rfl, _, _, _, hu⟩
  · have := marks_len K n; rw [h] at this; simp at this; omega
  · rw [marks_len] at hu
    exact heldS g n c K w hK hK1 hn hu
end In
end Go.Proofs.Ytpmlpojefelbbaa
namespace Go.Proofs.Ytpmlpojefelbbaa
open Go.ChangeShapes Go.WideShapes Go.ChangeAt Go.RowKit
set_option linter.unusedVariables false
set_option linter.unusedSimpArgs false
attribute [local go_sem ↓] Go.wp_at_zero Go.wp_at_succ
namespace In
open W1
end In
end Go.Proofs.Ytpmlpojefelbbaa
namespace Go.Proofs.Ytpmlpojefelbbaa
open Go.ChangeShapes Go.WideShapes Go.ChangeAt Go.RowKit
set_option linter.unusedVariables false
set_option linter.unusedSimpArgs false
set_option maxRecDepth 100000
attribute [local go_sem ↓] Go.wp_at_zero Go.wp_at_succ
namespace Nt
open W1 Rt
/-- The first j routers stand at the head of block g, whose n times 13 cells may be written. -/
def UpN (w : World) (g n j : Nat) (ms : List Rm) (qs : List Pl) : Prop := (∀ i, i < j → w.rangeAt g (i * 13) (cl (ms.getD i Rm.zero) (qs.getD i Pl.zero))) ∧ w.there g 0 (n * 13)
/-- Their lists lie one router's behind the other's between two bounds. -/
def OwN (w : World) (lo hi j : Nat) (ms : List Rm) (qs : List Pl) : Prop := ∃ f : Nat → Nat, lo ≤ f 0 ∧ (∀ i, i < j → f i ≤ f (i + 1)) ∧ f j ≤ hi ∧ ∀ i, i < j → Ow w (f i) (f (i + 1)) (ms.getD i Rm.zero) (qs.getD i Pl.zero)
theorem Ow.mono {w : World} {lo hi lo' hi' : Nat} {m : Rm} {p : Pl} (h : Ow w lo hi m p) (h1 : lo' ≤ lo) (h2 : hi ≤ hi') : Ow w lo' hi' m p := by
  obtain ⟨b1, b2, b3, b4, b5, b6, ⟨o0, o1, o2, o3, o4, o5, o6⟩, u1, u2, u3, u4, u5, u6, u7⟩ := h
  exact ⟨b1, b2, b3, b4, b5, b6, ⟨by omega, o1, o2, o3, o4, o5, by omega⟩, u1.mono h1 (Nat.le_refl _), u2, u3, u4, u5, u6, u7.mono (Nat.le_refl _) h2⟩
theorem there_part {w : World} {g n o k : Nat} (h : w.there g 0 n) (hk : o + k ≤ n) : w.there g o k := fun j hj => by have := h (o + j) (by omega); rwa [Nat.zero_add] at this
theorem there_under {w w' : World} {B g o n : Nat} (h : w.there g o n) (hb : Below B w w') (hg : g < B) : w'.there g o n := fun j hj => ⟨by rw [hb.cell (p := ⟨g, o + j, none⟩) hg]; exact (h j hj).1, by rw [hb.frozen (p := ⟨g, o + j, none⟩) hg]; exact (h j hj).2⟩
theorem UpN.under {w w' : World} {B g n j : Nat} {ms : List Rm} {qs : List Pl} (h : UpN w g n j ms qs) (hb : Below B w w') (hg : g < B) : UpN w' g n j ms qs := ⟨fun i hi => rng_under (h.1 i hi) hb hg, there_under h.2 hb hg⟩
theorem getD_snoc_lt {α : Type} (z : α) (l : List α) (x : α) {i : Nat} (h : i < l.length) : (l ++ [x]).getD i z = l.getD i z := by
  rw [List.getD_eq_getElem?_getD, List.getD_eq_getElem?_getD, List.getElem?_append_left h]
theorem getD_snoc_eq {α : Type} (z : α) (l : List α) (x : α) {i : Nat} (h : i = l.length) : (l ++ [x]).getD i z = x := by
  subst h; simp
theorem UpN.step {w : World} {g n j : Nat} {ms : List Rm} {qs : List Pl} (h : UpN w g n j ms qs) (hl : qs.length = j) (hj : j < n) (q : Pl) : UpN (w.setCells g (j * 13) (cl (ms.getD j Rm.zero) q)) g n (j + 1) ms (qs ++ [q]) := by
  refine ⟨fun i hi => ?_, World.there_setCells h.2 _ _ _⟩
  by_cases e : i = j
  · subst e
    rw [getD_snoc_eq _ _ _ hl.symm]
    exact World.rangeAt_setCells_same _ _ _ _ (there_part h.2 (by rw [cl_len]; omega))
  · rw [getD_snoc_lt _ _ _ (by omega)]
    exact World.rangeAt_setCells_apart (h.1 i (by omega)) _ _ _ (.inr (.inl (by rw [cl_len]; omega)))
theorem OwN.but {w w' : World} {lo hi j Lo Hi : Nat} {ms : List Rm} {qs : List Pl} (h : OwN w lo hi j ms qs) (hs : w.heap.size ≤ w'.heap.size) (hb : ∀ k, k < w.heap.size → (k < Lo ∨ Hi ≤ k) → w'.heap[k]? = w.heap[k]?) (hd : hi ≤ Lo ∨ Hi ≤ lo) : OwN w' lo hi j ms qs := by
  obtain ⟨f, f0, f1, f2, f3⟩ := h
  have up : ∀ i k, i + k ≤ j → f i ≤ f (i + k) := fun i k => by
    induction k with
    | zero => intro _; exact Nat.le_refl _
    | succ k ih => intro hk; exact Nat.le_trans (ih (by omega)) (f1 (i + k) (by omega))
  refine ⟨f, f0, f1, f2, fun i hi => (f3 i hi).but hs hb ?_⟩
  have e0 := up 0 i (by omega)
  have e1 := up (i + 1) (j - (i + 1)) (by omega)
  rw [Nat.zero_add] at e0
  rw [show i + 1 + (j - (i + 1)) = j by omega] at e1
  omega
theorem OwN.below {w w' : World} {lo hi j : Nat} {ms : List Rm} {qs : List Pl} (h : OwN w lo hi j ms qs) (hb : Below w.heap.size w w') : OwN w' lo hi j ms qs := by
  obtain ⟨f, f0, f1, f2, f3⟩ := h
  exact ⟨f, f0, f1, f2, fun i hi => (f3 i hi).below hb⟩
theorem OwN.step {w w' : World} {lo hi hi' j : Nat} {ms : List Rm} {qs : List Pl} (h : OwN w lo hi j ms qs) (hb : Below w.heap.size w w') (hl : qs.length = j) {q : Pl} (ho : Ow w' hi hi' (ms.getD j Rm.zero) q) (hh : hi ≤ hi') : OwN w' lo hi' (j + 1) ms (qs ++ [q]) := by
  obtain ⟨f, f0, f1, f2, f3⟩ := h
  refine ⟨fun i => if i ≤ j then f i else hi', by simpa using f0, fun i hi => ?_, by simp only [show ¬ j + 1 ≤ j by omega, if_false]; exact Nat.le_refl _, fun i hi => ?_⟩
  · by_cases e : i < j
    · simp only [show i ≤ j by omega, show i + 1 ≤ j by omega, if_true]; exact f1 i e
    · obtain rfl : i = j := by omega
      simp only [Nat.le_refl, if_true, show ¬ i + 1 ≤ i by omega, if_false]; omega
  · by_cases e : i < j
    · simp only [show i ≤ j by omega, show i + 1 ≤ j by omega, if_true]
      rw [getD_snoc_lt _ _ _ (by omega)]; exact (f3 i e).below hb
    · obtain rfl : i = j := by omega
      simp only [Nat.le_refl, if_true, show ¬ i + 1 ≤ i by omega, if_false]
      rw [getD_snoc_eq _ _ _ hl.symm]; exact ho.mono f2 (Nat.le_refl _)
theorem OwN.rd {w : World} {lo hi j : Nat} {ms : List Rm} {qs : List Pl} (h : OwN w lo hi j ms qs) {i : Nat} (hi : i < j) : Rd w (ms.getD i Rm.zero) (qs.getD i Pl.zero) := by
  obtain ⟨f, f0, f1, f2, f3⟩ := h
  exact (f3 i hi).rd
theorem nr_of {w : World} {g lo hi n : Nat} {ms : List Rm} {qs : List Pl} (hn : ms.length = n) (h : UpN w g n n ms qs) (ho : OwN w lo hi n ms qs) : NR w (some ⟨g, 0, none⟩) ms qs := .inr ⟨g, 0, rfl, fun i hi => ⟨by rw [Nat.zero_add]; exact h.1 i (by omega), ho.rd (by omega)⟩⟩
theorem infoZ : ∃ i, Try.prog.info? 46 = some i ∧ i.zero = some (Value.agg #[.int .i64 0, .int .i64 0, .int .i64 0, .int .i64 0, .int .i64 0, .slice none 0 0, .slice none 0 0, .slice none 0 0, .slice none 0 0, .slice none 0 0, .slice none 0 0, .slice none 0 0, .int .i64 0]) ∧ i.size = 13 ∧ i.bytes = 216 := by
  have h : (Try.prog.info? 46).map (fun i => (i.zero, i.size, i.bytes)) = some (some (Value.agg #[.int .i64 0, .int .i64 0, .int .i64 0, .int .i64 0, .int .i64 0, .slice none 0 0, .slice none 0 0, .slice none 0 0, .slice none 0 0, .slice none 0 0, .slice none 0 0, .slice none 0 0, .int .i64 0]), 13, 216) := by kernel_rfl
  obtain ⟨i, hi, he⟩ := Option.map_eq_some_iff.1 h
  simp only [Prod.mk.injEq] at he
  exact ⟨i, hi, he.1, he.2.1, he.2.2⟩
end Nt
end Go.Proofs.Ytpmlpojefelbbaa
namespace Go.Proofs.Ytpmlpojefelbbaa
open Go.ChangeShapes Go.WideShapes Go.ChangeAt Go.RowKit
set_option linter.unusedVariables false
set_option linter.unusedSimpArgs false
set_option maxRecDepth 100000
attribute [local go_sem ↓] Go.wp_at_zero Go.wp_at_succ
namespace Nt
open W1 Rt
theorem NB.other {w : World} {b : Nat} {v1 v2 v3 : Value} {t : Int} (h : NB w b v1 v2 v3 t) {p : Addr} (hne : b ≠ p.block) (v : Value) : NB (w.setCell p v) b v1 v2 v3 t := by
  have hb : (w.setCell p v).heap[b]? = w.heap[b]? := Below.heap_setCell _ _ _ _ hne
  obtain ⟨h0, h1, h2, h3⟩ := h
  exact ⟨(World.cell?_of_block (a := ⟨b, 0, none⟩) hb).trans h0, (World.cell?_of_block (a := ⟨b, 1, none⟩) hb).trans h1, (World.cell?_of_block (a := ⟨b, 2, none⟩) hb).trans h2, (World.cell?_of_block (a := ⟨b, 3, none⟩) hb).trans h3⟩
theorem NB.but {w w' : World} {b : Nat} {v1 v2 v3 : Value} {t : Int} (h : NB w b v1 v2 v3 t) (hb : w'.heap[b]? = w.heap[b]?) : NB w' b v1 v2 v3 t := by
  obtain ⟨h0, h1, h2, h3⟩ := h
  exact ⟨(World.cell?_of_block (a := ⟨b, 0, none⟩) hb).trans h0, (World.cell?_of_block (a := ⟨b, 1, none⟩) hb).trans h1, (World.cell?_of_block (a := ⟨b, 2, none⟩) hb).trans h2, (World.cell?_of_block (a := ⟨b, 3, none⟩) hb).trans h3⟩
theorem set_same {w : World} {b k : Nat} {u v : Value} (h : w.cell? ⟨b, k, none⟩ = some u) : (w.setCell ⟨b, k, none⟩ v).cell? ⟨b, k, none⟩ = some v := World.cell?_setCell_same _ _ _ h
theorem set_else {w : World} {b k j : Nat} {v : Value} (h : j ≠ k) : (w.setCell ⟨b, k, none⟩ v).cell? ⟨b, j, none⟩ = w.cell? ⟨b, j, none⟩ := World.cell?_setCell_other _ _ _ _ (by intro e; injection e with _ e2 _; exact h e2.symm)
theorem NB.set0 {w : World} {b : Nat} {v1 v2 v3 : Value} {t : Int} (h : NB w b v1 v2 v3 t) (v : Value) : NB (w.setCell ⟨b, 0, none⟩ v) b v v2 v3 t := ⟨set_same h.1, (set_else (by decide)).trans h.2.1, (set_else (by decide)).trans h.2.2.1, (set_else (by decide)).trans h.2.2.2⟩
theorem NB.set1 {w : World} {b : Nat} {v1 v2 v3 : Value} {t : Int} (h : NB w b v1 v2 v3 t) (v : Value) : NB (w.setCell ⟨b, 1, none⟩ v) b v1 v v3 t := ⟨(set_else (by decide)).trans h.1, set_same h.2.1, (set_else (by decide)).trans h.2.2.1, (set_else (by decide)).trans h.2.2.2⟩
theorem NB.set2 {w : World} {b : Nat} {v1 v2 v3 : Value} {t : Int} (h : NB w b v1 v2 v3 t) (v : Value) : NB (w.setCell ⟨b, 2, none⟩ v) b v1 v2 v t := ⟨(set_else (by decide)).trans h.1, (set_else (by decide)).trans h.2.1, set_same h.2.2.1, (set_else (by decide)).trans h.2.2.2⟩
theorem there_new4 (w : World) (v1 v2 v3 v4 : Value) (ty : Nat) : (w.alloc (.cells #[v1, v2, v3, v4] ty)).there w.heap.size 0 4 := fun j hj => by
  refine ⟨?_, by simp⟩
  rw [Nat.zero_add, World.cell?_alloc_new, Array.getElem?_eq_getElem (by simpa using hj)]; rfl
theorem free_at {w : World} {b k : Nat} (h : w.there b 0 4) (hk : k < 4) : w.frozen? ⟨b, k, none⟩ = false := by have := (h k hk).2; rwa [Nat.zero_add] at this
theorem there_at {w : World} {b n : Nat} {p : Addr} {v : Value} (h : w.there b 0 n) : (w.setCell p v).there b 0 n := fun j hj => by
  refine ⟨?_, by rw [World.frozen?_setCell]; exact (h j hj).2⟩
  obtain ⟨u, hu⟩ := Option.isSome_iff_exists.1 (h j hj).1
  obtain ⟨u', hu'⟩ := cell?_setCell_some (p := p) (x := v) hu
  rw [hu']; rfl
/-- A copy of a net: its row, its lists, in memory of one's own between two bounds. -/
def OwT (W : World) (lo hi g1 g2 g3 : Nat) (ms : List Rm) (qs : List Pl) (cs : List Int) (fs : List Fm.R) : Prop :=
  ∃ p, lo ≤ g1 ∧ g1 < p ∧ p ≤ g2 ∧ g2 < g3 ∧ g3 < hi ∧ hi ≤ W.heap.size ∧ (qs.length = ms.length ∧ ∀ i, i < ms.length → Ad (qs.getD i Pl.zero)) ∧ UpN W g1 ms.length ms.length ms qs ∧ OwN W (g1 + 1) p ms.length ms qs ∧ In.Upto W g2 cs.length cs.length cs ∧ Fm.Upto W g3 fs.length fs.length fs
theorem OwT.nr {W : World} {lo hi g1 g2 g3 : Nat} {ms : List Rm} {qs : List Pl} {cs : List Int} {fs : List Fm.R} (h : OwT W lo hi g1 g2 g3 ms qs cs fs) : NR W (some ⟨g1, 0, none⟩) ms qs := by
  obtain ⟨p, _, _, _, _, _, _, _, h1, h2, _, _⟩ := h
  exact nr_of rfl h1 h2
theorem OwT.ad {W : World} {lo hi g1 g2 g3 : Nat} {ms : List Rm} {qs : List Pl} {cs : List Int} {fs : List Fm.R} (h : OwT W lo hi g1 g2 g3 ms qs cs fs) : ∀ i, i < ms.length → Ad (qs.getD i Pl.zero) := by
  obtain ⟨p, _, _, _, _, _, _, ⟨_, h0⟩, _⟩ := h
  exact h0
theorem OwT.ri {W : World} {lo hi g1 g2 g3 : Nat} {ms : List Rm} {qs : List Pl} {cs : List Int} {fs : List Fm.R} (h : OwT W lo hi g1 g2 g3 ms qs cs fs) : In.RM W (some ⟨g2, 0, none⟩) cs := by
  obtain ⟨p, _, _, _, _, _, _, _, _, _, h3, _⟩ := h
  exact In.rm_of h3
theorem OwT.rf {W : World} {lo hi g1 g2 g3 : Nat} {ms : List Rm} {qs : List Pl} {cs : List Int} {fs : List Fm.R} (h : OwT W lo hi g1 g2 g3 ms qs cs fs) : Fm.RM W (some ⟨g3, 0, none⟩) fs := by
  obtain ⟨p, _, _, _, _, _, _, _, _, _, _, h4⟩ := h
  exact Fm.rm_of h4
theorem OwT.below {W W' : World} {lo hi g1 g2 g3 : Nat} {ms : List Rm} {qs : List Pl} {cs : List Int} {fs : List Fm.R} (h : OwT W lo hi g1 g2 g3 ms qs cs fs) (hb : Below W.heap.size W W') : OwT W' lo hi g1 g2 g3 ms qs cs fs := by
  obtain ⟨p, e1, e2, e3, e4, e5, e6, e7, h1, h2, h3, h4⟩ := h
  exact ⟨p, e1, e2, e3, e4, e5, Nat.le_trans e6 hb.size, e7, h1.under hb (by omega), h2.below hb, h3.below hb (by omega), h4.below hb (by omega)⟩
theorem UpN.block {w w' : World} {g n j : Nat} {ms : List Rm} {qs : List Pl} (h : UpN w g n j ms qs) (hb : w'.heap[g]? = w.heap[g]?) : UpN w' g n j ms qs :=
  ⟨fun i hi j u hu => (World.cell?_of_block (a := ⟨g, i * 13 + j, none⟩) hb).trans (h.1 i hi j u hu), fun j hj => ⟨by rw [World.cell?_of_block (a := ⟨g, 0 + j, none⟩) hb]; exact (h.2 j hj).1, by rw [World.frozen?_of_block (a := ⟨g, 0 + j, none⟩) hb]; exact (h.2 j hj).2⟩⟩
theorem OwN.set {w : World} {lo hi j : Nat} {ms : List Rm} {qs : List Pl} (h : OwN w lo hi j ms qs) {p : Addr} {v : Value} (hp : p.block < lo ∨ hi ≤ p.block) : OwN (w.setCell p v) lo hi j ms qs :=
  h.but (Lo := p.block) (Hi := p.block + 1) (by simp [World.setCell]) (fun k _ hk => Below.heap_setCell _ _ _ _ (by omega)) (by omega)
theorem infoN : Try.prog.underlying 26 = some (Try.prog.underlying 26).get! ∧ ((Try.prog.underlying 26).get!).isRow = true ∧ (Try.prog.info? 26).map (·.size) = some 4 := ⟨by kernel_rfl, by kernel_rfl, by kernel_rfl⟩
theorem nb_range {w : World} {b : Nat} {v1 v2 v3 : Value} {t : Int} (h : NB w b v1 v2 v3 t) : w.rangeAt b 0 [v1, v2, v3, .int .i64 t] := fun j u hu => by
  obtain ⟨h0, h1, h2, h3⟩ := h
  rw [Nat.zero_add]
  match j, hu with
  | 0, hu => simp at hu; subst hu; exact h0
  | 1, hu => simp at hu; subst hu; exact h1
  | 2, hu => simp at hu; subst hu; exact h2
  | 3, hu => simp at hu; subst hu; exact h3
  | j + 4, hu => simp at hu
theorem range_nb {w : World} {b : Nat} {v1 v2 v3 : Value} {t : Int} (h : w.rangeAt b 0 [v1, v2, v3, .int .i64 t]) : NB w b v1 v2 v3 t := ⟨h 0 _ rfl, h 1 _ rfl, h 2 _ rfl, h 3 _ rfl⟩
/-- A net is written whole. -/
theorem storeNB {ops : Array Oper} {rest : List Oper} {op : Oper} {a : Act} {w : World} {Q : Exit → Act → World → Prop} (x y : Operand) (hgd : op.guard = none) (ho : op.op = .store 26 x y) {b : Nat} {v1 v2 v3 : Value} {t : Int} (h1 : v1.oneCell' = true) (h2 : v2.oneCell' = true) (h3 : v3.oneCell' = true) (ht : w.there b 0 4) (hx : a.eval x = .pointer (some ⟨b, 0, none⟩)) (hy : a.eval y = .agg #[v1, v2, v3, .int .i64 t])
    (hk : ∀ w', NB w' b v1 v2 v3 t → w'.there b 0 4 → (∀ B w0, Below B w0 w → B ≤ b → Below B w0 w') → w'.heap.size = w.heap.size → (∀ k, k ≠ b → w'.heap[k]? = w.heap[k]?) → wpList Try.prog ops Q rest (a.put op.dst undef) w') : wpList Try.prog ops Q (op :: rest) a w :=
  wpList_store_mid hgd 26 x y ho b 0 #[v1, v2, v3, .int .i64 t] hx hy ht infoN.2.2 (all_oneCell_toArray (cs := [v1, v2, v3, .int .i64 t]) (by intro v hv; simp only [List.mem_cons, List.not_mem_nil, or_false] at hv; rcases hv with rfl | rfl | rfl | rfl <;> first | rfl | assumption)) (hk _ (range_nb (World.rangeAt_setCells_same w b 0 _ ht)) (World.there_setCells ht _ _ _) (fun B w0 h hb => below_cells hb _ _ _ h) (size_cells _ _ _) (fun k hk => heap_cells hk _ _ _))
/-- A net handed back. -/
theorem resultsN {fn : Func} {p : Tmp} (h : fn.results = #[.cell p 26]) (tmps : Array Value) (w : World) {b : Nat} {v1 v2 v3 : Value} {t : Int} (hp : tmps.getD p undef = .pointer (some ⟨b, 0, none⟩)) (hg : NB w b v1 v2 v3 t) : (results fn tmps).run Try.prog w = .ok (.agg #[v1, v2, v3, .int .i64 t]) w := by
  have hp' : tmps[p]?.getD undef = .pointer (some ⟨b, 0, none⟩) := by simpa using hp
  simp only [results, h]
  simp [Sem.run_bind, hp', asAddr, run_loadVar_mid w b 0 26 [v1, v2, v3, .int .i64 t] _ (nb_range hg) infoN.1 infoN.2.1 infoN.2.2, Result.andThen]
end Nt
end Go.Proofs.Ytpmlpojefelbbaa
namespace Go.Proofs.Ytpmlpojefelbbaa
open Go.ChangeShapes Go.WideShapes Go.ChangeAt Go.RowKit
set_option linter.unusedVariables false
set_option linter.unusedSimpArgs false
set_option maxRecDepth 100000
attribute [local go_sem ↓] Go.wp_at_zero Go.wp_at_succ
namespace Nt
open W1 Rt
end Nt
end Go.Proofs.Ytpmlpojefelbbaa
namespace Go.Proofs.Ytpmlpojefelbbaa
open Go.ChangeShapes Go.WideShapes Go.ChangeAt Go.RowKit
set_option linter.unusedVariables false
set_option linter.unusedSimpArgs false
set_option maxRecDepth 100000
attribute [local go_sem ↓] Go.wp_at_zero Go.wp_at_succ
namespace Nt
open W1 Rt
def mkK (m : Rm) : Int := 6 + (6 * (m.ls.length : Int) + 3 * (m.tw.length : Int) + 3 * (m.se.length : Int) + 3 * (m.du.length : Int) + 3 * (m.ss.length : Int) + 3 * (m.es.length : Int) + 2 * (m.la.length : Int))
/-- A router's marks: its first number is q, its lists' marks begin at r0 to r6, its last number is r7. -/
def mkR (m : Rm) (q r0 r1 r2 r3 r4 r5 r6 r7 : Int) : Rm := ⟨q, q + 1, q + 1 + 1, q + 1 + 1 + 1, q + 1 + 1 + 1 + 1, r7, Lk.marks r0 m.ls.length, Tu.marks r1 m.tw.length, Tu.marks r2 m.se.length, Tu.marks r3 m.du.length, So.marks r4 m.ss.length, Tu.marks r5 m.es.length, Ed.marks r6 m.la.length⟩
def mk5 (m : Rm) (q : Int) : Rm := ⟨q, q + 1, q + 1 + 1, q + 1 + 1 + 1, q + 1 + 1 + 1 + 1, m.x6, m.ls, m.tw, m.se, m.du, m.ss, m.es, m.la⟩
def mkM (m : Rm) (q : Int) : Rm := mkR m q (q + 1 + 1 + 1 + 1 + 1) ((q + 1 + 1 + 1 + 1 + 1) + 6 * (m.ls.length : Int)) (((q + 1 + 1 + 1 + 1 + 1) + 6 * (m.ls.length : Int)) + 3 * (m.tw.length : Int)) ((((q + 1 + 1 + 1 + 1 + 1) + 6 * (m.ls.length : Int)) + 3 * (m.tw.length : Int)) + 3 * (m.se.length : Int)) (((((q + 1 + 1 + 1 + 1 + 1) + 6 * (m.ls.length : Int)) + 3 * (m.tw.length : Int)) + 3 * (m.se.length : Int)) + 3 * (m.du.length : Int)) ((((((q + 1 + 1 + 1 + 1 + 1) + 6 * (m.ls.length : Int)) + 3 * (m.tw.length : Int)) + 3 * (m.se.length : Int)) + 3 * (m.du.length : Int)) + 3 * (m.ss.length : Int)) (((((((q + 1 + 1 + 1 + 1 + 1) + 6 * (m.ls.length : Int)) + 3 * (m.tw.length : Int)) + 3 * (m.se.length : Int)) + 3 * (m.du.length : Int)) + 3 * (m.ss.length : Int)) + 3 * (m.es.length : Int)) ((((((((q + 1 + 1 + 1 + 1 + 1) + 6 * (m.ls.length : Int)) + 3 * (m.tw.length : Int)) + 3 * (m.se.length : Int)) + 3 * (m.du.length : Int)) + 3 * (m.ss.length : Int)) + 3 * (m.es.length : Int)) + 2 * (m.la.length : Int))
theorem rA_end (m : Rm) (q : Int) : ((((((((q + 1 + 1 + 1 + 1 + 1) + 6 * (m.ls.length : Int)) + 3 * (m.tw.length : Int)) + 3 * (m.se.length : Int)) + 3 * (m.du.length : Int)) + 3 * (m.ss.length : Int)) + 3 * (m.es.length : Int)) + 2 * (m.la.length : Int)) + 1 = q + mkK m := by unfold mkK; omega
theorem mkK_pos (m : Rm) : 6 ≤ mkK m := by unfold mkK; omega
def sumK (ms : List Rm) : Nat → Int
  | 0 => 0
  | j + 1 => sumK ms j + mkK (ms.getD j Rm.zero)
theorem sumK_pos (ms : List Rm) : ∀ j, 0 ≤ sumK ms j
  | 0 => Int.le_refl _
  | j + 1 => by have := sumK_pos ms j; have := mkK_pos (ms.getD j Rm.zero); simp only [sumK]; omega
theorem sumK_le (ms : List Rm) (j : Nat) : ∀ k, sumK ms j ≤ sumK ms (j + k)
  | 0 => Int.le_refl _
  | k + 1 => by have := sumK_le ms j k; have := mkK_pos (ms.getD (j + k) Rm.zero); rw [show j + (k + 1) = (j + k) + 1 by omega]; simp only [sumK]; omega
/-- The heap but an interval is as it was. -/
def Kp (v w : World) (p q : Nat) : Prop := v.heap.size ≤ w.heap.size ∧ ∀ k, k < v.heap.size → (k < p ∨ q ≤ k) → w.heap[k]? = v.heap[k]?
/-- The routers when j of them are marked. -/
def mkA (ms : List Rm) (K : Int) (j i : Nat) : Rm := if i < j then mkM (ms.getD i Rm.zero) (K + sumK ms i) else ms.getD i Rm.zero
theorem mkA_here (ms : List Rm) (K : Int) (j : Nat) : mkA ms K j j = ms.getD j Rm.zero := by unfold mkA; rw [if_neg (by omega)]
theorem mkA_else (ms : List Rm) (K : Int) {j i : Nat} (h : i ≠ j) : mkA ms K (j + 1) i = mkA ms K j i := by
  unfold mkA
  by_cases e : i < j
  · rw [if_pos e, if_pos (by omega)]
  · rw [if_neg e, if_neg (by omega)]
theorem mkA_next (ms : List Rm) (K : Int) (j : Nat) : mkA ms K (j + 1) j = mkM (ms.getD j Rm.zero) (K + sumK ms j) := by unfold mkA; rw [if_pos (by omega)]
/-- Routers in a row at block g, their lists between f i and f (i + 1). -/
def MkS (w : World) (g n : Nat) (f : Nat → Nat) (M : Nat → Rm) (Q : Nat → Pl) : Prop := (∀ i, i < n → w.rangeAt g (i * 13) (cl (M i) (Q i))) ∧ w.there g 0 (n * 13) ∧ ∀ i, i < n → Ow w (f i) (f (i + 1)) (M i) (Q i)
theorem rng_set {w : World} {g o c : Nat} {cs : List Value} {v : Value} (h : w.rangeAt g o cs) (hc : c < cs.length) : (w.setCell ⟨g, o + c, none⟩ v).rangeAt g o (cs.set c v) := fun j u hu => by
  by_cases e : j = c
  · subst e
    have h1 : (cs.set j v)[j]? = some v := by simp [hc]
    rw [h1] at hu; cases hu
    have := h j (cs[j]) (by simp [hc])
    exact World.cell?_setCell_same _ _ _ this
  · rw [World.cell?_setCell_other _ _ _ _ (by intro h; injection h with _ h2 _; omega)]
    exact h j u (by rw [List.getElem?_set_ne (fun h => e h.symm)] at hu; exact hu)
theorem rng_off {w : World} {g o p : Nat} {cs : List Value} {v : Value} (h : w.rangeAt g o cs) (hp : p < o ∨ o + cs.length ≤ p) : (w.setCell ⟨g, p, none⟩ v).rangeAt g o cs := fun j u hu => by
  have hj : j < cs.length := (List.getElem?_eq_some_iff.1 hu).1
  rw [World.cell?_setCell_other _ _ _ _ (by intro h; injection h with _ h2 _; omega)]
  exact h j u hu
theorem ow_same {w : World} {lo hi : Nat} {m m' : Rm} {p : Pl} (h : Ow w lo hi m p) (e : m'.ls = m.ls ∧ m'.tw = m.tw ∧ m'.se = m.se ∧ m'.du = m.du ∧ m'.ss = m.ss ∧ m'.es = m.es ∧ m'.la = m.la) : Ow w lo hi m' p := by
  obtain ⟨e1, e2, e3, e4, e5, e6, e7⟩ := e
  unfold Ow at h ⊢
  rw [e1, e2, e3, e4, e5, e6, e7]; exact h
/-- A cell of one router's row is written that isn't a list's. -/
theorem MkS.put {w : World} {g n j c : Nat} {f : Nat → Nat} {M : Nat → Rm} {Q : Nat → Pl} (h : MkS w g n f M Q) (hj : j < n) (hc : c < 13) {v : Value} {m' : Rm} (e : (cl (M j) (Q j)).set c v = cl m' (Q j)) (el : m'.ls = (M j).ls ∧ m'.tw = (M j).tw ∧ m'.se = (M j).se ∧ m'.du = (M j).du ∧ m'.ss = (M j).ss ∧ m'.es = (M j).es ∧ m'.la = (M j).la) (hg : ∀ i, i < n → g < f i ∨ f (i + 1) ≤ g) : MkS (w.setCell ⟨g, j * 13 + c, none⟩ v) g n f (fun i => if i = j then m' else M i) Q := by
  refine ⟨fun i hi => ?_, there_at h.2.1, fun i hi => ?_⟩
  · by_cases ei : i = j
    · subst ei
      simp only [if_true]
      rw [← e]
      exact rng_set (h.1 i hi) (by rw [cl_len]; exact hc)
    · simp only [if_neg ei]
      exact rng_off (h.1 i hi) (by rw [cl_len]; omega)
  · have ho : Ow (w.setCell ⟨g, j * 13 + c, none⟩ v) (f i) (f (i + 1)) (M i) (Q i) := (h.2.2 i hi).but (Lo := g) (Hi := g + 1) (by simp [World.setCell]) (fun k _ hk => Below.heap_setCell _ _ _ _ (by show k ≠ g; omega)) (by have := hg i hi; omega)
    by_cases ei : i = j
    · subst ei
      simp only [if_true]
      exact ow_same ho el
    · simp only [if_neg ei]; exact ho
theorem MkS.ext {w : World} {g n : Nat} {f : Nat → Nat} {M M' : Nat → Rm} {Q : Nat → Pl} (h : MkS w g n f M Q) (e : ∀ i, i < n → M' i = M i) : MkS w g n f M' Q :=
  ⟨fun i hi => by rw [e i hi]; exact h.1 i hi, h.2.1, fun i hi => by rw [e i hi]; exact h.2.2 i hi⟩
/-- One router's lists were marked, and nothing else happened. -/
theorem MkS.lists {w w' : World} {g n j : Nat} {f : Nat → Nat} {M : Nat → Rm} {Q : Nat → Pl} {m' : Rm} (h : MkS w g n f M Q) (hj : j < n) (hf : ∀ i, i < n → f i ≤ f (i + 1)) (hg : ∀ i, i < n → g < f i ∨ f (i + 1) ≤ g) (hgs : g < w.heap.size) (hs : w.heap.size ≤ w'.heap.size) (hk : ∀ k, k < w.heap.size → (k < f j ∨ f (j + 1) ≤ k) → w'.heap[k]? = w.heap[k]?) (ho : Ow w' (f j) (f (j + 1)) m' (Q j)) (e : cl m' (Q j) = cl (M j) (Q j)) : MkS w' g n f (fun i => if i = j then m' else M i) Q := by
  have hb : w'.heap[g]? = w.heap[g]? := hk g hgs (by have := hg j hj; omega)
  have cb : ∀ q, w'.cell? ⟨g, q, none⟩ = w.cell? ⟨g, q, none⟩ := fun q => World.cell?_of_block (a := ⟨g, q, none⟩) hb
  have fb : ∀ q, w'.frozen? ⟨g, q, none⟩ = w.frozen? ⟨g, q, none⟩ := fun q => World.frozen?_of_block (a := ⟨g, q, none⟩) hb
  refine ⟨fun i hi => ?_, fun k hk => by rw [cb, fb]; exact h.2.1 k hk, fun i hi => ?_⟩
  · have h1 : w'.rangeAt g (i * 13) (cl (M i) (Q i)) := fun k u hu => (cb _).trans (h.1 i hi k u hu)
    by_cases ei : i = j
    · subst ei; simp only [if_true]; rw [e]; exact h1
    · simp only [if_neg ei]; exact h1
  · by_cases ei : i = j
    · subst ei; simp only [if_true]; exact ho
    · simp only [if_neg ei]
      have up : ∀ i k, i + k ≤ n → f i ≤ f (i + k) := fun i k => by
        induction k with
        | zero => intro _; exact Nat.le_refl _
        | succ k ih => intro hk; exact Nat.le_trans (ih (by omega)) (hf (i + k) (by omega))
      refine (h.2.2 i hi).but hs hk ?_
      rcases Nat.lt_or_gt_of_ne ei with h1 | h1
      · have := up (i + 1) (j - (i + 1)) (by omega)
        rw [show i + 1 + (j - (i + 1)) = j by omega] at this
        exact .inl this
      · have := up (j + 1) (i - (j + 1)) (by omega)
        rw [show j + 1 + (i - (j + 1)) = i by omega] at this
        exact .inr this
set_option maxHeartbeats 32000000 in
theorem markNS (g n c lo hi : Nat) (f : Nat → Nat) (K : Int) (ms : List Rm) (Q : Nat → Pl) (w : World) (hn : ms.length = n) (hn8 : n ≤ 1048576) (hK : 0 ≤ K) (hK1 : K + sumK ms n ≤ 900000000) (hs : ∀ i, i < ms.length → Sm (ms.getD i Rm.zero)) (hgs : g < w.heap.size) (hlg : lo ≤ g) (hgh : g < hi) (hg : ∀ i, i < n → g < f i ∨ f (i + 1) ≤ g) (hf : ∀ i, i < n → f i ≤ f (i + 1)) (hfl : ∀ i, i < n → lo ≤ f i ∧ f (i + 1) ≤ hi ∧ f (i + 1) ≤ w.heap.size) (h : MkS w g n f (fun i => ms.getD i Rm.zero) Q) :
    Calls Try.prog 24 #[.slice (some ⟨g, 0, none⟩) n c, .int .i64 K] w fun e w' => e = .returned (.int .i64 (K + sumK ms n)) ∧ w.heap.size ≤ w'.heap.size ∧ Below (min lo w.heap.size) w w' ∧ MkS w' g n f (fun i => mkM (ms.getD i Rm.zero) (K + sumK ms i)) Q ∧ ∀ k, k < w.heap.size → (k < lo ∨ hi ≤ k) → w'.heap[k]? = w.heap[k]? := by
  have HM0 : Hid (MkS w g n f (mkA ms K 0) Q) := hide (h.ext (fun i _ => by unfold mkA; rw [if_neg (by omega)]))
  have HSM := hide hs
  have HN := hide hn
  have HG := hide hg
  have HF := hide hf
  have HFL := hide hfl
  clear h hs hn hg hf hfl
  go_enter Try.func24, Try.ntmps24
  go_wp2
  go_loopw [1, 5] (fun q i wr => ∃ j : Nat, j ≤ n ∧ i = .int .i64 j ∧ q = .int .i64 (K + sumK ms j) ∧ Hid (w.heap.size ≤ wr.heap.size) ∧ Hid (Below (min lo w.heap.size) w wr) ∧ Hid (MkS wr g n f (mkA ms K j) Q) ∧ Hid (∀ k, k < w.heap.size → (k < lo ∨ hi ≤ k) → wr.heap[k]? = w.heap[k]?)) (fun _ i _ => n - (intOf i).toNat)
  case atStart => exact ⟨0, by omega, rfl, by simp [sumK], hide (Nat.le_refl _), hide (Below.refl _ _), HM0, hide (fun _ _ _ => rfl)⟩
  case round =>
    clear HM0
    obtain ⟨j, hj, rfl, rfl, hsz, hbl, hmk, hot⟩ := hrel
    by_cases hlt : (j : Int) < (n : Int)
    · have k0 : (0 : Int) ≤ (j : Int) := by omega
      have hjn : j < n := by omega
      have hjl : j < ms.length := by rw [unhide HN]; exact hjn
      have HSJ := hide (unhide HSM j hjl)
      have hq0 : 0 ≤ K + sumK ms j := by have := sumK_pos ms j; omega
      have hq1 : K + sumK ms j ≤ 900000000 := by
        have := sumK_le ms j (n - j)
        rw [show j + (n - j) = n by omega] at this; omega
      have HSN : Hid (sumK ms (j + 1) = sumK ms j + mkK (ms.getD j Rm.zero)) := hide rfl
      have HHE := hide (mkA_here ms K j)
      have HNX := hide (mkA_next ms K j)
      have HEL := hide (fun i (h : i ≠ j) => mkA_else ms K (j := j) h)
      obtain ⟨qq, hqq⟩ : ∃ q, K + sumK ms j = q := ⟨_, rfl⟩
      have HQQ := hide hqq
      rw [hqq] at hq0 hq1 HNX ⊢
      have hrow := (unhide hmk).1 j hjn
      have hth := (unhide hmk).2.1
      rw [unhide HHE] at hrow
      generalize hM : mkA ms K j = M at *
      have HJ0 : Hid (M j = ms.getD j Rm.zero) := HHE
      generalize hP : Q j = p at *
      have HP := hide hP
      generalize hm : ms.getD j Rm.zero = m at *
      have hgr : g < wr.heap.size := Nat.lt_of_lt_of_le hgs (unhide hsz)
      clear hM HHE hqq hjl hP hm
      obtain ⟨x0, x1, x2, x3, x4⟩ := (⟨hrow 0 _ rfl, hrow 1 _ rfl, hrow 2 _ rfl, hrow 3 _ rfl, hrow 4 _ rfl⟩ : _ ∧ _ ∧ _ ∧ _ ∧ _)
      rw [Nat.add_zero] at x0
      obtain ⟨y0, y1, y2, y3, y4⟩ := (⟨(hth (j * 13) (by omega)).2, (hth (j * 13 + 1) (by omega)).2, (hth (j * 13 + 2) (by omega)).2, (hth (j * 13 + 3) (by omega)).2, (hth (j * 13 + 4) (by omega)).2⟩ : _ ∧ _ ∧ _ ∧ _ ∧ _)
      rw [Nat.zero_add] at y0 y1 y2 y3 y4
      have M1 := (unhide hmk).put hjn (show 0 < 13 by omega) (v := .int .i64 qq) (m' := { M j with x1 := qq }) rfl ⟨rfl, rfl, rfl, rfl, rfl, rfl, rfl⟩ (unhide HG)
      rw [Nat.add_zero] at M1
      have M2 := M1.put hjn (show 1 < 13 by omega) (v := .int .i64 (qq + 1)) (m' := { M j with x1 := qq, x2 := qq + 1 }) (by simp only [if_true]; rfl) (by simp only [if_true, and_self]) (unhide HG)
      have M3 := M2.put hjn (show 2 < 13 by omega) (v := .int .i64 (qq + 1 + 1)) (m' := { M j with x1 := qq, x2 := qq + 1, x3 := qq + 1 + 1 }) (by simp only [if_true]; rfl) (by simp only [if_true, and_self]) (unhide HG)
      have M4 := M3.put hjn (show 3 < 13 by omega) (v := .int .i64 (qq + 1 + 1 + 1)) (m' := { M j with x1 := qq, x2 := qq + 1, x3 := qq + 1 + 1, x4 := qq + 1 + 1 + 1 }) (by simp only [if_true]; rfl) (by simp only [if_true, and_self]) (unhide HG)
      have M5 := M4.put hjn (show 4 < 13 by omega) (v := .int .i64 (qq + 1 + 1 + 1 + 1)) (m' := mk5 (M j) qq) (by simp only [if_true]; rfl) (by simp only [if_true]; exact ⟨rfl, rfl, rfl, rfl, rfl, rfl, rfl⟩) (unhide HG)
      have HM5 := hide (M5.ext (M' := fun i => if i = j then mk5 m qq else M i) (fun i _ => by by_cases e : i = j <;> simp [e, unhide HJ0]))
      have HB5 := hide ((((((unhide hbl).setCell (p := ⟨g, j * 13, none⟩) (by show min lo w.heap.size ≤ g; omega) (.int .i64 qq)).setCell (p := ⟨g, j * 13 + 1, none⟩) (by show min lo w.heap.size ≤ g; omega) (.int .i64 (qq + 1))).setCell (p := ⟨g, j * 13 + 2, none⟩) (by show min lo w.heap.size ≤ g; omega) (.int .i64 (qq + 1 + 1))).setCell (p := ⟨g, j * 13 + 3, none⟩) (by show min lo w.heap.size ≤ g; omega) (.int .i64 (qq + 1 + 1 + 1))).setCell (p := ⟨g, j * 13 + 4, none⟩) (by show min lo w.heap.size ≤ g; omega) (.int .i64 (qq + 1 + 1 + 1 + 1)))
      have HZ5 : Hid (w.heap.size ≤ (((((wr.setCell ⟨g, j * 13, none⟩ (.int .i64 qq)).setCell ⟨g, j * 13 + 1, none⟩ (.int .i64 (qq + 1))).setCell ⟨g, j * 13 + 2, none⟩ (.int .i64 (qq + 1 + 1))).setCell ⟨g, j * 13 + 3, none⟩ (.int .i64 (qq + 1 + 1 + 1))).setCell ⟨g, j * 13 + 4, none⟩ (.int .i64 (qq + 1 + 1 + 1 + 1))).heap.size) := hide (by simpa [World.setCell] using unhide hsz)
      have HO5 : Hid (∀ k, k < w.heap.size → (k < lo ∨ hi ≤ k) → (((((wr.setCell ⟨g, j * 13, none⟩ (.int .i64 qq)).setCell ⟨g, j * 13 + 1, none⟩ (.int .i64 (qq + 1))).setCell ⟨g, j * 13 + 2, none⟩ (.int .i64 (qq + 1 + 1))).setCell ⟨g, j * 13 + 3, none⟩ (.int .i64 (qq + 1 + 1 + 1))).setCell ⟨g, j * 13 + 4, none⟩ (.int .i64 (qq + 1 + 1 + 1 + 1))).heap[k]? = w.heap[k]?) := hide (fun k hk h => by
        have hne : k ≠ g := by omega
        exact (Below.heap_setCell _ _ _ _ hne).trans ((Below.heap_setCell _ _ _ _ hne).trans ((Below.heap_setCell _ _ _ _ hne).trans ((Below.heap_setCell _ _ _ _ hne).trans ((Below.heap_setCell _ _ _ _ hne).trans (unhide hot k hk h))))))
      clear hrow hth M1 M2 M3 M4 M5 hmk hbl hsz hot
      go_upto_region 14 with fail
      clear x0 x1 x2 x3 x4 y0 y1 y2 y3 y4
      generalize ((((wr.setCell ⟨g, j * 13, none⟩ (.int .i64 qq)).setCell ⟨g, j * 13 + 1, none⟩ (.int .i64 (qq + 1))).setCell ⟨g, j * 13 + 2, none⟩ (.int .i64 (qq + 1 + 1))).setCell ⟨g, j * 13 + 3, none⟩ (.int .i64 (qq + 1 + 1 + 1))).setCell ⟨g, j * 13 + 4, none⟩ (.int .i64 (qq + 1 + 1 + 1 + 1)) = v0 at *
      obtain ⟨r0, hr0⟩ : ∃ r, qq + 1 + 1 + 1 + 1 + 1 = r := ⟨_, rfl⟩
      rw [hr0]
      obtain ⟨r1, hr1⟩ : ∃ r, r0 + 6 * (m.ls.length : Int) = r := ⟨_, rfl⟩
      obtain ⟨r2, hr2⟩ : ∃ r, r1 + 3 * (m.tw.length : Int) = r := ⟨_, rfl⟩
      obtain ⟨r3, hr3⟩ : ∃ r, r2 + 3 * (m.se.length : Int) = r := ⟨_, rfl⟩
      obtain ⟨r4, hr4⟩ : ∃ r, r3 + 3 * (m.du.length : Int) = r := ⟨_, rfl⟩
      obtain ⟨r5, hr5⟩ : ∃ r, r4 + 3 * (m.ss.length : Int) = r := ⟨_, rfl⟩
      obtain ⟨r6, hr6⟩ : ∃ r, r5 + 3 * (m.es.length : Int) = r := ⟨_, rfl⟩
      obtain ⟨r7, hr7⟩ : ∃ r, r6 + 2 * (m.la.length : Int) = r := ⟨_, rfl⟩
      have HMM : Hid (mkM m qq = mkR m qq r0 r1 r2 r3 r4 r5 r6 r7) := hide (by unfold mkM; subst hr7; subst hr6; subst hr5; subst hr4; subst hr3; subst hr2; subst hr1; subst hr0; rfl)
      have HEN : Hid (r7 + 1 = qq + mkK m) := hide (by have := rA_end m qq; subst hr7; subst hr6; subst hr5; subst hr4; subst hr3; subst hr2; subst hr1; subst hr0; exact this)
      obtain ⟨s1, s2, s3, s4, s5, s6, s7⟩ := unhide HSJ
      have C1 := hide (fun lo hi W h => Lk.markF p.a1 p.c1 lo hi r0 m.ls W (by omega) (by omega) (by omega) h)
      rw [hr1] at C1
      have C2 := hide (fun lo hi W h => Tu.markF p.a2 p.c2 lo hi r1 m.tw W (by omega) (by omega) (by omega) h)
      rw [hr2] at C2
      have C3 := hide (fun lo hi W h => Tu.markF p.a3 p.c3 lo hi r2 m.se W (by omega) (by omega) (by omega) h)
      rw [hr3] at C3
      have C4 := hide (fun lo hi W h => Tu.markF p.a4 p.c4 lo hi r3 m.du W (by omega) (by omega) (by omega) h)
      rw [hr4] at C4
      have C5 := hide (fun lo hi W h => So.markF p.a5 p.c5 lo hi r4 m.ss W (by omega) (by omega) (by omega) h)
      rw [hr5] at C5
      have C6 := hide (fun lo hi W h => Tu.markF p.a6 p.c6 lo hi r5 m.es W (by omega) (by omega) (by omega) h)
      rw [hr6] at C6
      have C7 := hide (fun lo hi W h => Ed.markF p.a7 p.c7 lo hi r6 m.la W (by omega) (by omega) (by omega) h)
      rw [hr7] at C7
      have hr70 : 0 ≤ r7 := by omega
      have hr71 : r7 ≤ 990000000 := by omega
      clear hr0 hr1 hr2 hr3 hr4 hr5 hr6 hr7 s1 s2 s3 s4 s5 s6 s7 HSJ
      have hfl := unhide HFL j hjn
      have hgj := unhide HG j hjn
      have hrow := (unhide HM5).1 j hjn
      have how := (unhide HM5).2.2 j hjn
      simp only [if_true] at hrow how
      rw [unhide HP] at hrow how
      have HCE : Hid (∀ W : World, W.heap[g]? = v0.heap[g]? → (W.cell? ⟨g, j * 13 + 5, none⟩ = some (.slice p.a1 m.ls.length p.c1) ∧ W.cell? ⟨g, j * 13 + 6, none⟩ = some (.slice p.a2 m.tw.length p.c2) ∧ W.cell? ⟨g, j * 13 + 7, none⟩ = some (.slice p.a3 m.se.length p.c3) ∧ W.cell? ⟨g, j * 13 + 8, none⟩ = some (.slice p.a4 m.du.length p.c4) ∧ W.cell? ⟨g, j * 13 + 9, none⟩ = some (.slice p.a5 m.ss.length p.c5) ∧ W.cell? ⟨g, j * 13 + 10, none⟩ = some (.slice p.a6 m.es.length p.c6) ∧ W.cell? ⟨g, j * 13 + 11, none⟩ = some (.slice p.a7 m.la.length p.c7))) := hide (fun W hW => by
        have cb : ∀ q, W.cell? ⟨g, q, none⟩ = v0.cell? ⟨g, q, none⟩ := fun q => World.cell?_of_block (a := ⟨g, q, none⟩) hW
        exact ⟨(cb _).trans (hrow 5 _ rfl), (cb _).trans (hrow 6 _ rfl), (cb _).trans (hrow 7 _ rfl), (cb _).trans (hrow 8 _ rfl), (cb _).trans (hrow 9 _ rfl), (cb _).trans (hrow 10 _ rfl), (cb _).trans (hrow 11 _ rfl)⟩)
      obtain ⟨b0, hb0⟩ : ∃ b, f j = b := ⟨_, rfl⟩
      obtain ⟨b7, hb7⟩ : ∃ b, f (j + 1) = b := ⟨_, rfl⟩
      have HB07 := hide (And.intro hb0 hb7)
      rw [hb0, hb7] at hfl hgj how
      unfold Ow RL at how
      obtain ⟨b1, b2, b3, b4, b5, b6, ⟨o0, o1, o2, o3, o4, o5, o6⟩, u1, u2, u3, u4, u5, u6, u7⟩ := how
      dsimp only [mk5] at u1 u2 u3 u4 u5 u6 u7
      have hv0 := unhide HZ5
      have hz0 : b7 ≤ v0.heap.size := by omega
      have hgv : g < v0.heap.size := Nat.lt_of_lt_of_le hgs hv0
      have HK0 : Hid (Kp v0 v0 b0 b7) := hide ⟨Nat.le_refl _, fun _ _ _ => rfl⟩
      have HE0 : Hid (Below (min b0 v0.heap.size) v0 v0) := hide (Below.refl _ _)
      clear hb0 hb7 hrow
      have U1_0 := hide u1
      have U2_0 := hide u2
      have U3_0 := hide u3
      have U4_0 := hide u4
      have U5_0 := hide u5
      have U6_0 := hide u6
      have U7_0 := hide u7
      clear u1 u2 u3 u4 u5 u6 u7
      obtain ⟨e1, e2, e3, e4, e5, e6, e7⟩ := unhide HCE v0 ((unhide HK0).2 g hgv (by omega))
      go_wp2_with fail
      clear e1 e2 e3 e4 e5 e6 e7
      refine (unhide C1 b0 b1 _ (unhide U1_0)).mono ?_
      rintro e v1 ⟨rfl, hz_, be_, l_, k_⟩
      have hk_ := unhide HK0
      have HK1 : Hid (Kp v0 v1 b0 b7) := hide ⟨Nat.le_trans hk_.1 hz_, fun k hk h => (k_ k (Nat.lt_of_lt_of_le hk hk_.1) (by omega)).trans (hk_.2 k hk h)⟩
      have HE1 : Hid (Below (min b0 v0.heap.size) v0 v1) := hide ((unhide HE0).trans (be_.mono (by have := hk_.1; omega)))
      have U1_1 := hide l_
      have U2_1 := hide ((unhide U2_0).but (p := fun k => k < b0 ∨ b1 ≤ k) hz_ (fun k hk h => k_ k hk h) (fun k h1 h2 => by omega))
      have U3_1 := hide ((unhide U3_0).but (p := fun k => k < b0 ∨ b1 ≤ k) hz_ (fun k hk h => k_ k hk h) (fun k h1 h2 => by omega))
      have U4_1 := hide ((unhide U4_0).but (p := fun k => k < b0 ∨ b1 ≤ k) hz_ (fun k hk h => k_ k hk h) (fun k h1 h2 => by omega))
      have U5_1 := hide ((unhide U5_0).but (p := fun k => k < b0 ∨ b1 ≤ k) hz_ (fun k hk h => k_ k hk h) (fun k h1 h2 => by omega))
      have U6_1 := hide ((unhide U6_0).but (p := fun k => k < b0 ∨ b1 ≤ k) hz_ (fun k hk h => k_ k hk h) (fun k h1 h2 => by omega))
      have U7_1 := hide ((unhide U7_0).but (p := fun k => k < b0 ∨ b1 ≤ k) hz_ (fun k hk h => k_ k hk h) (fun k h1 h2 => by omega))
      clear hz_ be_ l_ k_ hk_ HK0 HE0 U1_0 U2_0 U3_0 U4_0 U5_0 U6_0 U7_0 C1
      obtain ⟨e1, e2, e3, e4, e5, e6, e7⟩ := unhide HCE v1 ((unhide HK1).2 g hgv (by omega))
      go_wp2_with fail
      clear e1 e2 e3 e4 e5 e6 e7
      refine (unhide C2 b1 b2 _ (unhide U2_1)).mono ?_
      rintro e v2 ⟨rfl, hz_, be_, l_, k_⟩
      have hk_ := unhide HK1
      have HK2 : Hid (Kp v0 v2 b0 b7) := hide ⟨Nat.le_trans hk_.1 hz_, fun k hk h => (k_ k (Nat.lt_of_lt_of_le hk hk_.1) (by omega)).trans (hk_.2 k hk h)⟩
      have HE2 : Hid (Below (min b0 v0.heap.size) v0 v2) := hide ((unhide HE1).trans (be_.mono (by have := hk_.1; omega)))
      have U2_2 := hide l_
      have U1_2 := hide ((unhide U1_1).but (p := fun k => k < b1 ∨ b2 ≤ k) hz_ (fun k hk h => k_ k hk h) (fun k h1 h2 => by omega))
      have U3_2 := hide ((unhide U3_1).but (p := fun k => k < b1 ∨ b2 ≤ k) hz_ (fun k hk h => k_ k hk h) (fun k h1 h2 => by omega))
      have U4_2 := hide ((unhide U4_1).but (p := fun k => k < b1 ∨ b2 ≤ k) hz_ (fun k hk h => k_ k hk h) (fun k h1 h2 => by omega))
      have U5_2 := hide ((unhide U5_1).but (p := fun k => k < b1 ∨ b2 ≤ k) hz_ (fun k hk h => k_ k hk h) (fun k h1 h2 => by omega))
      have U6_2 := hide ((unhide U6_1).but (p := fun k => k < b1 ∨ b2 ≤ k) hz_ (fun k hk h => k_ k hk h) (fun k h1 h2 => by omega))
      have U7_2 := hide ((unhide U7_1).but (p := fun k => k < b1 ∨ b2 ≤ k) hz_ (fun k hk h => k_ k hk h) (fun k h1 h2 => by omega))
      clear hz_ be_ l_ k_ hk_ HK1 HE1 U1_1 U2_1 U3_1 U4_1 U5_1 U6_1 U7_1 C2
      obtain ⟨e1, e2, e3, e4, e5, e6, e7⟩ := unhide HCE v2 ((unhide HK2).2 g hgv (by omega))
      go_wp2_with fail
      clear e1 e2 e3 e4 e5 e6 e7
      refine (unhide C3 b2 b3 _ (unhide U3_2)).mono ?_
      rintro e v3 ⟨rfl, hz_, be_, l_, k_⟩
      have hk_ := unhide HK2
      have HK3 : Hid (Kp v0 v3 b0 b7) := hide ⟨Nat.le_trans hk_.1 hz_, fun k hk h => (k_ k (Nat.lt_of_lt_of_le hk hk_.1) (by omega)).trans (hk_.2 k hk h)⟩
      have HE3 : Hid (Below (min b0 v0.heap.size) v0 v3) := hide ((unhide HE2).trans (be_.mono (by have := hk_.1; omega)))
      have U3_3 := hide l_
      have U1_3 := hide ((unhide U1_2).but (p := fun k => k < b2 ∨ b3 ≤ k) hz_ (fun k hk h => k_ k hk h) (fun k h1 h2 => by omega))
      have U2_3 := hide ((unhide U2_2).but (p := fun k => k < b2 ∨ b3 ≤ k) hz_ (fun k hk h => k_ k hk h) (fun k h1 h2 => by omega))
      have U4_3 := hide ((unhide U4_2).but (p := fun k => k < b2 ∨ b3 ≤ k) hz_ (fun k hk h => k_ k hk h) (fun k h1 h2 => by omega))
      have U5_3 := hide ((unhide U5_2).but (p := fun k => k < b2 ∨ b3 ≤ k) hz_ (fun k hk h => k_ k hk h) (fun k h1 h2 => by omega))
      have U6_3 := hide ((unhide U6_2).but (p := fun k => k < b2 ∨ b3 ≤ k) hz_ (fun k hk h => k_ k hk h) (fun k h1 h2 => by omega))
      have U7_3 := hide ((unhide U7_2).but (p := fun k => k < b2 ∨ b3 ≤ k) hz_ (fun k hk h => k_ k hk h) (fun k h1 h2 => by omega))
      clear hz_ be_ l_ k_ hk_ HK2 HE2 U1_2 U2_2 U3_2 U4_2 U5_2 U6_2 U7_2 C3
      obtain ⟨e1, e2, e3, e4, e5, e6, e7⟩ := unhide HCE v3 ((unhide HK3).2 g hgv (by omega))
      go_wp2_with fail
      clear e1 e2 e3 e4 e5 e6 e7
      refine (unhide C4 b3 b4 _ (unhide U4_3)).mono ?_
      rintro e v4 ⟨rfl, hz_, be_, l_, k_⟩
      have hk_ := unhide HK3
      have HK4 : Hid (Kp v0 v4 b0 b7) := hide ⟨Nat.le_trans hk_.1 hz_, fun k hk h => (k_ k (Nat.lt_of_lt_of_le hk hk_.1) (by omega)).trans (hk_.2 k hk h)⟩
      have HE4 : Hid (Below (min b0 v0.heap.size) v0 v4) := hide ((unhide HE3).trans (be_.mono (by have := hk_.1; omega)))
      have U4_4 := hide l_
      have U1_4 := hide ((unhide U1_3).but (p := fun k => k < b3 ∨ b4 ≤ k) hz_ (fun k hk h => k_ k hk h) (fun k h1 h2 => by omega))
      have U2_4 := hide ((unhide U2_3).but (p := fun k => k < b3 ∨ b4 ≤ k) hz_ (fun k hk h => k_ k hk h) (fun k h1 h2 => by omega))
      have U3_4 := hide ((unhide U3_3).but (p := fun k => k < b3 ∨ b4 ≤ k) hz_ (fun k hk h => k_ k hk h) (fun k h1 h2 => by omega))
      have U5_4 := hide ((unhide U5_3).but (p := fun k => k < b3 ∨ b4 ≤ k) hz_ (fun k hk h => k_ k hk h) (fun k h1 h2 => by omega))
      have U6_4 := hide ((unhide U6_3).but (p := fun k => k < b3 ∨ b4 ≤ k) hz_ (fun k hk h => k_ k hk h) (fun k h1 h2 => by omega))
      have U7_4 := hide ((unhide U7_3).but (p := fun k => k < b3 ∨ b4 ≤ k) hz_ (fun k hk h => k_ k hk h) (fun k h1 h2 => by omega))
      clear hz_ be_ l_ k_ hk_ HK3 HE3 U1_3 U2_3 U3_3 U4_3 U5_3 U6_3 U7_3 C4
      obtain ⟨e1, e2, e3, e4, e5, e6, e7⟩ := unhide HCE v4 ((unhide HK4).2 g hgv (by omega))
      go_wp2_with fail
      clear e1 e2 e3 e4 e5 e6 e7
      refine (unhide C5 b4 b5 _ (unhide U5_4)).mono ?_
      rintro e v5 ⟨rfl, hz_, be_, l_, k_⟩
      have hk_ := unhide HK4
      have HK5 : Hid (Kp v0 v5 b0 b7) := hide ⟨Nat.le_trans hk_.1 hz_, fun k hk h => (k_ k (Nat.lt_of_lt_of_le hk hk_.1) (by omega)).trans (hk_.2 k hk h)⟩
      have HE5 : Hid (Below (min b0 v0.heap.size) v0 v5) := hide ((unhide HE4).trans (be_.mono (by have := hk_.1; omega)))
      have U5_5 := hide l_
      have U1_5 := hide ((unhide U1_4).but (p := fun k => k < b4 ∨ b5 ≤ k) hz_ (fun k hk h => k_ k hk h) (fun k h1 h2 => by omega))
      have U2_5 := hide ((unhide U2_4).but (p := fun k => k < b4 ∨ b5 ≤ k) hz_ (fun k hk h => k_ k hk h) (fun k h1 h2 => by omega))
      have U3_5 := hide ((unhide U3_4).but (p := fun k => k < b4 ∨ b5 ≤ k) hz_ (fun k hk h => k_ k hk h) (fun k h1 h2 => by omega))
      have U4_5 := hide ((unhide U4_4).but (p := fun k => k < b4 ∨ b5 ≤ k) hz_ (fun k hk h => k_ k hk h) (fun k h1 h2 => by omega))
      have U6_5 := hide ((unhide U6_4).but (p := fun k => k < b4 ∨ b5 ≤ k) hz_ (fun k hk h => k_ k hk h) (fun k h1 h2 => by omega))
      have U7_5 := hide ((unhide U7_4).but (p := fun k => k < b4 ∨ b5 ≤ k) hz_ (fun k hk h => k_ k hk h) (fun k h1 h2 => by omega))
      clear hz_ be_ l_ k_ hk_ HK4 HE4 U1_4 U2_4 U3_4 U4_4 U5_4 U6_4 U7_4 C5
      obtain ⟨e1, e2, e3, e4, e5, e6, e7⟩ := unhide HCE v5 ((unhide HK5).2 g hgv (by omega))
      go_wp2_with fail
      clear e1 e2 e3 e4 e5 e6 e7
      refine (unhide C6 b5 b6 _ (unhide U6_5)).mono ?_
      rintro e v6 ⟨rfl, hz_, be_, l_, k_⟩
      have hk_ := unhide HK5
      have HK6 : Hid (Kp v0 v6 b0 b7) := hide ⟨Nat.le_trans hk_.1 hz_, fun k hk h => (k_ k (Nat.lt_of_lt_of_le hk hk_.1) (by omega)).trans (hk_.2 k hk h)⟩
      have HE6 : Hid (Below (min b0 v0.heap.size) v0 v6) := hide ((unhide HE5).trans (be_.mono (by have := hk_.1; omega)))
      have U6_6 := hide l_
      have U1_6 := hide ((unhide U1_5).but (p := fun k => k < b5 ∨ b6 ≤ k) hz_ (fun k hk h => k_ k hk h) (fun k h1 h2 => by omega))
      have U2_6 := hide ((unhide U2_5).but (p := fun k => k < b5 ∨ b6 ≤ k) hz_ (fun k hk h => k_ k hk h) (fun k h1 h2 => by omega))
      have U3_6 := hide ((unhide U3_5).but (p := fun k => k < b5 ∨ b6 ≤ k) hz_ (fun k hk h => k_ k hk h) (fun k h1 h2 => by omega))
      have U4_6 := hide ((unhide U4_5).but (p := fun k => k < b5 ∨ b6 ≤ k) hz_ (fun k hk h => k_ k hk h) (fun k h1 h2 => by omega))
      have U5_6 := hide ((unhide U5_5).but (p := fun k => k < b5 ∨ b6 ≤ k) hz_ (fun k hk h => k_ k hk h) (fun k h1 h2 => by omega))
      have U7_6 := hide ((unhide U7_5).but (p := fun k => k < b5 ∨ b6 ≤ k) hz_ (fun k hk h => k_ k hk h) (fun k h1 h2 => by omega))
      clear hz_ be_ l_ k_ hk_ HK5 HE5 U1_5 U2_5 U3_5 U4_5 U5_5 U6_5 U7_5 C6
      obtain ⟨e1, e2, e3, e4, e5, e6, e7⟩ := unhide HCE v6 ((unhide HK6).2 g hgv (by omega))
      go_wp2_with fail
      clear e1 e2 e3 e4 e5 e6 e7
      refine (unhide C7 b6 b7 _ (unhide U7_6)).mono ?_
      rintro e v7 ⟨rfl, hz_, be_, l_, k_⟩
      have hk_ := unhide HK6
      have HK7 : Hid (Kp v0 v7 b0 b7) := hide ⟨Nat.le_trans hk_.1 hz_, fun k hk h => (k_ k (Nat.lt_of_lt_of_le hk hk_.1) (by omega)).trans (hk_.2 k hk h)⟩
      have HE7 : Hid (Below (min b0 v0.heap.size) v0 v7) := hide ((unhide HE6).trans (be_.mono (by have := hk_.1; omega)))
      have U7_7 := hide l_
      have U1_7 := hide ((unhide U1_6).but (p := fun k => k < b6 ∨ b7 ≤ k) hz_ (fun k hk h => k_ k hk h) (fun k h1 h2 => by omega))
      have U2_7 := hide ((unhide U2_6).but (p := fun k => k < b6 ∨ b7 ≤ k) hz_ (fun k hk h => k_ k hk h) (fun k h1 h2 => by omega))
      have U3_7 := hide ((unhide U3_6).but (p := fun k => k < b6 ∨ b7 ≤ k) hz_ (fun k hk h => k_ k hk h) (fun k h1 h2 => by omega))
      have U4_7 := hide ((unhide U4_6).but (p := fun k => k < b6 ∨ b7 ≤ k) hz_ (fun k hk h => k_ k hk h) (fun k h1 h2 => by omega))
      have U5_7 := hide ((unhide U5_6).but (p := fun k => k < b6 ∨ b7 ≤ k) hz_ (fun k hk h => k_ k hk h) (fun k h1 h2 => by omega))
      have U6_7 := hide ((unhide U6_6).but (p := fun k => k < b6 ∨ b7 ≤ k) hz_ (fun k hk h => k_ k hk h) (fun k h1 h2 => by omega))
      clear hz_ be_ l_ k_ hk_ HK6 HE6 U1_6 U2_6 U3_6 U4_6 U5_6 U6_6 U7_6 C7
      have hk7 := unhide HK7
      have how : Ow v7 (f j) (f (j + 1)) { mkR m qq r0 r1 r2 r3 r4 r5 r6 r7 with x6 := m.x6 } (Q j) := by
        rw [(unhide HB07).1, (unhide HB07).2, unhide HP]
        exact ⟨b1, b2, b3, b4, b5, b6, ⟨o0, o1, o2, o3, o4, o5, o6⟩, unhide U1_7, unhide U2_7, unhide U3_7, unhide U4_7, unhide U5_7, unhide U6_7, unhide U7_7⟩
      have hb07 := unhide HB07
      have N7 := (unhide HM5).lists hjn (unhide HF) (unhide HG) hgv hk7.1 (fun k hk h => hk7.2 k hk (by rw [← hb07.1, ← hb07.2]; exact h)) how (by simp only [if_true]; unfold cl mkR mk5; simp only [Lk.marks_len, Tu.marks_len, So.marks_len, Ed.marks_len])
      have HN7 := hide (N7.ext (M' := fun i => if i = j then { mkR m qq r0 r1 r2 r3 r4 r5 r6 r7 with x6 := m.x6 } else M i) (fun i _ => by by_cases e : i = j <;> simp [e]))
      have hg7 : g < v7.heap.size := Nat.lt_of_lt_of_le hgv hk7.1
      have x12 := (unhide HN7).1 j hjn 12 (.int .i64 m.x6) (by simp only [if_true]; rfl)
      have y12 := ((unhide HN7).2.1 (j * 13 + 12) (by omega)).2
      rw [Nat.zero_add] at y12
      have N8 := (unhide HN7).put hjn (show 12 < 13 by omega) (v := .int .i64 r7) (m' := mkR m qq r0 r1 r2 r3 r4 r5 r6 r7) (by simp only [if_true]; rfl) (by simp) (unhide HG)
      have HN8 := hide (N8.ext (M' := mkA ms K (j + 1)) (fun i _ => by
        by_cases e : i = j
        · subst e; simp only [if_true]; rw [unhide HNX, unhide HMM]
        · simp only [if_neg e]; exact unhide HEL i e))
      have HB8 := hide ((((unhide HB5).trans ((unhide HE7).mono (by omega))).setCell (p := ⟨g, j * 13 + 12, none⟩) (by show min lo w.heap.size ≤ g; omega) (.int .i64 r7)))
      have HZ8 : Hid (w.heap.size ≤ (v7.setCell ⟨g, j * 13 + 12, none⟩ (.int .i64 r7)).heap.size) := hide (by have := hk7.1; simp [World.setCell]; omega)
      have HO8 : Hid (∀ k, k < w.heap.size → (k < lo ∨ hi ≤ k) → (v7.setCell ⟨g, j * 13 + 12, none⟩ (.int .i64 r7)).heap[k]? = w.heap[k]?) := hide (fun k hk h => (Below.heap_setCell _ _ _ _ (by show k ≠ g; omega)).trans ((hk7.2 k (by omega) (by omega)).trans (unhide HO5 k hk h)))
      clear N7 N8 HN7 how hk7 hb07 HK7 HE7 HM5 HB5 HZ5 HO5 HMM HNX HEL U1_7 U2_7 U3_7 U4_7 U5_7 U6_7 U7_7
      go_wp2_with fail
      go_roundw
      case rel => exact ⟨j + 1, by omega, by go_num, by have h1 := unhide HEN; have h2 := unhide HQQ; have h3 := unhide HSN; first | (congr 1; omega) | (simp; omega), HZ8, HB8, HN8, HO8⟩
      case measure => simp [intOf]; omega
    · obtain rfl : j = n := by omega
      go_wp2
      go_ret
      exact ⟨rfl, unhide hsz, unhide hbl, (unhide hmk).ext (fun i hi => by unfold mkA; rw [if_pos hi]; try simp), unhide hot⟩
set_option maxHeartbeats 32000000 in
theorem heldNS (g n c : Nat) (f : Nat → Nat) (K : Int) (ms : List Rm) (Q : Nat → Pl) (w : World) (hn : ms.length = n) (hn8 : n ≤ 1048576) (hK : 0 ≤ K) (hK1 : K + sumK ms n ≤ 900000000) (hs : ∀ i, i < ms.length → Sm (ms.getD i Rm.zero)) (h : MkS w g n f (fun i => mkM (ms.getD i Rm.zero) (K + sumK ms i)) Q) :
    Calls Try.prog 26 #[.slice (some ⟨g, 0, none⟩) n c, .int .i64 K] w fun e w' => e = .returned (.int .i64 (K + sumK ms n)) ∧ w' = w := by
  have HM0 := hide h
  have HSM := hide hs
  have HN := hide hn
  clear h hs hn
  go_enter Try.func26, Try.ntmps26
  go_wp2
  go_loopw [1, 5] (fun q i wr => wr = w ∧ ∃ j : Nat, j ≤ n ∧ i = .int .i64 j ∧ q = .int .i64 (K + sumK ms j)) (fun _ i _ => n - (intOf i).toNat)
  case atStart => exact ⟨rfl, 0, by omega, rfl, by simp [sumK]⟩
  case round =>
    obtain ⟨hwr, j, hj, rfl, rfl⟩ := hrel
    by_cases hlt : (j : Int) < (n : Int)
    · have k0 : (0 : Int) ≤ (j : Int) := by omega
      have hjn : j < n := by omega
      have hjl : j < ms.length := by rw [unhide HN]; exact hjn
      have HSJ := hide (unhide HSM j hjl)
      have hq0 : 0 ≤ K + sumK ms j := by have := sumK_pos ms j; omega
      have hq1 : K + sumK ms j ≤ 900000000 := by
        have := sumK_le ms j (n - j)
        rw [show j + (n - j) = n by omega] at this; omega
      have HSN : Hid (sumK ms (j + 1) = sumK ms j + mkK (ms.getD j Rm.zero)) := hide rfl
      have hrow := (unhide HM0).1 j hjn
      have how := (unhide HM0).2.2 j hjn
      dsimp only at hrow how
      obtain ⟨qq, hqq⟩ : ∃ q, K + sumK ms j = q := ⟨_, rfl⟩
      have HQQ := hide hqq
      rw [hqq] at hq0 hq1 hrow how ⊢
      generalize hP : Q j = p at *
      generalize hm : ms.getD j Rm.zero = m at *
      clear hqq hjl hP hm
      obtain ⟨r0, hr0⟩ : ∃ r, qq + 1 + 1 + 1 + 1 + 1 = r := ⟨_, rfl⟩
      obtain ⟨r1, hr1⟩ : ∃ r, r0 + 6 * (m.ls.length : Int) = r := ⟨_, rfl⟩
      obtain ⟨r2, hr2⟩ : ∃ r, r1 + 3 * (m.tw.length : Int) = r := ⟨_, rfl⟩
      obtain ⟨r3, hr3⟩ : ∃ r, r2 + 3 * (m.se.length : Int) = r := ⟨_, rfl⟩
      obtain ⟨r4, hr4⟩ : ∃ r, r3 + 3 * (m.du.length : Int) = r := ⟨_, rfl⟩
      obtain ⟨r5, hr5⟩ : ∃ r, r4 + 3 * (m.ss.length : Int) = r := ⟨_, rfl⟩
      obtain ⟨r6, hr6⟩ : ∃ r, r5 + 3 * (m.es.length : Int) = r := ⟨_, rfl⟩
      obtain ⟨r7, hr7⟩ : ∃ r, r6 + 2 * (m.la.length : Int) = r := ⟨_, rfl⟩
      have hmm : mkM m qq = mkR m qq r0 r1 r2 r3 r4 r5 r6 r7 := by unfold mkM; subst hr7; subst hr6; subst hr5; subst hr4; subst hr3; subst hr2; subst hr1; subst hr0; rfl
      have HEN : Hid (r7 + 1 = qq + mkK m) := hide (by have := rA_end m qq; subst hr7; subst hr6; subst hr5; subst hr4; subst hr3; subst hr2; subst hr1; subst hr0; exact this)
      rw [hmm] at hrow how
      unfold cl mkR at hrow
      simp only [Lk.marks_len, Tu.marks_len, So.marks_len, Ed.marks_len] at hrow
      unfold Ow RL mkR at how
      obtain ⟨b1, b2, b3, b4, b5, b6, _, u1, u2, u3, u4, u5, u6, u7⟩ := how
      dsimp only at u1 u2 u3 u4 u5 u6 u7
      obtain ⟨s1, s2, s3, s4, s5, s6, s7⟩ := unhide HSJ
      have C1 := hide (Lk.heldF p.a1 p.c1 m.ls.length _ _ r0 w (by omega) (by omega) (by omega) u1)
      rw [hr1] at C1
      have C2 := hide (Tu.heldF p.a2 p.c2 m.tw.length _ _ r1 w (by omega) (by omega) (by omega) u2)
      rw [hr2] at C2
      have C3 := hide (Tu.heldF p.a3 p.c3 m.se.length _ _ r2 w (by omega) (by omega) (by omega) u3)
      rw [hr3] at C3
      have C4 := hide (Tu.heldF p.a4 p.c4 m.du.length _ _ r3 w (by omega) (by omega) (by omega) u4)
      rw [hr4] at C4
      have C5 := hide (So.heldF p.a5 p.c5 m.ss.length _ _ r4 w (by omega) (by omega) (by omega) u5)
      rw [hr5] at C5
      have C6 := hide (Tu.heldF p.a6 p.c6 m.es.length _ _ r5 w (by omega) (by omega) (by omega) u6)
      rw [hr6] at C6
      have C7 := hide (Ed.heldF p.a7 p.c7 m.la.length _ _ r6 w (by omega) (by omega) (by omega) u7)
      rw [hr7] at C7
      have hn1 : ¬ r1 < 0 ∧ ¬ r2 < 0 ∧ ¬ r3 < 0 ∧ ¬ r4 < 0 ∧ ¬ r5 < 0 ∧ ¬ r6 < 0 ∧ ¬ r7 < 0 := by omega
      obtain ⟨hn1_, hn2_, hn3_, hn4_, hn5_, hn6_, hn7_⟩ := hn1
      have hr70 : 0 ≤ r7 := by omega
      have hr71 : r7 ≤ 990000000 := by omega
      have HR0 := hide hr0
      clear hmm hr0 hr1 hr2 hr3 hr4 hr5 hr6 hr7 s1 s2 s3 s4 s5 s6 s7 u1 u2 u3 u4 u5 u6 u7 HSJ
      have x0 := hrow 0 _ rfl
      rw [Nat.add_zero] at x0
      obtain ⟨x1, x2, x3, x4, x5, x6, x7, x8, x9, x10, x11, x12⟩ := (⟨hrow 1 _ rfl, hrow 2 _ rfl, hrow 3 _ rfl, hrow 4 _ rfl, hrow 5 _ rfl, hrow 6 _ rfl, hrow 7 _ rfl, hrow 8 _ rfl, hrow 9 _ rfl, hrow 10 _ rfl, hrow 11 _ rfl, hrow 12 _ rfl⟩ : _ ∧ _ ∧ _ ∧ _ ∧ _ ∧ _ ∧ _ ∧ _ ∧ _ ∧ _ ∧ _ ∧ _)
      clear hrow
      subst hwr
      have n0 : (qq != qq) = false := by simp
      have n1 : (qq + 1 != qq + 1) = false := by simp
      have n2 : (qq + 1 + 1 != qq + 1 + 1) = false := by simp
      have n3 : (qq + 1 + 1 + 1 != qq + 1 + 1 + 1) = false := by simp
      have n4 : (qq + 1 + 1 + 1 + 1 != qq + 1 + 1 + 1 + 1) = false := by simp
      have n5 : (r7 != r7) = false := by simp
      go_wp2_with fail
      rw [unhide HR0]
      refine (unhide C1).mono ?_
      rintro e v_ ⟨rfl, hv_⟩
      rw [hv_]
      clear hv_
      go_wp2_with fail
      refine (unhide C2).mono ?_
      rintro e v_ ⟨rfl, hv_⟩
      rw [hv_]
      clear hv_
      go_wp2_with fail
      refine (unhide C3).mono ?_
      rintro e v_ ⟨rfl, hv_⟩
      rw [hv_]
      clear hv_
      go_wp2_with fail
      refine (unhide C4).mono ?_
      rintro e v_ ⟨rfl, hv_⟩
      rw [hv_]
      clear hv_
      go_wp2_with fail
      refine (unhide C5).mono ?_
      rintro e v_ ⟨rfl, hv_⟩
      rw [hv_]
      clear hv_
      go_wp2_with fail
      refine (unhide C6).mono ?_
      rintro e v_ ⟨rfl, hv_⟩
      rw [hv_]
      clear hv_
      go_wp2_with fail
      refine (unhide C7).mono ?_
      rintro e v_ ⟨rfl, hv_⟩
      rw [hv_]
      clear hv_
      go_wp2_with fail
      go_roundw
      case rel => exact ⟨by first | trivial | rfl, j + 1, by omega, by go_num, by have h1 := unhide HEN; have h2 := unhide HQQ; have h3 := unhide HSN; first | (congr 1; omega) | (simp; omega)⟩
      case measure => simp [intOf]; omega
    · obtain rfl : j = n := by omega
      subst hwr
      go_wp2
      go_ret
      exact ⟨by first | trivial | rfl, rfl⟩
end Nt
end Go.Proofs.Ytpmlpojefelbbaa
namespace Go.Proofs.Ytpmlpojefelbbaa
open Go.ChangeShapes Go.WideShapes Go.ChangeAt Go.RowKit
set_option linter.unusedVariables false
attribute [local go_sem ↓] Go.wp_at_zero Go.wp_at_succ
attribute [local go_sem] Go.strOfNums_size ByteArray.size_append
namespace Di
open W1
/-- A number's digits, as a text. -/
def dig (k : Nat) : ByteArray := ⟨(Lib.decDigits k).toArray⟩
theorem dig_one {k : Nat} (h : k < 10) : strOfNums [48 + (k : Int)] = dig k := by
  unfold dig strOfNums; rw [Lib.decDigits_one h]
  have e : (48 + (k : Int)).toNat = 48 + k := by omega
  simp [e]
theorem dig_more {k : Nat} (h : ¬ k < 10) : dig (k / 10) ++ strOfNums [48 + (k : Int) % 10] = dig k := by
  unfold dig strOfNums
  rw [Lib.decDigits.eq_def k, dif_neg h]
  apply ByteArray.ext
  have e : (48 + (k : Int) % 10).toNat = 48 + k % 10 := by omega
  simp [ByteArray.data_append, e]
theorem dig_size8 (k : Nat) (h : k ≤ 99999999) : (dig k).size ≤ 8 := by
  have e : (dig k).size = Lib.nDigits k := by
    show (Lib.decDigits k).toArray.size = _
    simp [Lib.decDigits_length]
  rw [e]
  have h1 : ∀ u, u < 10 → Lib.nDigits u ≤ 1 := fun u hu => by rw [Lib.nDigits_small hu]; omega
  have up : ∀ n N, (∀ u, u < N → Lib.nDigits u ≤ n) → 0 < n → ∀ u, u < N * 10 → Lib.nDigits u ≤ n + 1 := fun n N hn h0 u hu => by
    by_cases c : u < 10
    · have := h1 u c; omega
    · rw [Lib.nDigits_big c]; have := hn (u / 10) (by omega); omega
  exact up 7 _ (up 6 _ (up 5 _ (up 4 _ (up 3 _ (up 2 _ (up 1 _ h1 (by omega)) (by omega)) (by omega)) (by omega)) (by omega)) (by omega)) (by omega) k (by omega)
theorem wrapS {x : Int} (h0 : 0 ≤ x) (h1 : x ≤ 1099511627776) : IntKind.i64.wrap x = x := by
  have e := IntWalk.i64_left x
  rw [e]; unfold wrap64; omega
theorem conv1 (W : World) (g : Nat) (n : Int) (h : W.cell? ⟨g, 0, none⟩ = some (.int .u8 n)) :
    (convert 80 9 (.slice (some ⟨g, 0, none⟩) 1 1)).run Try.prog W = .ok (.string (strOfNums [n])) W :=
  run_convert_bytes_arg (P := Try.prog) W 80 5 Try.underlying80 Try.underlying5 g 0 1 1 [n] rfl (fun | 0, _ => h) 9 Try.underlying9

end Di
end Go.Proofs.Ytpmlpojefelbbaa
