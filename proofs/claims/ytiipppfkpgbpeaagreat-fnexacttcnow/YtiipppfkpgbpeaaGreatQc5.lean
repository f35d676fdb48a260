/-
  Of the texts RtrU, RtrN, Nums, Tim, AdvM, AdvC, Bytes, Dec, Num, U8, AdvN, AdvE, AdvV: what this claim needs of them. (put together by mkprune.py)
-/
import Derived.Test.YtiipppfkpgbpeaaGreatQc4
import Derived.Laws.OwnMore
import Derived.Deep.DeepHandedRow
import Derived.Test.YtiipppfkpgbpeaaGreatShelf
import Derived.Lib.ItoaNum
import Derived.Laws.BitsAllLaws
import Derived.Laws.Shifts
import Derived.Deep.QuietTactic
import Derived.BigQuiet
import Derived.Deep.RegionHeld3
import Derived.Deep.DrawnRows
import Derived.Laws.BytesArg
import Derived.Deep.AppendLies
import Derived.Laws.MakeOwn
import Derived.OneCell
namespace Go.Proofs.YtiipppfkpgbpeaaGreat
open Go.ChangeShapes Go.WideShapes Go.ChangeAt Go.RowKit
set_option linter.unusedVariables false
set_option linter.unusedSimpArgs false
set_option maxRecDepth 100000
attribute [local go_sem ↓] Go.wp_at_zero Go.wp_at_succ
namespace Rt
open W1
theorem run_append_owned_zero {P : Program} {w : World} (base : Nat) (t ty e : TypeId) (i : TypeInfo) (size : Nat) (ht : P.underlying t = some (.slice e)) (hi : P.info? e = some i)
    (v : Value) (n : Nat) (xs : List Value) (hown : w.ownsRow base e size v n xs) (a : Option Addr) (c : Nat) :
    (Builtin.append_ #[t, t] ty #[v, .slice a 0 c]).run P w = .ok v w := by
  have h0 : ∀ (x : Addr), (loadCells x 0).run P w = .ok #[] w := fun x => run_loadCells_list (P := P) w x [] (fun j v hv => by simp at hv)
  rcases hown.2 with ⟨rfl, rfl⟩ | ⟨g, cap, cur, rfl, _, _, hnc, _⟩
  · cases a <;> simp [Builtin.append_, run_underlying ht, sizeOf, typeInfo, hi, Builtin.lenOf, Builtin.firstCells, h0, Result.andThen]
  · cases a <;> simp [Builtin.append_, run_underlying ht, sizeOf, typeInfo, hi, Builtin.lenOf, Builtin.firstCells, hnc, storeCells, h0, Result.andThen]
/-- append of nothing, wherever it lies. -/
theorem wpList_append_own_zero {P : Program} {w : World} {ops : Array Oper} {rest : List Oper} {o : Oper} {a : Act} {Q : Exit → Act → World → Prop} (hgd : o.guard = none) (s x : Operand) (t : TypeId)
    (ho : o.op = .call { callee := .builtin .append, args := #[s, x], argTypes := #[t, t] })
    (base : Nat) (e : TypeId) (i : TypeInfo) (size : Nat) (ht : P.underlying t = some (.slice e)) (hi : P.info? e = some i)
    (v : Value) (n : Nat) (xs : List Value) (hs : a.eval s = v) (hown : w.ownsRow base e size v n xs) (b : Option Addr) (c : Nat) (hx : a.eval x = .slice b 0 c)
    (h : wpList P ops Q rest (a.put o.dst v) w) : wpList P ops Q (o :: rest) a w := by
  refine wpList_plain hgd fun K hK => ?_
  have hrun := run_append_owned_zero (P := P) (w := w) base t o.type e i size ht hi v n xs hown b c
  unfold Oper.wp
  simp [execOp, ho, resolve, invoke, builtin, hs, hx, hrun, Result.andThen]
  exact hK _ _ h
theorem gb_refl (w : World) (r : Option Nat) : w.grownBy w r := ⟨rfl, rfl, rfl, Nat.le_refl _, fun _ _ _ => rfl⟩
/-- append of a list of edges that lies anywhere. -/
theorem apOE {ops : Array Oper} {rest : List Oper} {o : Oper} {a : Act} {Q : Exit → Act → World → Prop} {w : World} {base : Nat} {v : Value} {xs : List Ed.R} (hown : w.ownsRow base 141 2 v xs.length (Ed.flat xs)) (a0 : Option Addr) (c : Nat) (ms : List Ed.R) (hr : Ed.RM w a0 ms) (hlen : xs.length + ms.length ≤ 4194304) (hbase : base ≤ w.heap.size)
    (hgd : o.guard = none) (s x : Operand) (ho : o.op = .call { callee := .builtin .append, args := #[s, x], argTypes := #[36, 36] }) (hs : a.eval s = v) (hx : a.eval x = .slice a0 ms.length c)
    (h : ∀ v' w', w'.ownsRow base 141 2 v' (xs ++ ms).length (Ed.flat (xs ++ ms)) → w.grownBy w' v.ownBlock → wpList Tryz.prog ops Q rest (a.put o.dst v') w') : wpList Tryz.prog ops Q (o :: rest) a w := by
  by_cases h0 : 0 < ms.length
  · obtain ⟨g, off, rfl⟩ := hr.form h0
    exact Ed.wpList_apS hown g off ms.length c ms rfl hr hlen hbase hgd s x ho hs hx h
  · have hms : ms = [] := List.length_eq_zero_iff.1 (by omega)
    subst hms
    obtain ⟨i0, hi, _⟩ := Ed.infoR
    exact wpList_append_own_zero hgd s x _ ho base 141 i0 2 Tryz.underlying36 hi v _ _ hs hown a0 c hx (h v w (by rw [List.append_nil]; exact hown) (gb_refl _ _))
theorem l06OwnO (a : Option Addr) (ms : List Lk.R) (cap : Nat) (w : World) (hm : ms.length ≤ 4096) (hr : Lk.RM w a ms) :
    Calls Tryz.prog 89 #[.slice a ms.length cap] w fun e w' => ∃ v, e = .returned v ∧ Below w.heap.size w w' ∧ Lk.LstV w' v ms w.heap.size w'.heap.size := by
  by_cases h0 : 0 < ms.length
  · obtain ⟨g, off, rfl⟩ := hr.form h0
    exact Ln.l06Own g off ms cap _ w rfl hm hr
  · have hms : ms = [] := List.length_eq_zero_iff.1 (by omega)
    subst hms
    clear h0 hr hm
    have O0 := hide (Lk.own_empty w w.heap.size (Nat.le_refl _))
    obtain ⟨i0, hi, _⟩ := Lk.infoR
    go_enter Tryz.func89, Tryz.ntmps89
    go_wp2_with (at_builtin; refine wpList_append_own_zero rfl _ _ _ rfl w.heap.size 118 i0 6 Tryz.underlying31 hi _ _ _ rfl (unhide O0) _ _ rfl ?_)
    go_ret
    exact ⟨_, rfl, (Below.refl _ _).alloc (Nat.le_refl _) _, Lk.lstV_nil _ _ _ _ _⟩
theorem l03OwnO (a : Option Addr) (ms : List Tu.R) (cap : Nat) (w : World) (hm : ms.length ≤ 4096) (hr : Tu.RM w a ms) :
    Calls Tryz.prog 90 #[.slice a ms.length cap] w fun e w' => ∃ v, e = .returned v ∧ Below w.heap.size w w' ∧ Tu.LstV w' v ms w.heap.size w'.heap.size := by
  by_cases h0 : 0 < ms.length
  · obtain ⟨g, off, rfl⟩ := hr.form h0
    exact St.l03Own g off ms cap _ w rfl hm hr
  · have hms : ms = [] := List.length_eq_zero_iff.1 (by omega)
    subst hms
    clear h0 hr hm
    have O0 := hide (Tu.own_empty w w.heap.size (Nat.le_refl _))
    obtain ⟨i0, hi, _⟩ := Tu.infoR
    go_enter Tryz.func90, Tryz.ntmps90
    go_wp2_with (at_builtin; refine wpList_append_own_zero rfl _ _ _ rfl w.heap.size 126 i0 3 Tryz.underlying32 hi _ _ _ rfl (unhide O0) _ _ rfl ?_)
    go_ret
    exact ⟨_, rfl, (Below.refl _ _).alloc (Nat.le_refl _) _, Tu.lstV_nil _ _ _ _ _⟩
set_option maxHeartbeats 16000000 in
theorem l12Own (x1 x2 x3 x4 x5 x6 : Int) (a1 a2 a3 a4 a7 : Option Addr) (h5 g5 h6 g6 : Nat) (c1 c2 c3 c4 c5 c6 c7 : Nat) (ls : List Lk.R) (tw : List Tu.R) (se : List Tu.R) (du : List Tu.R) (ss : List So.R) (es : List Tu.R) (la : List Ed.R) (w : World) (hm1 : ls.length ≤ 4096) (hm2 : tw.length ≤ 4096) (hm3 : se.length ≤ 4096) (hm4 : du.length ≤ 4096) (hm5 : ss.length ≤ 4096) (hm6 : es.length ≤ 4096) (hm7 : la.length ≤ 4096) (hr1 : Lk.RM w a1 ls) (hr2 : Tu.RM w a2 tw) (hr3 : Tu.RM w a3 se) (hr4 : Tu.RM w a4 du) (hr5 : So.RM w (some ⟨h5, g5, none⟩) ss) (hr6 : Tu.RM w (some ⟨h6, g6, none⟩) es) (hr7 : Ed.RM w a7 la) :
    Calls Tryz.prog 36 #[.agg #[.int .i64 x1, .int .i64 x2, .int .i64 x3, .int .i64 x4, .int .i64 x5, .slice a1 ls.length c1, .slice a2 tw.length c2, .slice a3 se.length c3, .slice a4 du.length c4, .slice (some ⟨h5, g5, none⟩) ss.length c5, .slice (some ⟨h6, g6, none⟩) es.length c6, .slice a7 la.length c7, .int .i64 x6]] w fun e w' => ∃ b1 b2 b3 b4 b5 b6 b7 d1 d2 d3 d4 d5 d6 d7, e = .returned (.agg (rC x1 x2 x3 x4 x5 (.slice b1 ls.length d1) (.slice b2 tw.length d2) (.slice b3 se.length d3) (.slice b4 du.length d4) (.slice b5 ss.length d5) (.slice b6 es.length d6) (.slice b7 la.length d7) x6).toArray) ∧ Below w.heap.size w w' ∧ RL w' w.heap.size w'.heap.size b1 b2 b3 b4 b5 b6 b7 ls tw se du ss es la := by
  have HA1 : Hid (Below w.heap.size w (w.alloc (.cells #[.int .i64 x1, .int .i64 x2, .int .i64 x3, .int .i64 x4, .int .i64 x5, .slice a1 ls.length c1, .slice a2 tw.length c2, .slice a3 se.length c3, .slice a4 du.length c4, .slice (some ⟨h5, g5, none⟩) ss.length c5, .slice (some ⟨h6, g6, none⟩) es.length c6, .slice a7 la.length c7, .int .i64 x6] 38))) := hide ((Below.refl _ _).alloc (Nat.le_refl _) _)
  have HB0 : Hid (Below w.heap.size w ((w.alloc (.cells #[.int .i64 x1, .int .i64 x2, .int .i64 x3, .int .i64 x4, .int .i64 x5, .slice a1 ls.length c1, .slice a2 tw.length c2, .slice a3 se.length c3, .slice a4 du.length c4, .slice (some ⟨h5, g5, none⟩) ss.length c5, .slice (some ⟨h6, g6, none⟩) es.length c6, .slice a7 la.length c7, .int .i64 x6] 38)).alloc (.cells #[.int .i64 0, .int .i64 0, .int .i64 0, .int .i64 0, .int .i64 0, .slice none 0 0, .slice none 0 0, .slice none 0 0, .slice none 0 0, .slice none 0 0, .slice none 0 0, .slice none 0 0, .int .i64 0] 38))) := hide ((unhide HA1).alloc (unhide HA1).size _)
  have HX0 : Hid (RA ((w.alloc (.cells #[.int .i64 x1, .int .i64 x2, .int .i64 x3, .int .i64 x4, .int .i64 x5, .slice a1 ls.length c1, .slice a2 tw.length c2, .slice a3 se.length c3, .slice a4 du.length c4, .slice (some ⟨h5, g5, none⟩) ss.length c5, .slice (some ⟨h6, g6, none⟩) es.length c6, .slice a7 la.length c7, .int .i64 x6] 38)).alloc (.cells #[.int .i64 0, .int .i64 0, .int .i64 0, .int .i64 0, .int .i64 0, .slice none 0 0, .slice none 0 0, .slice none 0 0, .slice none 0 0, .slice none 0 0, .slice none 0 0, .slice none 0 0, .int .i64 0] 38)) w.heap.size (rC x1 x2 x3 x4 x5 (.slice a1 ls.length c1) (.slice a2 tw.length c2) (.slice a3 se.length c3) (.slice a4 du.length c4) (.slice (some ⟨h5, g5, none⟩) ss.length c5) (.slice (some ⟨h6, g6, none⟩) es.length c6) (.slice a7 la.length c7) x6)) := hide ((ra_new w _ rfl _).below ((Below.refl _ _).alloc (Nat.le_refl _) _))
  have HZ0 : Hid (RA ((w.alloc (.cells #[.int .i64 x1, .int .i64 x2, .int .i64 x3, .int .i64 x4, .int .i64 x5, .slice a1 ls.length c1, .slice a2 tw.length c2, .slice a3 se.length c3, .slice a4 du.length c4, .slice (some ⟨h5, g5, none⟩) ss.length c5, .slice (some ⟨h6, g6, none⟩) es.length c6, .slice a7 la.length c7, .int .i64 x6] 38)).alloc (.cells #[.int .i64 0, .int .i64 0, .int .i64 0, .int .i64 0, .int .i64 0, .slice none 0 0, .slice none 0 0, .slice none 0 0, .slice none 0 0, .slice none 0 0, .slice none 0 0, .slice none 0 0, .int .i64 0] 38)) (w.heap.size + 1) (rC 0 0 0 0 0 (.slice none 0 0) (.slice none 0 0) (.slice none 0 0) (.slice none 0 0) (.slice none 0 0) (.slice none 0 0) (.slice none 0 0) 0)) := hide (by have := ra_new (w.alloc (.cells #[.int .i64 x1, .int .i64 x2, .int .i64 x3, .int .i64 x4, .int .i64 x5, .slice a1 ls.length c1, .slice a2 tw.length c2, .slice a3 se.length c3, .slice a4 du.length c4, .slice (some ⟨h5, g5, none⟩) ss.length c5, .slice (some ⟨h6, g6, none⟩) es.length c6, .slice a7 la.length c7, .int .i64 x6] 38)) (rC 0 0 0 0 0 (.slice none 0 0) (.slice none 0 0) (.slice none 0 0) (.slice none 0 0) (.slice none 0 0) (.slice none 0 0) (.slice none 0 0) 0) rfl 38; rw [show (w.alloc (.cells #[.int .i64 x1, .int .i64 x2, .int .i64 x3, .int .i64 x4, .int .i64 x5, .slice a1 ls.length c1, .slice a2 tw.length c2, .slice a3 se.length c3, .slice a4 du.length c4, .slice (some ⟨h5, g5, none⟩) ss.length c5, .slice (some ⟨h6, g6, none⟩) es.length c6, .slice a7 la.length c7, .int .i64 x6] 38)).heap.size = w.heap.size + 1 by simp] at this; exact this)
  have hq0 : (((w.alloc (.cells #[.int .i64 x1, .int .i64 x2, .int .i64 x3, .int .i64 x4, .int .i64 x5, .slice a1 ls.length c1, .slice a2 tw.length c2, .slice a3 se.length c3, .slice a4 du.length c4, .slice (some ⟨h5, g5, none⟩) ss.length c5, .slice (some ⟨h6, g6, none⟩) es.length c6, .slice a7 la.length c7, .int .i64 x6] 38)).alloc (.cells #[.int .i64 0, .int .i64 0, .int .i64 0, .int .i64 0, .int .i64 0, .slice none 0 0, .slice none 0 0, .slice none 0 0, .slice none 0 0, .slice none 0 0, .slice none 0 0, .slice none 0 0, .int .i64 0] 38))).heap.size = w.heap.size + 2 := by simp
  have HR1 := hide hr1
  have HR2 := hide hr2
  have HR3 := hide hr3
  have HR4 := hide hr4
  have HR5 := hide hr5
  have HR6 := hide hr6
  have HR7 := hide hr7
  clear hr1 hr2 hr3 hr4 hr5 hr6 hr7 HA1
  have z5 := (unhide HX0).at (i := 5) rfl
  go_enter Tryz.func36, Tryz.ntmps36
  go_wp2_with fail
  clear z5
  generalize hW : ((w.alloc (.cells #[.int .i64 x1, .int .i64 x2, .int .i64 x3, .int .i64 x4, .int .i64 x5, .slice a1 ls.length c1, .slice a2 tw.length c2, .slice a3 se.length c3, .slice a4 du.length c4, .slice (some ⟨h5, g5, none⟩) ss.length c5, .slice (some ⟨h6, g6, none⟩) es.length c6, .slice a7 la.length c7, .int .i64 x6] 38)).alloc (.cells #[.int .i64 0, .int .i64 0, .int .i64 0, .int .i64 0, .int .i64 0, .slice none 0 0, .slice none 0 0, .slice none 0 0, .slice none 0 0, .slice none 0 0, .slice none 0 0, .slice none 0 0, .int .i64 0] 38)) = V0 at *
  clear hW
  refine (l06OwnO a1 ls c1 _ hm1 ((unhide HR1).below (unhide HB0))).mono ?_
  rintro e V1 ⟨v1, rfl, b_, l_⟩
  obtain ⟨b1, d1, rfl, L_⟩ := l_
  have HB1 := hide ((unhide HB0).trans (b_.mono (unhide HB0).size))
  have HX1 := hide ((unhide HX0).below b_)
  have HZ1 := hide ((unhide HZ0).below b_)
  have hq1 := b_.size
  clear HX0 HZ0 
  have U1_1 := hide L_
  clear L_ b_
  obtain ⟨V2, hV2⟩ : ∃ V, (V1.setCell ⟨w.heap.size, 5, none⟩ (.slice b1 ls.length d1)) = V := ⟨_, rfl⟩
  have HB2 : Hid (Below w.heap.size w V2) := hide (by rw [← hV2]; exact ((unhide HB1).setCell (p := ⟨w.heap.size, 5, none⟩) (Nat.le_refl _) (.slice b1 ls.length d1)))
  have HX2 : Hid (RA V2 w.heap.size (rC x1 x2 x3 x4 x5 (.slice b1 ls.length d1) (.slice a2 tw.length c2) (.slice a3 se.length c3) (.slice a4 du.length c4) (.slice (some ⟨h5, g5, none⟩) ss.length c5) (.slice (some ⟨h6, g6, none⟩) es.length c6) (.slice a7 la.length c7) x6)) := hide (by rw [← hV2]; exact (RA.set (unhide HX1) (k := 5) (by omega) (.slice b1 ls.length d1)))
  have HZ2 : Hid (RA V2 (w.heap.size + 1) (rC 0 0 0 0 0 (.slice none 0 0) (.slice none 0 0) (.slice none 0 0) (.slice none 0 0) (.slice none 0 0) (.slice none 0 0) (.slice none 0 0) 0)) := hide (by rw [← hV2]; exact (RA.other (unhide HZ1) (p := ⟨w.heap.size, 5, none⟩) (by show w.heap.size + 1 ≠ w.heap.size; omega) (.slice b1 ls.length d1)))
  have hq2 : V2.heap.size = V1.heap.size := by rw [← hV2]; simp [World.setCell]
  have hk2 : ∀ k, k < V1.heap.size → k ≠ w.heap.size → V2.heap[k]? = V1.heap[k]? := fun k _ h => by rw [← hV2]; exact (Below.heap_setCell _ _ _ _ h)
  have U1_2 := hide ((unhide U1_1).but (p := fun k => k ≠ w.heap.size) (by omega) hk2 (fun k h1 h2 => by omega))
  have HV2 := hide hV2
  clear hV2 hk2
  have o5 := (unhide HX1).at (i := 5) rfl
  have f5 := (unhide HX1).free (i := 5) (by omega)
  have z6 := (unhide HX1).at (i := 6) rfl
  go_wp2_with fail
  rw [unhide HV2]
  clear o5 f5 z6 HX1 HZ1 U1_1
  refine (l03OwnO a2 tw c2 _ hm2 ((unhide HR2).below (unhide HB2))).mono ?_
  rintro e V3 ⟨v3, rfl, b_, l_⟩
  obtain ⟨b2, d2, rfl, L_⟩ := l_
  have HB3 := hide ((unhide HB2).trans (b_.mono (unhide HB2).size))
  have HX3 := hide ((unhide HX2).below b_)
  have HZ3 := hide ((unhide HZ2).below b_)
  have U1_3 := hide ((unhide U1_2).below b_)
  have hq3 := b_.size
  clear HX2 HZ2 U1_2
  have U2_3 := hide L_
  clear L_ b_
  obtain ⟨V4, hV4⟩ : ∃ V, (V3.setCell ⟨w.heap.size, 6, none⟩ (.slice b2 tw.length d2)) = V := ⟨_, rfl⟩
  have HB4 : Hid (Below w.heap.size w V4) := hide (by rw [← hV4]; exact ((unhide HB3).setCell (p := ⟨w.heap.size, 6, none⟩) (Nat.le_refl _) (.slice b2 tw.length d2)))
  have HX4 : Hid (RA V4 w.heap.size (rC x1 x2 x3 x4 x5 (.slice b1 ls.length d1) (.slice b2 tw.length d2) (.slice a3 se.length c3) (.slice a4 du.length c4) (.slice (some ⟨h5, g5, none⟩) ss.length c5) (.slice (some ⟨h6, g6, none⟩) es.length c6) (.slice a7 la.length c7) x6)) := hide (by rw [← hV4]; exact (RA.set (unhide HX3) (k := 6) (by omega) (.slice b2 tw.length d2)))
  have HZ4 : Hid (RA V4 (w.heap.size + 1) (rC 0 0 0 0 0 (.slice none 0 0) (.slice none 0 0) (.slice none 0 0) (.slice none 0 0) (.slice none 0 0) (.slice none 0 0) (.slice none 0 0) 0)) := hide (by rw [← hV4]; exact (RA.other (unhide HZ3) (p := ⟨w.heap.size, 6, none⟩) (by show w.heap.size + 1 ≠ w.heap.size; omega) (.slice b2 tw.length d2)))
  have hq4 : V4.heap.size = V3.heap.size := by rw [← hV4]; simp [World.setCell]
  have hk4 : ∀ k, k < V3.heap.size → k ≠ w.heap.size → V4.heap[k]? = V3.heap[k]? := fun k _ h => by rw [← hV4]; exact (Below.heap_setCell _ _ _ _ h)
  have U1_4 := hide ((unhide U1_3).but (p := fun k => k ≠ w.heap.size) (by omega) hk4 (fun k h1 h2 => by omega))
  have U2_4 := hide ((unhide U2_3).but (p := fun k => k ≠ w.heap.size) (by omega) hk4 (fun k h1 h2 => by omega))
  have HV4 := hide hV4
  clear hV4 hk4
  have o6 := (unhide HX3).at (i := 6) rfl
  have f6 := (unhide HX3).free (i := 6) (by omega)
  have z7 := (unhide HX3).at (i := 7) rfl
  go_wp2_with fail
  rw [unhide HV4]
  clear o6 f6 z7 HX3 HZ3 U1_3 U2_3
  refine (l03OwnO a3 se c3 _ hm3 ((unhide HR3).below (unhide HB4))).mono ?_
  rintro e V5 ⟨v5, rfl, b_, l_⟩
  obtain ⟨b3, d3, rfl, L_⟩ := l_
  have HB5 := hide ((unhide HB4).trans (b_.mono (unhide HB4).size))
  have HX5 := hide ((unhide HX4).below b_)
  have HZ5 := hide ((unhide HZ4).below b_)
  have U1_5 := hide ((unhide U1_4).below b_)
  have U2_5 := hide ((unhide U2_4).below b_)
  have hq5 := b_.size
  clear HX4 HZ4 U1_4 U2_4
  have U3_5 := hide L_
  clear L_ b_
  obtain ⟨V6, hV6⟩ : ∃ V, (V5.setCell ⟨w.heap.size, 7, none⟩ (.slice b3 se.length d3)) = V := ⟨_, rfl⟩
  have HB6 : Hid (Below w.heap.size w V6) := hide (by rw [← hV6]; exact ((unhide HB5).setCell (p := ⟨w.heap.size, 7, none⟩) (Nat.le_refl _) (.slice b3 se.length d3)))
  have HX6 : Hid (RA V6 w.heap.size (rC x1 x2 x3 x4 x5 (.slice b1 ls.length d1) (.slice b2 tw.length d2) (.slice b3 se.length d3) (.slice a4 du.length c4) (.slice (some ⟨h5, g5, none⟩) ss.length c5) (.slice (some ⟨h6, g6, none⟩) es.length c6) (.slice a7 la.length c7) x6)) := hide (by rw [← hV6]; exact (RA.set (unhide HX5) (k := 7) (by omega) (.slice b3 se.length d3)))
  have HZ6 : Hid (RA V6 (w.heap.size + 1) (rC 0 0 0 0 0 (.slice none 0 0) (.slice none 0 0) (.slice none 0 0) (.slice none 0 0) (.slice none 0 0) (.slice none 0 0) (.slice none 0 0) 0)) := hide (by rw [← hV6]; exact (RA.other (unhide HZ5) (p := ⟨w.heap.size, 7, none⟩) (by show w.heap.size + 1 ≠ w.heap.size; omega) (.slice b3 se.length d3)))
  have hq6 : V6.heap.size = V5.heap.size := by rw [← hV6]; simp [World.setCell]
  have hk6 : ∀ k, k < V5.heap.size → k ≠ w.heap.size → V6.heap[k]? = V5.heap[k]? := fun k _ h => by rw [← hV6]; exact (Below.heap_setCell _ _ _ _ h)
  have U1_6 := hide ((unhide U1_5).but (p := fun k => k ≠ w.heap.size) (by omega) hk6 (fun k h1 h2 => by omega))
  have U2_6 := hide ((unhide U2_5).but (p := fun k => k ≠ w.heap.size) (by omega) hk6 (fun k h1 h2 => by omega))
  have U3_6 := hide ((unhide U3_5).but (p := fun k => k ≠ w.heap.size) (by omega) hk6 (fun k h1 h2 => by omega))
  have HV6 := hide hV6
  clear hV6 hk6
  have o7 := (unhide HX5).at (i := 7) rfl
  have f7 := (unhide HX5).free (i := 7) (by omega)
  have z8 := (unhide HX5).at (i := 8) rfl
  go_wp2_with fail
  rw [unhide HV6]
  clear o7 f7 z8 HX5 HZ5 U1_5 U2_5 U3_5
  refine (l03OwnO a4 du c4 _ hm4 ((unhide HR4).below (unhide HB6))).mono ?_
  rintro e V7 ⟨v7, rfl, b_, l_⟩
  obtain ⟨b4, d4, rfl, L_⟩ := l_
  have HB7 := hide ((unhide HB6).trans (b_.mono (unhide HB6).size))
  have HX7 := hide ((unhide HX6).below b_)
  have HZ7 := hide ((unhide HZ6).below b_)
  have U1_7 := hide ((unhide U1_6).below b_)
  have U2_7 := hide ((unhide U2_6).below b_)
  have U3_7 := hide ((unhide U3_6).below b_)
  have hq7 := b_.size
  clear HX6 HZ6 U1_6 U2_6 U3_6
  have U4_7 := hide L_
  clear L_ b_
  obtain ⟨V8, hV8⟩ : ∃ V, (V7.setCell ⟨w.heap.size, 8, none⟩ (.slice b4 du.length d4)) = V := ⟨_, rfl⟩
  have HB8 : Hid (Below w.heap.size w V8) := hide (by rw [← hV8]; exact ((unhide HB7).setCell (p := ⟨w.heap.size, 8, none⟩) (Nat.le_refl _) (.slice b4 du.length d4)))
  have HX8 : Hid (RA V8 w.heap.size (rC x1 x2 x3 x4 x5 (.slice b1 ls.length d1) (.slice b2 tw.length d2) (.slice b3 se.length d3) (.slice b4 du.length d4) (.slice (some ⟨h5, g5, none⟩) ss.length c5) (.slice (some ⟨h6, g6, none⟩) es.length c6) (.slice a7 la.length c7) x6)) := hide (by rw [← hV8]; exact (RA.set (unhide HX7) (k := 8) (by omega) (.slice b4 du.length d4)))
  have HZ8 : Hid (RA V8 (w.heap.size + 1) (rC 0 0 0 0 0 (.slice none 0 0) (.slice none 0 0) (.slice none 0 0) (.slice none 0 0) (.slice none 0 0) (.slice none 0 0) (.slice none 0 0) 0)) := hide (by rw [← hV8]; exact (RA.other (unhide HZ7) (p := ⟨w.heap.size, 8, none⟩) (by show w.heap.size + 1 ≠ w.heap.size; omega) (.slice b4 du.length d4)))
  have hq8 : V8.heap.size = V7.heap.size := by rw [← hV8]; simp [World.setCell]
  have hk8 : ∀ k, k < V7.heap.size → k ≠ w.heap.size → V8.heap[k]? = V7.heap[k]? := fun k _ h => by rw [← hV8]; exact (Below.heap_setCell _ _ _ _ h)
  have U1_8 := hide ((unhide U1_7).but (p := fun k => k ≠ w.heap.size) (by omega) hk8 (fun k h1 h2 => by omega))
  have U2_8 := hide ((unhide U2_7).but (p := fun k => k ≠ w.heap.size) (by omega) hk8 (fun k h1 h2 => by omega))
  have U3_8 := hide ((unhide U3_7).but (p := fun k => k ≠ w.heap.size) (by omega) hk8 (fun k h1 h2 => by omega))
  have U4_8 := hide ((unhide U4_7).but (p := fun k => k ≠ w.heap.size) (by omega) hk8 (fun k h1 h2 => by omega))
  have HV8 := hide hV8
  clear hV8 hk8
  have o8 := (unhide HX7).at (i := 8) rfl
  have f8 := (unhide HX7).free (i := 8) (by omega)
  have z9 := (unhide HX7).at (i := 9) rfl
  have z10 := (unhide HX7).at (i := 10) rfl
  go_wp2_with fail
  rw [unhide HV8]
  clear o8 f8 z9 z10 HX7 HZ7 U1_7 U2_7 U3_7 U4_7
  refine (Tp.l09Own h5 g5 ss c5 h6 g6 es c6 _ hm5 hm6 ((unhide HR5).below (unhide HB8)) ((unhide HR6).below (unhide HB8))).mono ?_
  rintro e V9 ⟨v9, rfl, b_, l_⟩
  obtain ⟨gg5, d5, gg6, d6, mid, rfl, _, L5_, L6_, hmi, hmj⟩ := l_
  obtain ⟨b5, hb5⟩ : ∃ b5, some (⟨gg5, 0, none⟩ : Addr) = b5 := ⟨_, rfl⟩
  obtain ⟨b6, hb6⟩ : ∃ b6, some (⟨gg6, 0, none⟩ : Addr) = b6 := ⟨_, rfl⟩
  rw [hb5] at L5_
  rw [hb6] at L6_
  rw [hb5, hb6]
  clear hb5 hb6
  have HB9 := hide ((unhide HB8).trans (b_.mono (unhide HB8).size))
  have HX9 := hide ((unhide HX8).below b_)
  have HZ9 := hide ((unhide HZ8).below b_)
  have U1_9 := hide ((unhide U1_8).below b_)
  have U2_9 := hide ((unhide U2_8).below b_)
  have U3_9 := hide ((unhide U3_8).below b_)
  have U4_9 := hide ((unhide U4_8).below b_)
  have hq9 := b_.size
  clear HX8 HZ8 U1_8 U2_8 U3_8 U4_8
  have U5_9 := hide L5_
  have U6_9 := hide L6_
  clear L5_ L6_ b_
  obtain ⟨V10, hV10⟩ : ∃ V, ((V9.setCell ⟨w.heap.size, 9, none⟩ (.slice b5 ss.length d5)).setCell ⟨w.heap.size, 10, none⟩ (.slice b6 es.length d6)) = V := ⟨_, rfl⟩
  have HB10 : Hid (Below w.heap.size w V10) := hide (by rw [← hV10]; exact (((unhide HB9).setCell (p := ⟨w.heap.size, 9, none⟩) (Nat.le_refl _) (.slice b5 ss.length d5)).setCell (p := ⟨w.heap.size, 10, none⟩) (Nat.le_refl _) (.slice b6 es.length d6)))
  have HX10 : Hid (RA V10 w.heap.size (rC x1 x2 x3 x4 x5 (.slice b1 ls.length d1) (.slice b2 tw.length d2) (.slice b3 se.length d3) (.slice b4 du.length d4) (.slice b5 ss.length d5) (.slice b6 es.length d6) (.slice a7 la.length c7) x6)) := hide (by rw [← hV10]; exact (RA.set (RA.set (unhide HX9) (k := 9) (by omega) (.slice b5 ss.length d5)) (k := 10) (by omega) (.slice b6 es.length d6)))
  have HZ10 : Hid (RA V10 (w.heap.size + 1) (rC 0 0 0 0 0 (.slice none 0 0) (.slice none 0 0) (.slice none 0 0) (.slice none 0 0) (.slice none 0 0) (.slice none 0 0) (.slice none 0 0) 0)) := hide (by rw [← hV10]; exact (RA.other (RA.other (unhide HZ9) (p := ⟨w.heap.size, 9, none⟩) (by show w.heap.size + 1 ≠ w.heap.size; omega) (.slice b5 ss.length d5)) (p := ⟨w.heap.size, 10, none⟩) (by show w.heap.size + 1 ≠ w.heap.size; omega) (.slice b6 es.length d6)))
  have hq10 : V10.heap.size = V9.heap.size := by rw [← hV10]; simp [World.setCell]
  have hk10 : ∀ k, k < V9.heap.size → k ≠ w.heap.size → V10.heap[k]? = V9.heap[k]? := fun k _ h => by rw [← hV10]; exact ((Below.heap_setCell _ _ _ _ h).trans (Below.heap_setCell _ _ _ _ h))
  have U1_10 := hide ((unhide U1_9).but (p := fun k => k ≠ w.heap.size) (by omega) hk10 (fun k h1 h2 => by omega))
  have U2_10 := hide ((unhide U2_9).but (p := fun k => k ≠ w.heap.size) (by omega) hk10 (fun k h1 h2 => by omega))
  have U3_10 := hide ((unhide U3_9).but (p := fun k => k ≠ w.heap.size) (by omega) hk10 (fun k h1 h2 => by omega))
  have U4_10 := hide ((unhide U4_9).but (p := fun k => k ≠ w.heap.size) (by omega) hk10 (fun k h1 h2 => by omega))
  have U5_10 := hide ((unhide U5_9).but (p := fun k => k ≠ w.heap.size) (by omega) hk10 (fun k h1 h2 => by omega))
  have U6_10 := hide ((unhide U6_9).but (p := fun k => k ≠ w.heap.size) (by omega) hk10 (fun k h1 h2 => by omega))
  have HV10 := hide hV10
  clear hV10 hk10
  have o9 := (unhide HX9).at (i := 9) rfl
  have f9 := (unhide HX9).free (i := 9) (by omega)
  have o10 := (unhide HX9).at (i := 10) rfl
  have f10 := (unhide HX9).free (i := 10) (by omega)
  clear HX9 HZ9 U1_9 U2_9 U3_9 U4_9 U5_9 U6_9
  have HBe : Hid (Below w.heap.size w (((V9.setCell ⟨w.heap.size, 9, none⟩ (.slice b5 ss.length d5)).setCell ⟨w.heap.size, 10, none⟩ (.slice b6 es.length d6)).alloc (.cells #[] 141))) := hide (by rw [unhide HV10]; exact (unhide HB10).alloc (unhide HB10).size _)
  have HXe : Hid (RA (((V9.setCell ⟨w.heap.size, 9, none⟩ (.slice b5 ss.length d5)).setCell ⟨w.heap.size, 10, none⟩ (.slice b6 es.length d6)).alloc (.cells #[] 141)) w.heap.size (rC x1 x2 x3 x4 x5 (.slice b1 ls.length d1) (.slice b2 tw.length d2) (.slice b3 se.length d3) (.slice b4 du.length d4) (.slice b5 ss.length d5) (.slice b6 es.length d6) (.slice a7 la.length c7) x6)) := hide (by rw [unhide HV10]; exact (unhide HX10).below ((Below.refl _ _).alloc (Nat.le_refl _) _))
  have HZe : Hid (RA (((V9.setCell ⟨w.heap.size, 9, none⟩ (.slice b5 ss.length d5)).setCell ⟨w.heap.size, 10, none⟩ (.slice b6 es.length d6)).alloc (.cells #[] 141)) (w.heap.size + 1) (rC 0 0 0 0 0 (.slice none 0 0) (.slice none 0 0) (.slice none 0 0) (.slice none 0 0) (.slice none 0 0) (.slice none 0 0) (.slice none 0 0) 0)) := hide (by rw [unhide HV10]; exact (unhide HZ10).below ((Below.refl _ _).alloc (Nat.le_refl _) _))
  have U1_e := hide (by rw [unhide HV10]; exact (unhide U1_10).below ((Below.refl _ _).alloc (Nat.le_refl _) (.cells #[] 141)) : Lk.Lst (((V9.setCell ⟨w.heap.size, 9, none⟩ (.slice b5 ss.length d5)).setCell ⟨w.heap.size, 10, none⟩ (.slice b6 es.length d6)).alloc (.cells #[] 141)) b1 ls V0.heap.size V1.heap.size)
  have U2_e := hide (by rw [unhide HV10]; exact (unhide U2_10).below ((Below.refl _ _).alloc (Nat.le_refl _) (.cells #[] 141)) : Tu.Lst (((V9.setCell ⟨w.heap.size, 9, none⟩ (.slice b5 ss.length d5)).setCell ⟨w.heap.size, 10, none⟩ (.slice b6 es.length d6)).alloc (.cells #[] 141)) b2 tw V2.heap.size V3.heap.size)
  have U3_e := hide (by rw [unhide HV10]; exact (unhide U3_10).below ((Below.refl _ _).alloc (Nat.le_refl _) (.cells #[] 141)) : Tu.Lst (((V9.setCell ⟨w.heap.size, 9, none⟩ (.slice b5 ss.length d5)).setCell ⟨w.heap.size, 10, none⟩ (.slice b6 es.length d6)).alloc (.cells #[] 141)) b3 se V4.heap.size V5.heap.size)
  have U4_e := hide (by rw [unhide HV10]; exact (unhide U4_10).below ((Below.refl _ _).alloc (Nat.le_refl _) (.cells #[] 141)) : Tu.Lst (((V9.setCell ⟨w.heap.size, 9, none⟩ (.slice b5 ss.length d5)).setCell ⟨w.heap.size, 10, none⟩ (.slice b6 es.length d6)).alloc (.cells #[] 141)) b4 du V6.heap.size V7.heap.size)
  have U5_e := hide (by rw [unhide HV10]; exact (unhide U5_10).below ((Below.refl _ _).alloc (Nat.le_refl _) (.cells #[] 141)) : So.Lst (((V9.setCell ⟨w.heap.size, 9, none⟩ (.slice b5 ss.length d5)).setCell ⟨w.heap.size, 10, none⟩ (.slice b6 es.length d6)).alloc (.cells #[] 141)) b5 ss V8.heap.size mid)
  have U6_e := hide (by rw [unhide HV10]; exact (unhide U6_10).below ((Below.refl _ _).alloc (Nat.le_refl _) (.cells #[] 141)) : Tu.Lst (((V9.setCell ⟨w.heap.size, 9, none⟩ (.slice b5 ss.length d5)).setCell ⟨w.heap.size, 10, none⟩ (.slice b6 es.length d6)).alloc (.cells #[] 141)) b6 es mid V9.heap.size)
  have O0 : Hid ((((V9.setCell ⟨w.heap.size, 9, none⟩ (.slice b5 ss.length d5)).setCell ⟨w.heap.size, 10, none⟩ (.slice b6 es.length d6)).alloc (.cells #[] 141)).ownsRow V9.heap.size 141 2 (.slice (some ⟨V9.heap.size, 0, none⟩) 0 0) ([] : List Ed.R).length (Ed.flat [])) := hide (by rw [unhide HV10, ← hq10]; exact Ed.own_empty V10 V10.heap.size (Nat.le_refl _))
  have HRe := hide ((unhide HR7).below (unhide HBe))
  have z11 := (unhide HXe).at (i := 11) rfl
  have hse : (((V9.setCell ⟨w.heap.size, 9, none⟩ (.slice b5 ss.length d5)).setCell ⟨w.heap.size, 10, none⟩ (.slice b6 es.length d6)).alloc (.cells #[] 141)).heap.size = V9.heap.size + 1 := by simp [World.setCell]
  have HSE := hide hse
  clear hse
  go_wp2_with (first | (at_builtin; refine apOE (unhide O0) a7 c7 la (unhide HRe) (by simp; omega) (by rw [unhide HSE]; omega) rfl _ _ rfl rfl rfl ?_; intro v8 V8 ho hg; have HB8 := hide (Ed.below_own (unhide HBe) (unhide O0) hg (by omega) (by rw [unhide HSE]; omega)); have HX8 := hide (RA.but (unhide HXe) (hg.block w.heap.size (by rw [unhide HSE]; omega) (fun e => by have := ((unhide O0).lt w.heap.size e.symm).1; omega))); have HZ8 := hide (RA.but (unhide HZe) (hg.block (w.heap.size + 1) (by rw [unhide HSE]; omega) (fun e => by have := ((unhide O0).lt (w.heap.size + 1) e.symm).1; omega))); have U1_8 := hide ((unhide U1_e).but (p := fun k => some k ≠ (Value.slice (some ⟨V9.heap.size, 0, none⟩) 0 0).ownBlock) hg.size (fun k hk h => hg.block k hk h) (fun k h1 h2 e => by have := ((unhide O0).lt k e.symm).1; omega)); have U2_8 := hide ((unhide U2_e).but (p := fun k => some k ≠ (Value.slice (some ⟨V9.heap.size, 0, none⟩) 0 0).ownBlock) hg.size (fun k hk h => hg.block k hk h) (fun k h1 h2 e => by have := ((unhide O0).lt k e.symm).1; omega)); have U3_8 := hide ((unhide U3_e).but (p := fun k => some k ≠ (Value.slice (some ⟨V9.heap.size, 0, none⟩) 0 0).ownBlock) hg.size (fun k hk h => hg.block k hk h) (fun k h1 h2 e => by have := ((unhide O0).lt k e.symm).1; omega)); have U4_8 := hide ((unhide U4_e).but (p := fun k => some k ≠ (Value.slice (some ⟨V9.heap.size, 0, none⟩) 0 0).ownBlock) hg.size (fun k hk h => hg.block k hk h) (fun k h1 h2 e => by have := ((unhide O0).lt k e.symm).1; omega)); have U5_8 := hide ((unhide U5_e).but (p := fun k => some k ≠ (Value.slice (some ⟨V9.heap.size, 0, none⟩) 0 0).ownBlock) hg.size (fun k hk h => hg.block k hk h) (fun k h1 h2 e => by have := ((unhide O0).lt k e.symm).1; omega)); have U6_8 := hide ((unhide U6_e).but (p := fun k => some k ≠ (Value.slice (some ⟨V9.heap.size, 0, none⟩) 0 0).ownBlock) hg.size (fun k hk h => hg.block k hk h) (fun k h1 h2 e => by have := ((unhide O0).lt k e.symm).1; omega)); have HL8 := hide (Ed.lst_own rfl ho); have HS8 := hide hg.size; clear ho hg; obtain ⟨b7, d7, hv8, HLL⟩ := unhide HL8; simp only [List.nil_append] at hv8 HLL; subst hv8; have U7_8 := hide HLL; clear HLL HL8; have o11 := (unhide HX8).at (i := 11) rfl; have f11 := (unhide HX8).free (i := 11) (by omega); have HOF : Hid (RA (V8.setCell ⟨w.heap.size, 11, none⟩ (.slice b7 la.length d7)) w.heap.size (rC x1 x2 x3 x4 x5 (.slice b1 ls.length d1) (.slice b2 tw.length d2) (.slice b3 se.length d3) (.slice b4 du.length d4) (.slice b5 ss.length d5) (.slice b6 es.length d6) (.slice b7 la.length d7) x6)) := hide (RA.set (unhide HX8) (k := 11) (by omega) (.slice b7 la.length d7)); have HZF : Hid (RA (V8.setCell ⟨w.heap.size, 11, none⟩ (.slice b7 la.length d7)) (w.heap.size + 1) (rC 0 0 0 0 0 (.slice none 0 0) (.slice none 0 0) (.slice none 0 0) (.slice none 0 0) (.slice none 0 0) (.slice none 0 0) (.slice none 0 0) 0)) := hide (RA.other (unhide HZ8) (p := ⟨w.heap.size, 11, none⟩) (by show w.heap.size + 1 ≠ w.heap.size; omega) (.slice b7 la.length d7)); have HBS : Hid (Below w.heap.size w (V8.setCell ⟨w.heap.size, 11, none⟩ (.slice b7 la.length d7))) := hide ((unhide HB8).setCell (p := ⟨w.heap.size, 11, none⟩) (Nat.le_refl _) (.slice b7 la.length d7)); have hqS : (V8.setCell ⟨w.heap.size, 11, none⟩ (.slice b7 la.length d7)).heap.size = V8.heap.size := (by simp [World.setCell]); have HQS := hide hqS; clear hqS) | (refine wpList_loadR (cs := [.int .i64 x1, .int .i64 x2, .int .i64 x3, .int .i64 x4, .int .i64 x5, .slice b1 ls.length d1, .slice b2 tw.length d2, .slice b3 se.length d3, .slice b4 du.length d4, .slice b5 ss.length d5, .slice b6 es.length d6, .slice b7 la.length d7, .int .i64 x6]) _ rfl rfl rfl (unhide HOF) ?_) | (refine wpList_storeR2 _ _ rfl rfl (rC x1 x2 x3 x4 x5 (.slice b1 ls.length d1) (.slice b2 tw.length d2) (.slice b3 se.length d3) (.slice b4 du.length d4) (.slice b5 ss.length d5) (.slice b6 es.length d6) (.slice b7 la.length d7) x6) (rC_ones rfl rfl rfl rfl rfl rfl rfl) rfl rfl (unhide HZF).2.1 ?_; intro VF raF bbF hsF kkF; have HRF := hide raF; have HBF := hide (bbF _ _ (unhide HBS) (by omega)); have HUF := hide kkF; have hqF := hsF.trans (unhide HQS); clear raF bbF hsF kkF))
  have hs8 := unhide HS8
  rw [unhide HSE] at hs8
  refine bodyPost_ret (resultsR rfl _ _ rfl (unhide HRF)) rfl ⟨b1, b2, b3, b4, b5, b6, b7, d1, d2, d3, d4, d5, d6, d7, rfl, unhide HBF, V1.heap.size, V3.heap.size, V5.heap.size, V7.heap.size, mid, V9.heap.size, ⟨by omega, by omega, by omega, by omega, by omega, by omega, by omega⟩, (((unhide U1_8).but (p := fun k => k ≠ w.heap.size) (by simp [World.setCell]) (fun k hk h => Below.heap_setCell _ _ _ _ h) (fun k h1 h2 => by omega) : Lk.Lst (V8.setCell ⟨w.heap.size, 11, none⟩ (.slice b7 la.length d7)) _ _ _ _).but (p := fun k => k ≠ w.heap.size + 1) (by rw [unhide HQS]; omega) (fun k hk h => unhide HUF k h) (fun k h1 h2 => by omega)).mono (by omega) (by omega), (((unhide U2_8).but (p := fun k => k ≠ w.heap.size) (by simp [World.setCell]) (fun k hk h => Below.heap_setCell _ _ _ _ h) (fun k h1 h2 => by omega) : Tu.Lst (V8.setCell ⟨w.heap.size, 11, none⟩ (.slice b7 la.length d7)) _ _ _ _).but (p := fun k => k ≠ w.heap.size + 1) (by rw [unhide HQS]; omega) (fun k hk h => unhide HUF k h) (fun k h1 h2 => by omega)).mono (by omega) (by omega), (((unhide U3_8).but (p := fun k => k ≠ w.heap.size) (by simp [World.setCell]) (fun k hk h => Below.heap_setCell _ _ _ _ h) (fun k h1 h2 => by omega) : Tu.Lst (V8.setCell ⟨w.heap.size, 11, none⟩ (.slice b7 la.length d7)) _ _ _ _).but (p := fun k => k ≠ w.heap.size + 1) (by rw [unhide HQS]; omega) (fun k hk h => unhide HUF k h) (fun k h1 h2 => by omega)).mono (by omega) (by omega), (((unhide U4_8).but (p := fun k => k ≠ w.heap.size) (by simp [World.setCell]) (fun k hk h => Below.heap_setCell _ _ _ _ h) (fun k h1 h2 => by omega) : Tu.Lst (V8.setCell ⟨w.heap.size, 11, none⟩ (.slice b7 la.length d7)) _ _ _ _).but (p := fun k => k ≠ w.heap.size + 1) (by rw [unhide HQS]; omega) (fun k hk h => unhide HUF k h) (fun k h1 h2 => by omega)).mono (by omega) (by omega), (((unhide U5_8).but (p := fun k => k ≠ w.heap.size) (by simp [World.setCell]) (fun k hk h => Below.heap_setCell _ _ _ _ h) (fun k h1 h2 => by omega) : So.Lst (V8.setCell ⟨w.heap.size, 11, none⟩ (.slice b7 la.length d7)) _ _ _ _).but (p := fun k => k ≠ w.heap.size + 1) (by rw [unhide HQS]; omega) (fun k hk h => unhide HUF k h) (fun k h1 h2 => by omega)).mono (by omega) (by omega), (((unhide U6_8).but (p := fun k => k ≠ w.heap.size) (by simp [World.setCell]) (fun k hk h => Below.heap_setCell _ _ _ _ h) (fun k h1 h2 => by omega) : Tu.Lst (V8.setCell ⟨w.heap.size, 11, none⟩ (.slice b7 la.length d7)) _ _ _ _).but (p := fun k => k ≠ w.heap.size + 1) (by rw [unhide HQS]; omega) (fun k hk h => unhide HUF k h) (fun k h1 h2 => by omega)).mono (by omega) (by omega), (((unhide U7_8).but (p := fun k => k ≠ w.heap.size) (by simp [World.setCell]) (fun k hk h => Below.heap_setCell _ _ _ _ h) (fun k h1 h2 => by omega) : Ed.Lst (V8.setCell ⟨w.heap.size, 11, none⟩ (.slice b7 la.length d7)) _ _ _ _).but (p := fun k => k ≠ w.heap.size + 1) (by rw [unhide HQS]; omega) (fun k hk h => unhide HUF k h) (fun k h1 h2 => by omega)).mono (by omega) (by omega)⟩
end Rt
end Go.Proofs.YtiipppfkpgbpeaaGreat
namespace Go.Proofs.YtiipppfkpgbpeaaGreat
open Go.ChangeShapes Go.WideShapes Go.ChangeAt Go.RowKit
set_option linter.unusedVariables false
set_option linter.unusedSimpArgs false
set_option maxRecDepth 100000
attribute [local go_sem ↓] Go.wp_at_zero Go.wp_at_succ
namespace Rt
open W1
/-- What is advertised of the links. -/
def advL (ls : List Lk.R) (now : Int) : List Ed.R := (ls.filter (fun x => Ln.statusV x now == 2)).map (fun x => (⟨x.ad, x.co⟩ : Ed.R))
theorem adv_len (ls : List Lk.R) (now : Int) : (advL ls now).length ≤ ls.length := by
  unfold advL; rw [List.length_map]; exact List.length_filter_le _ _
theorem take_step {α : Type} {z : α} {xs : List α} {j : Nat} (h : j < xs.length) : xs.take (j + 1) = xs.take j ++ [xs.getD j z] := by
  rw [List.take_add_one, List.getElem?_eq_getElem h, List.getD_eq_getElem?_getD, List.getElem?_eq_getElem h]; rfl
theorem adv_yes {ls : List Lk.R} {now : Int} {j : Nat} (h : j < ls.length) (hs : (Ln.statusV (ls.getD j Lk.R.zero) now == 2) = true) : advL (ls.take (j + 1)) now = advL (ls.take j) now ++ [(⟨(ls.getD j Lk.R.zero).ad, (ls.getD j Lk.R.zero).co⟩ : Ed.R)] := by
  unfold advL
  rw [take_step (z := Lk.R.zero) h, List.filter_append, List.map_append]
  congr 1
  rw [List.filter_cons, hs]
  rfl
theorem adv_no {ls : List Lk.R} {now : Int} {j : Nat} (h : j < ls.length) (hs : (Ln.statusV (ls.getD j Lk.R.zero) now == 2) = false) : advL (ls.take (j + 1)) now = advL (ls.take j) now := by
  unfold advL
  rw [take_step (z := Lk.R.zero) h, List.filter_append, List.map_append, List.filter_cons, hs]
  simp
/-- Whether two lists of edges are alike. -/
def edB (x y : Ed.R) : Bool := x.ad == y.ad && x.mt == y.mt
theorem edB_iff {x y : Ed.R} : edB x y = true ↔ x = y := by
  obtain ⟨a, b⟩ := x
  obtain ⟨c, d⟩ := y
  unfold edB
  simp
def eqU (xs ys : List Ed.R) (j : Nat) : Bool := (List.range j).all (fun i => edB (xs.getD i Ed.R.zero) (ys.getD i Ed.R.zero))
def eqE (xs ys : List Ed.R) : Bool := decide (xs.length = ys.length) && eqU xs ys xs.length
theorem eqU_zero (xs ys : List Ed.R) : eqU xs ys 0 = true := by unfold eqU; simp
theorem eqU_step (xs ys : List Ed.R) (j : Nat) : eqU xs ys (j + 1) = (eqU xs ys j && edB (xs.getD j Ed.R.zero) (ys.getD j Ed.R.zero)) := by
  unfold eqU; rw [List.range_succ, List.all_append]; simp
theorem eqU_stop {xs ys : List Ed.R} {j n : Nat} (h : eqU xs ys j = false) (hj : j ≤ n) : eqU xs ys n = false := by
  induction n with
  | zero => have : j = 0 := by omega
            subst this; exact h
  | succ n ih =>
    by_cases e : j = n + 1
    · subst e; exact h
    · rw [eqU_step, ih (by omega)]; rfl
theorem eqE_iff {xs ys : List Ed.R} : eqE xs ys = true ↔ xs = ys := by
  unfold eqE eqU
  simp only [Bool.and_eq_true, decide_eq_true_eq, List.all_eq_true, List.mem_range]
  constructor
  · rintro ⟨h1, h2⟩
    refine List.ext_getElem h1 (fun i h3 h4 => ?_)
    have := edB_iff.1 (h2 i h3)
    rw [List.getD_eq_getElem?_getD, List.getD_eq_getElem?_getD, List.getElem?_eq_getElem h3, List.getElem?_eq_getElem h4] at this
    exact this
  · rintro rfl
    exact ⟨rfl, fun i _ => edB_iff.2 rfl⟩
/-- The number of an advertisement behind the last one's. -/
def advN (al la : List Ed.R) (n : Int) : Int := if eqE al la = true then n else (n + 1) % 65536
theorem neqEd (x y x2 y2 : Int) (w : World) : (binOp .neq 141 (.agg #[.int .i64 x, .int .i64 y]) (.agg #[.int .i64 x2, .int .i64 y2])).run Tryz.prog w = .ok (.bool (!(edB ⟨x, y⟩ ⟨x2, y2⟩))) w := by
  have u3 := Tryz.underlying3
  have a3 := Tryz.isAgg3
  have z3 := Tryz.sizeOf3
  have hS : Tryz.prog.underlying 141 = some (.struct (Tryz.prog.fieldsOf 141)) := by kernel_rfl
  have hp : Tryz.prog.stoodInHeld 141 = false := by kernel_rfl
  rw [run_neq_struct, show (10000 : Nat) = 9999 + 1 from rfl, run_equalIn_agg w 9999 141 _ _ hS hp]
  simp only [Program.fieldsOf, Tryz.underlying141]
  unfold edB
  dsimp only
  cases e1 : (x == x2) <;> cases e2 : (y == y2) <;> (go_simp; try simp_all)
theorem eqlEd (x y x2 y2 : Int) (w : World) : (binOp .eql 141 (.agg #[.int .i64 x, .int .i64 y]) (.agg #[.int .i64 x2, .int .i64 y2])).run Tryz.prog w = .ok (.bool (edB ⟨x, y⟩ ⟨x2, y2⟩)) w := by
  have u3 := Tryz.underlying3
  have a3 := Tryz.isAgg3
  have z3 := Tryz.sizeOf3
  have hS : Tryz.prog.underlying 141 = some (.struct (Tryz.prog.fieldsOf 141)) := by kernel_rfl
  have hp : Tryz.prog.stoodInHeld 141 = false := by kernel_rfl
  rw [run_eql_struct, show (10000 : Nat) = 9999 + 1 from rfl, run_equalIn_agg w 9999 141 _ _ hS hp]
  simp only [Program.fieldsOf, Tryz.underlying141]
  unfold edB
  dsimp only
  cases e1 : (x == x2) <;> cases e2 : (y == y2) <;> (go_simp; try simp_all)
theorem sEE {w : World} {g o g2 o2 : Nat} {x y x2 y2 : Int} (h3 : Ed.At w g o ⟨x, y⟩) (h4 : Ed.At w g2 o2 ⟨x2, y2⟩) :
    (Ed.At w g o ⟨x, y⟩ ∧ Ed.At w g2 o2 ⟨x2, y2⟩) ∧ (w.cell? ⟨g, o, none⟩ = some (.int .i64 x) ∧ w.cell? ⟨g, o + 1, none⟩ = some (.int .i64 y)) ∧ w.cell? ⟨g2, o2, none⟩ = some (.int .i64 x2) ∧ w.cell? ⟨g2, o2 + 1, none⟩ = some (.int .i64 y2) := ⟨⟨h3, h4⟩, h3, h4⟩
set_option maxHeartbeats 4000000 in
/-- slices.Equal at lists of edges. -/
theorem equalE (a b : Option Addr) (xs ys : List Ed.R) (ca cb : Nat) (w : World) (hm : xs.length ≤ 1048576) (hr : Ed.RM w a xs) (hr' : Ed.RM w b ys) :
    Calls Tryz.prog 123 #[.slice a xs.length ca, .slice b ys.length cb] w fun e w' => e = .returned (.bool (eqE xs ys)) ∧ Below w.heap.size w w' := by
  have HR := hide hr
  have HS := hide hr'
  clear hr hr'
  by_cases hl : xs.length = ys.length
  rotate_left
  · have hne : ((xs.length : Int) != (ys.length : Int)) = true := by simpa using (fun h => hl (by omega))
    have HE : Hid (eqE xs ys = false) := hide (by unfold eqE; rw [decide_eq_false hl]; rfl)
    clear hl
    go_enter Tryz.func123, Tryz.ntmps123
    go_wp2_with fail
    go_ret
    exact ⟨ret_bool (by rw [unhide HE]), Below.refl _ _⟩
  · have HE : Hid (eqE xs ys = eqU xs ys xs.length) := hide (by unfold eqE; rw [decide_eq_true hl]; rfl)
    have HL := hide hl
    rw [← hl]
    clear hl
    generalize hN : xs.length = n at *
    have HN := hide hN
    clear hN
    have hne : ((n : Int) != (n : Int)) = false := by simp
    go_enter Tryz.func123, Tryz.ntmps123
    go_wp2_with fail
    go_loopw [13] (fun i wr => ∃ j : Nat, j ≤ n ∧ i = .int .i64 j ∧ Hid (eqU xs ys j = true) ∧ Hid (Below w.heap.size w wr)) (fun i _ => n - (intOf i).toNat)
    case atStart => exact ⟨0, by omega, rfl, hide (eqU_zero _ _), hide (Below.refl _ _)⟩
    case round =>
      obtain ⟨j, hj, rfl, hu, hbl⟩ := hrel
      by_cases hlt : (j : Int) < (n : Int)
      · have k0 : (0 : Int) ≤ (j : Int) := by omega
        have hlen : j < xs.length := by rw [unhide HN]; omega
        have hlen2 : j < ys.length := by rw [← unhide HL]; omega
        obtain ⟨g, o, rfl⟩ := (unhide HR).form (by omega)
        obtain ⟨g2, o2, rfl⟩ := (unhide HS).form (by omega)
        have A1 := ((unhide HR).below (unhide hbl)).at hlen
        have A2 := ((unhide HS).below (unhide hbl)).at hlen2
        have HST := hide (eqU_step xs ys j)
        generalize xs.getD j Ed.R.zero = m at *
        generalize ys.getD j Ed.R.zero = m2 at *
        obtain ⟨x, y⟩ := m
        obtain ⟨x2, y2⟩ := m2
        have HA1 := hide A1
        have HA2 := hide A2
        clear A1 A2
        have hnq := neqEd x y x2 y2
        obtain ⟨bq, hbq⟩ : ∃ bq, edB ⟨x, y⟩ ⟨x2, y2⟩ = bq := ⟨_, rfl⟩
        rw [hbq] at hnq HST
        clear hbq
        clear hlen hlen2
        go_wp2_with fail
        refine wp_region_noPanic ?_
        refine wp_region_held_drew (S := fun w' => (Ed.At w' g (o + j * 2) ⟨x, y⟩ ∧ Ed.At w' g2 (o2 + j * 2) ⟨x2, y2⟩) ∧ (w'.cell? ⟨g, o + j * 2, none⟩ = some (.int .i64 x) ∧ w'.cell? ⟨g, o + j * 2 + 1, none⟩ = some (.int .i64 y)) ∧ w'.cell? ⟨g2, o2 + j * 2, none⟩ = some (.int .i64 x2) ∧ w'.cell? ⟨g2, o2 + j * 2 + 1, none⟩ = some (.int .i64 y2)) (by kernel_rfl) (sEE (unhide HA1).drew (unhide HA2).drew) (fun hHeld => ?_)
        (refine Rg.tk (i := 0) (d := 16) (v := ?_) rfl rfl (by kernel_rfl) (by kernel_rfl) (by kernel_rfl) (fun _ _ _ h => h) (by rfl) ?_ (by assumption) ?_; rotate_left; (focus (intro w0 hSw; (try dsimp only at hSw); go_simp; (try with_reducible rfl))); (try simp only [Act.put, List.setIfInBounds_toArray, List.set_cons_zero, List.set_cons_succ]))
        (refine Rg.tk (i := 1) (d := 17) (v := ?_) rfl rfl (by kernel_rfl) (by kernel_rfl) (by kernel_rfl) (fun _ _ _ h => h) (by rfl) ?_ (by assumption) ?_; rotate_left; (focus (intro w0 hSw; (try dsimp only at hSw); go_simp; (try with_reducible rfl))); (try simp only [Act.put, List.setIfInBounds_toArray, List.set_cons_zero, List.set_cons_succ]))
        (refine Rg.tk (i := 2) (d := 18) (v := ?_) rfl rfl (by kernel_rfl) (by kernel_rfl) (by kernel_rfl) (fun _ _ _ h => h) (by rfl) ?_ (by assumption) ?_; rotate_left; (focus (intro w0 hSw; (try dsimp only at hSw); go_simp; (try with_reducible rfl))); (try simp only [Act.put, List.setIfInBounds_toArray, List.set_cons_zero, List.set_cons_succ]))
        (refine Rg.tk (i := 3) (d := 19) (v := ?_) rfl rfl (by kernel_rfl) (by kernel_rfl) (by kernel_rfl) (fun _ _ _ h => h) (by rfl) ?_ (by assumption) ?_; rotate_left; (focus (intro w0 hSw; (try dsimp only at hSw); go_simp; (try with_reducible rfl))); (try simp only [Act.put, List.setIfInBounds_toArray, List.set_cons_zero, List.set_cons_succ]))
        (refine Rg.tk (i := 4) (d := 20) (v := ?_) rfl rfl (by kernel_rfl) (by kernel_rfl) (by kernel_rfl) (fun _ _ _ h => h) (by rfl) ?_ (by assumption) ?_; rotate_left; (focus (intro w0 hSw; (try dsimp only at hSw); go_simp; (try with_reducible rfl))); (try simp only [Act.put, List.setIfInBounds_toArray, List.set_cons_zero, List.set_cons_succ]))
        (refine Rg.tk (i := 5) (d := 21) (v := ?_) rfl rfl (by kernel_rfl) (by kernel_rfl) (by kernel_rfl) (fun _ _ _ h => h) (by rfl) ?_ (by assumption) ?_; rotate_left; (focus (intro w0 hSw; (try dsimp only at hSw); go_simp; (try with_reducible rfl))); (try simp only [Act.put, List.setIfInBounds_toArray, List.set_cons_zero, List.set_cons_succ]))
        (refine Rg.tk (i := 6) (d := 22) (v := ?_) rfl rfl (by kernel_rfl) (by kernel_rfl) (by kernel_rfl) (fun _ _ _ h => h) (by rfl) ?_ (by assumption) ?_; rotate_left; (focus (intro w0 hSw; (try dsimp only at hSw); go_simp; (try with_reducible rfl))); (try simp only [Act.put, List.setIfInBounds_toArray, List.set_cons_zero, List.set_cons_succ]))
        (refine Rg.tk (i := 7) (d := 23) (v := ?_) rfl rfl (by kernel_rfl) (by kernel_rfl) (by kernel_rfl) (fun _ _ _ h => h) (by rfl) ?_ (by assumption) ?_; rotate_left; (focus (intro w0 hSw; (try dsimp only at hSw); go_simp; (try with_reducible rfl))); (try simp only [Act.put, List.setIfInBounds_toArray, List.set_cons_zero, List.set_cons_succ]))
        (refine Rg.tk (i := 8) (d := 24) (v := ?_) rfl rfl (by kernel_rfl) (by kernel_rfl) (by kernel_rfl) (fun _ _ _ h => h) (by rfl) ?_ (by assumption) ?_; rotate_left; (focus (intro w0 hSw; (try dsimp only at hSw); go_simp; (try with_reducible rfl))); (try simp only [Act.put, List.setIfInBounds_toArray, List.set_cons_zero, List.set_cons_succ]))
        refine wpAnyH_done (by kernel_rfl) (NoPanic.normal ?_) _
        clear hHeld
        have HBd := hide (unhide hbl).drew
        cases bq
        · go_wp2_with fail
          go_ret
          exact ⟨ret_bool (by rw [unhide HE, eqU_stop (j := j + 1) (by rw [unhide HST]; simp) (by omega)]), unhide HBd⟩
        · go_wp2_with fail
          go_roundw
          case rel => exact ⟨j + 1, by omega, by go_num, hide (by rw [unhide HST, unhide hu]; rfl), HBd⟩
          case measure => simp [intOf]; omega
      · obtain rfl : j = n := by omega
        go_wp2_with fail
        go_ret
        exact ⟨ret_bool (by rw [unhide HE, unhide hu]), unhide hbl⟩
theorem nextNumber (n : Int) (w : World) (h0 : 0 ≤ n) (h1 : n ≤ 65535) : Calls Tryz.prog 122 #[.int .i64 n] w fun e w' => e = .returned (.int .i64 ((n + 1) % 65536)) ∧ w' = w := by
  have e1 : n % 65536 = n := by omega
  go_enter Tryz.func122, Tryz.ntmps122
  go_wp2_with fail
  go_ret
  exact ⟨ret_int (by rw [IntKind.wrap_u16]; unfold wrap64; omega), rfl⟩
end Rt
end Go.Proofs.YtiipppfkpgbpeaaGreat
namespace Go.Proofs.YtiipppfkpgbpeaaGreat
open Go.ChangeShapes Go.WideShapes Go.ChangeAt Go.RowKit
set_option linter.unusedVariables false
namespace Mtr
open W1
def met (c : Nat) : Int := (257 + (c % 256 : Nat)) * 2 ^ (c / 256) - 256
theorem met_step (c : Nat) : met c < met (c + 1) := by
  unfold met
  have hp : (0 : Int) < 2 ^ (c / 256) := Int.pow_pos (by decide)
  by_cases h : c % 256 = 255
  · have h1 : (c + 1) % 256 = 0 := by omega
    have h2 : (c + 1) / 256 = c / 256 + 1 := by omega
    rw [h, h1, h2, Int.pow_succ]
    generalize (2 : Int) ^ (c / 256) = p at *
    omega
  · have h1 : (c + 1) % 256 = c % 256 + 1 := by omega
    have h2 : (c + 1) / 256 = c / 256 := by omega
    rw [h1, h2]
    have := Int.mul_lt_mul_of_pos_right (show (257 + ((c % 256 : Nat) : Int)) < 257 + ((c % 256 + 1 : Nat) : Int) by omega) hp
    omega
theorem met_mono {a b : Nat} (h : a ≤ b) : met a ≤ met b := by
  induction h with
  | refl => exact Int.le_refl _
  | step _ ih => exact Int.le_trans ih (Int.le_of_lt (met_step _))
theorem met_lo (a : Nat) : 1 ≤ met a := by
  have h0 : met 0 = 1 := by decide
  have := met_mono (Nat.zero_le a)
  omega
theorem met_hi {a : Nat} (h : a ≤ 4095) : met a ≤ 16776960 := by
  have h0 : met 4095 = 16776960 := by decide
  have := met_mono h
  omega
/-- k is the least code whose metric is n or more. -/
def IsCode (n : Int) (k : Nat) : Prop := k ≤ 4095 ∧ n ≤ met k ∧ (k = 0 ∨ met (k - 1) < n)
theorem arith1 (c : Nat) : ((c + 1) * 256 + 256 - 256 - 1) % 256 = 255 ∧ ((c + 1) * 256 + 256 - 256 - 1) / 256 = c := by omega
theorem arith2 {b q : Nat} (h : 257 ≤ q) (h' : q < 512) : (b * 256 + q - 256 - 1) % 256 = q - 257 ∧ (b * 256 + q - 256 - 1) / 256 = b := by omega
/-- The least code whose metric is n or more. -/
def mcode (n : Int) : Nat := cnt met 4096 n
theorem mcode_of {n : Int} {k : Nat} (h : IsCode n k) : mcode n = k :=
  cnt_of _ _ _ _ (by have := h.1; omega) (fun c hc => by
    rcases h.2.2 with e | e
    · omega
    · have := met_mono (show c ≤ k - 1 by omega); omega) (fun c hc _ => by have := met_mono hc; have := h.2.1; omega)
/-- The program's way to the code. -/
theorem fast {n : Nat} (h1 : 1 ≤ n) (h2 : n ≤ 16776960) :
    9 ≤ Lib.bitLen (n + 255) ∧ Lib.bitLen (n + 255) ≤ 24 ∧ 256 ≤ (n + 255) / 2 ^ (Lib.bitLen (n + 255) - 9) ∧ (n + 255) / 2 ^ (Lib.bitLen (n + 255) - 9) ≤ 511 ∧
    IsCode n ((Lib.bitLen (n + 255) - 9) * 256 + (n + 255) / 2 ^ (Lib.bitLen (n + 255) - 9) - 256) ∧ (n ≤ 256 → met ((Lib.bitLen (n + 255) - 9) * 256 + (n + 255) / 2 ^ (Lib.bitLen (n + 255) - 9) - 256) = n) := by
  obtain ⟨l1, l2, l3⟩ := Lib.bitLenAux_bounds 64 (n + 255) (by omega) (by omega)
  have hb : Lib.bitLen (n + 255) = Lib.bitLenAux 64 (n + 255) := by rw [Lib.bitLen]
  rw [← hb] at l1 l2 l3
  clear hb
  generalize Lib.bitLen (n + 255) = L at *
  have a1 : 9 ≤ L := by
    rcases Nat.lt_or_ge L 9 with h | h
    · have := Nat.pow_le_pow_right (n := 2) (by decide) (show L ≤ 8 by omega); omega
    · exact h
  have a2 : L ≤ 24 := by
    rcases Nat.lt_or_ge 24 L with h | h
    · have := Nat.pow_le_pow_right (n := 2) (by decide) (show 24 ≤ L - 1 by omega); omega
    · exact h
  obtain ⟨b, rfl⟩ : ∃ b, L = b + 9 := ⟨L - 9, by omega⟩
  have e1 : b + 9 - 1 = b + 8 := by omega
  have e2 : b + 9 - 9 = b := by omega
  rw [e1, Nat.pow_add] at l2
  rw [Nat.pow_add] at l3
  rw [e2]
  have hp : 0 < 2 ^ b := Nat.two_pow_pos _
  have q1 : 256 ≤ (n + 255) / 2 ^ b := (Nat.le_div_iff_mul_le hp).2 (by omega)
  have q2 : (n + 255) / 2 ^ b < 512 := (Nat.div_lt_iff_lt_mul hp).2 (by omega)
  have dm := Nat.div_add_mod (n + 255) (2 ^ b)
  have ml := Nat.mod_lt (n + 255) hp
  generalize hq : (n + 255) / 2 ^ b = q at *
  refine ⟨a1, a2, q1, by omega, ?_⟩
  have k1 : (b * 256 + q - 256) % 256 = q - 256 := by omega
  have k2 : (b * 256 + q - 256) / 256 = b := by omega
  have hme : met (b * 256 + q - 256) = ((2 ^ b * q + 2 ^ b : Nat) : Int) - 256 := by
    unfold met
    rw [k1, k2]
    have : (257 + ((q - 256 : Nat) : Int)) = (q : Int) + 1 := by omega
    rw [this, Int.add_mul]
    simp [Int.mul_comm]
  refine ⟨⟨by omega, by rw [hme]; omega, ?_⟩, ?_⟩
  · by_cases hz : b * 256 + q - 256 = 0
    · exact .inl hz
    · right
      have hm2 : met (b * 256 + q - 256 - 1) = ((2 ^ b * q : Nat) : Int) - 256 := by
        unfold met
        by_cases hq0 : q = 256
        · subst hq0
          obtain ⟨c, rfl⟩ : ∃ c, b = c + 1 := ⟨b - 1, by omega⟩
          obtain ⟨k3, k4⟩ := arith1 c
          rw [k3, k4, Nat.pow_succ]
          simp
          generalize (2 : Int) ^ c = p
          omega
        · obtain ⟨k3, k4⟩ := arith2 (b := b) (show 257 ≤ q by omega) q2
          rw [k3, k4]
          have : (257 + ((q - 257 : Nat) : Int)) = (q : Int) := by omega
          rw [this]
          simp [Int.mul_comm]
      rw [hm2]
      generalize 2 ^ b * q = pq at *
      omega
  · intro hn
    have hb : b = 0 := by
      rcases Nat.eq_zero_or_pos b with h | h
      · exact h
      · have : 2 ^ 1 ≤ 2 ^ b := Nat.pow_le_pow_right (by decide) h
        omega
    subst hb
    rw [hme]
    simp at *
    omega
theorem mcode_is {n : Int} (h0 : 1 ≤ n) (h1 : n ≤ 16776960) : IsCode n (mcode n) := by
  obtain ⟨c, rfl⟩ := Int.eq_ofNat_of_zero_le (show 0 ≤ n by omega)
  obtain ⟨_, _, _, _, hc, _⟩ := fast (n := c) (by omega) (by omega)
  rw [mcode_of hc]; exact hc
theorem and_mask (j : Nat) (hj : j ≤ 16) (x m : Int) (hm : m = ((2 ^ j - 1 : Nat) : Int)) : bits BinOp.and IntKind.i64 x m = x % ((2 ^ j : Nat) : Int) := by
  subst hm
  have hp : 2 ^ j ≤ 2 ^ 16 := Nat.pow_le_pow_right (by decide) hj
  have hp1 : 0 < 2 ^ j := Nat.two_pow_pos j
  have hd : 2 ^ j ∣ 2 ^ 64 := Nat.pow_dvd_pow 2 (by omega)
  show IntKind.i64.wrap ((BitVec.ofInt 64 x &&& BitVec.ofInt 64 ((2 ^ j - 1 : Nat) : Int)).toNat : Int) = _
  rw [BitVec.toNat_and, ofInt_u64 (2 ^ j - 1) (by omega), Nat.and_two_pow_sub_one_eq_mod, BitVec.toNat_ofInt, IntWalk.i64_left]
  have h1 : (((x % ((2 ^ 64 : Nat) : Int)).toNat % 2 ^ j : Nat) : Int) = x % ((2 ^ j : Nat) : Int) := by
    rw [Int.natCast_emod, Int.toNat_of_nonneg (Int.emod_nonneg _ (by decide)), Int.emod_emod_of_dvd _ (Int.natCast_dvd_natCast.2 hd)]
  rw [h1]
  have h2 := Int.emod_nonneg x (show ((2 ^ j : Nat) : Int) ≠ 0 by omega)
  have h3 := Int.emod_lt_of_pos x (show (0 : Int) < ((2 ^ j : Nat) : Int) by omega)
  unfold wrap64
  generalize x % ((2 ^ j : Nat) : Int) = y at *
  omega
theorem and_65535 (x : Int) : bits BinOp.and IntKind.i64 x 65535 = x % 65536 := and_mask 16 (by decide) x 65535 rfl
theorem and_255 (x : Int) : bits BinOp.and IntKind.i64 x 255 = x % 256 := and_mask 8 (by decide) x 255 rfl
theorem and_7 (x : Int) : bits BinOp.and IntKind.i64 x 7 = x % 8 := and_mask 3 (by decide) x 7 rfl

theorem met_wrap {c : Nat} (hc : c ≤ 4095) : wrap64 (wrap64 ((257 + (c : Int) % 256) * 2 ^ (c / 256)) - 256) = met c := by
  have h0 := met_lo c
  have h1 := met_hi hc
  have e : (257 + (c : Int) % 256) * 2 ^ (c / 256) = met c + 256 := by unfold met; simp
  rw [e]
  unfold wrap64
  omega
set_option maxHeartbeats 400000 in
theorem metricAt (c : Nat) (hc : c ≤ 4095) (w : World) : Calls Tryz.prog 282 #[.int .i64 c] w fun e w' => e = .returned (.int .i64 (met c)) ∧ w' = w := by
  go_enter Tryz.func282, Tryz.ntmps282
  go_wp2
  go_ret
  exact ⟨ret_int (met_wrap hc), rfl⟩
theorem met_wrap2 {c : Nat} (hc : c ≤ 4095) : wrap64 (wrap64 (wrap64 (257 + bits BinOp.and IntKind.i64 c 255) * 2 ^ (c / 256)) - 256) = met c := by
  have e : wrap64 (257 + bits BinOp.and IntKind.i64 c 255) = 257 + (c : Int) % 256 := by rw [and_255]; unfold wrap64; omega
  rw [e]; exact met_wrap hc
set_option maxHeartbeats 400000 in
theorem l02Metric (c : Nat) (hc : c ≤ 4095) (w : World) : Calls Tryz.prog 147 #[.int .i64 c] w fun e w' => e = .returned (.int .i64 (met c)) ∧ w' = w := by
  go_enter Tryz.func147, Tryz.ntmps147
  go_wp2
  go_ret
  exact ⟨ret_int (met_wrap2 hc), rfl⟩
set_option maxHeartbeats 400000 in
theorem leastMetric (n : Int) (h0 : 1 ≤ n) (h1 : n ≤ 16776960) (w : World) : Calls Tryz.prog 117 #[.int .i64 n] w fun e w' => e = .returned (.int .i64 (mcode n)) ∧ w' = w := by
  obtain ⟨c, rfl⟩ := Int.eq_ofNat_of_zero_le (show 0 ≤ n by omega)
  obtain ⟨l1, l2, q1, q2, hc, hx⟩ := fast (n := c) (by omega) (by omega)
  obtain ⟨b, hb⟩ : ∃ b, Lib.bitLen (c + 255) = b + 9 := ⟨_, (Nat.sub_add_cancel l1).symm⟩
  have hL : ((Lib.bitLen ((c : Int) + 256 - 1).toNat : Nat) : Int) = (b : Int) + 9 := by
    rw [show ((c : Int) + 256 - 1).toNat = c + 255 by omega, hb]; rfl
  rw [hb, Nat.add_sub_cancel] at hc q1 q2
  rw [hb] at l2
  clear hb l1 hx
  have HC := hide (mcode_of hc)
  clear hc
  have hd : ((c : Int) + 256 - 1) / 2 ^ b = (((c + 255) / 2 ^ b : Nat) : Int) := by
    rw [show (c : Int) + 256 - 1 = ((c + 255 : Nat) : Int) by omega]; simp
  generalize (c + 255) / 2 ^ b = q at *
  go_enter Tryz.func117, Tryz.ntmps117
  go_wp2_with (go_at_call 173; refine (Tryz.bits_Len ((c : Int) + 256 - 1) _ (by omega) (by omega)).mono ?_; rintro e w' ⟨rfl, rfl⟩; rw [hL])
  go_ret
  exact ⟨ret_int (by rw [unhide HC]; omega), rfl⟩
set_option maxHeartbeats 400000 in
theorem l02MetricCode (n : Int) (h0 : 1 ≤ n) (h1 : n ≤ 16776960) (w : World) : Calls Tryz.prog 148 #[.int .i64 n] w fun e w' => (∃ k : Nat, e = .returned (.int .i64 k) ∧ IsCode n k) ∧ w' = w := by
  go_enter Tryz.func148, Tryz.ntmps148
  go_wp2
  go_loop [3, 4] (fun l h => ∃ a b : Nat, l = .int .i64 a ∧ h = .int .i64 b ∧ a ≤ b ∧ b ≤ 4095 ∧ n ≤ met b ∧ (a = 0 ∨ met (a - 1) < n)) (fun l h => (intOf h - intOf l).toNat)
  case atStart => exact ⟨0, 4095, rfl, rfl, by omega, by omega, by rw [show met 4095 = 16776960 by decide]; exact h1, .inl rfl⟩
  case round =>
    obtain ⟨a, b, rfl, rfl, hab, hb, hm, ha⟩ := hrel
    have HM := hide hm
    have HA := hide ha
    clear hm ha
    by_cases hlt : a < b
    · obtain ⟨m, hm1, hm2⟩ : ∃ m : Nat, a ≤ m ∧ m < b ∧ Hid (((a : Int) + b) / 2 = m) := ⟨(a + b) / 2, by omega, by omega, hide (by omega)⟩
      obtain ⟨hm2, HQ⟩ := hm2
      by_cases hge : n ≤ met m
      · go_wp2_with (go_at_call 147; rw [unhide HQ]; refine (l02Metric m (by omega) _).mono ?_; rintro e w' ⟨rfl, rfl⟩)
        go_round
        case rel => exact ⟨a, m, rfl, rfl, by omega, by omega, hge, unhide HA⟩
        case measure => simp [intOf]; omega
      · go_wp2_with (go_at_call 147; rw [unhide HQ]; refine (l02Metric m (by omega) _).mono ?_; rintro e w' ⟨rfl, rfl⟩)
        go_round
        case rel => exact ⟨m + 1, b, by rfl, rfl, by omega, by omega, unhide HM, .inr (by rw [Nat.add_sub_cancel]; exact hge)⟩
        case measure => simp [intOf]; omega
    · have hab' : a = b := by omega
      subst hab'
      go_wp2
      go_ret
      exact ⟨⟨a, rfl, by omega, unhide HM, unhide HA⟩, rfl⟩
theorem l02MetricCodeE (n : Int) (h0 : 1 ≤ n) (h1 : n ≤ 16776960) (w : World) : Calls Tryz.prog 148 #[.int .i64 n] w fun e w' => e = .returned (.int .i64 (mcode n)) ∧ w' = w :=
  (l02MetricCode n h0 h1 w).mono fun e w' ⟨⟨k, he, hk⟩, hw⟩ => ⟨by rw [mcode_of hk]; exact he, hw⟩
end Mtr
end Go.Proofs.YtiipppfkpgbpeaaGreat
namespace Go.Proofs.YtiipppfkpgbpeaaGreat
open Go.ChangeShapes Go.WideShapes Go.ChangeAt Go.RowKit
set_option linter.unusedVariables false
namespace Tim
open W1
/-- The time of a code. -/
def tim (c : Nat) : Int := (8 + (c % 8 : Nat)) * 2 ^ (c / 8) / 8
theorem and_mask (j : Nat) (hj : j ≤ 16) (x m : Int) (hm : m = ((2 ^ j - 1 : Nat) : Int)) : bits BinOp.and IntKind.i64 x m = x % ((2 ^ j : Nat) : Int) := by
  subst hm
  have hp : 2 ^ j ≤ 2 ^ 16 := Nat.pow_le_pow_right (by decide) hj
  have hp1 : 0 < 2 ^ j := Nat.two_pow_pos j
  have hd : 2 ^ j ∣ 2 ^ 64 := Nat.pow_dvd_pow 2 (by omega)
  show IntKind.i64.wrap ((BitVec.ofInt 64 x &&& BitVec.ofInt 64 ((2 ^ j - 1 : Nat) : Int)).toNat : Int) = _
  rw [BitVec.toNat_and, ofInt_u64 (2 ^ j - 1) (by omega), Nat.and_two_pow_sub_one_eq_mod, BitVec.toNat_ofInt, IntWalk.i64_left]
  have h1 : (((x % ((2 ^ 64 : Nat) : Int)).toNat % 2 ^ j : Nat) : Int) = x % ((2 ^ j : Nat) : Int) := by
    rw [Int.natCast_emod, Int.toNat_of_nonneg (Int.emod_nonneg _ (by decide)), Int.emod_emod_of_dvd _ (Int.natCast_dvd_natCast.2 hd)]
  rw [h1]
  have h2 := Int.emod_nonneg x (show ((2 ^ j : Nat) : Int) ≠ 0 by omega)
  have h3 := Int.emod_lt_of_pos x (show (0 : Int) < ((2 ^ j : Nat) : Int) by omega)
  unfold wrap64
  generalize x % ((2 ^ j : Nat) : Int) = y at *
  omega
theorem and_7 (x : Int) : bits BinOp.and IntKind.i64 x 7 = x % 8 := and_mask 3 (by decide) x 7 rfl
theorem big {c : Nat} (hc : c ≤ 223) : wrap64 ((8 + (c : Int) % 8) * 2 ^ (c / 8)) = (8 + (c : Int) % 8) * 2 ^ (c / 8) := by
  have h1 : (2 : Int) ^ (c / 8) ≤ 134217728 := by
    have hN : (2 : Nat) ^ (c / 8) ≤ 134217728 := Nat.le_trans (Nat.pow_le_pow_right (n := 2) (by omega) (by omega : c / 8 ≤ 27)) (by decide)
    have h := Int.ofNat_le.2 hN
    rw [Int.natCast_pow] at h
    exact h
  have h0 : (0 : Int) < 2 ^ (c / 8) := Int.pow_pos (by omega)
  have h2 : (8 + (c : Int) % 8) * 2 ^ (c / 8) ≤ 15 * 2 ^ (c / 8) := Int.mul_le_mul_of_nonneg_right (by omega) (by omega)
  have h3 : 0 ≤ (8 + (c : Int) % 8) * 2 ^ (c / 8) := Int.mul_nonneg (by omega) (by omega)
  generalize (8 + (c : Int) % 8) * 2 ^ (c / 8) = x at *
  unfold wrap64
  omega
theorem tim_step (c : Nat) : tim c ≤ tim (c + 1) := by
  unfold tim
  have hp : (0 : Int) < 2 ^ (c / 8) := Int.pow_pos (by decide)
  refine Int.ediv_le_ediv (by decide) ?_
  by_cases h : c % 8 = 7
  · have h1 : (c + 1) % 8 = 0 := by omega
    have h2 : (c + 1) / 8 = c / 8 + 1 := by omega
    rw [h, h1, h2, Int.pow_succ]
    generalize (2 : Int) ^ (c / 8) = p at *
    omega
  · have h1 : (c + 1) % 8 = c % 8 + 1 := by omega
    have h2 : (c + 1) / 8 = c / 8 := by omega
    rw [h1, h2]
    exact Int.mul_le_mul_of_nonneg_right (by omega) (by omega)
theorem tim_mono {a b : Nat} (h : a ≤ b) : tim a ≤ tim b := by
  induction h with
  | refl => exact Int.le_refl _
  | step _ ih => exact Int.le_trans ih (tim_step _)
/-- k is the least code whose time is n or more. -/
def IsTime (n : Int) (k : Nat) : Prop := k ≤ 223 ∧ n ≤ tim k ∧ (k = 0 ∨ tim (k - 1) < n)
/-- The least code whose time is n or more. -/
def tcode (n : Int) : Nat := cnt tim 224 n
theorem tcode_of {n : Int} {k : Nat} (h : IsTime n k) : tcode n = k :=
  cnt_of _ _ _ _ (by have := h.1; omega) (fun c hc => by
    rcases h.2.2 with e | e
    · omega
    · have := tim_mono (show c ≤ k - 1 by omega); omega) (fun c hc _ => by have := tim_mono hc; have := h.2.1; omega)
theorem tcode_ex {n : Int} (h1 : n ≤ 251658240) : ∃ k, k ≤ 223 ∧ (∀ c, c < k → tim c < n) ∧ n ≤ tim k := by
  refine Classical.byContradiction fun hno => ?_
  have hall : ∀ k, k ≤ 224 → ∀ c, c < k → tim c < n := by
    intro k
    induction k with
    | zero => intro _ c hc; omega
    | succ k ih =>
      intro hk c hc
      have ih' := ih (by omega)
      by_cases ek : c = k
      · subst ek
        rcases Int.lt_or_le (tim c) n with hh | hh
        · exact hh
        · exact absurd ⟨c, by omega, ih', hh⟩ hno
      · exact ih' c (by omega)
  have := hall 224 (by omega) 223 (by omega)
  rw [show tim 223 = 251658240 by decide] at this
  omega
theorem tcode_is {n : Int} (h1 : n ≤ 251658240) : IsTime n (tcode n) := by
  obtain ⟨k, hk1, hk2, hk3⟩ := tcode_ex h1
  have h : IsTime n k := ⟨hk1, hk3, by
    by_cases e : k = 0
    · exact .inl e
    · exact .inr (hk2 _ (by omega))⟩
  rw [tcode_of h]; exact h
theorem tcode_lt {n : Int} (h1 : n ≤ 251658240) : tcode n ≤ 223 := (tcode_is h1).1
/-- Whether a time is exact. -/
def exTB (n : Int) : Bool := tim (tcode n) == n
/-- Whether a time may be a hello's. -/
def valB (n : Int) : Bool := inB n 1 10000 && exTB n
set_option maxHeartbeats 400000 in
theorem timeAt (c : Nat) (hc : c ≤ 223) (w : World) : Calls Tryz.prog 172 #[.int .i64 c] w fun e w' => e = .returned (.int .i64 (tim c)) ∧ w' = w := by
  go_enter Tryz.func172, Tryz.ntmps172
  go_wp2
  go_ret
  refine ⟨ret_int ?_, rfl⟩
  have := big hc
  unfold tim
  simp [this]
set_option maxHeartbeats 400000 in
theorem l02Time (c : Nat) (hc : c ≤ 223) (w : World) : Calls Tryz.prog 219 #[.int .i64 c] w fun e w' => e = .returned (.int .i64 (tim c)) ∧ w' = w := by
  go_enter Tryz.func219, Tryz.ntmps219
  go_wp2
  go_ret
  refine ⟨ret_int ?_, rfl⟩
  have e : wrap64 (8 + bits BinOp.and IntKind.i64 c 7) = 8 + (c : Int) % 8 := by rw [and_7]; unfold wrap64; omega
  rw [e]
  have := big hc
  unfold tim
  simp [this]
set_option maxHeartbeats 400000 in
theorem l02TimeCode (n : Int) (h0 : 1 ≤ n) (h1 : n ≤ 251658240) (w : World) : Calls Tryz.prog 153 #[.int .i64 n] w fun e w' => e = .returned (.int .i64 (tcode n)) ∧ w' = w := by
  go_enter Tryz.func153, Tryz.ntmps153
  go_wp2
  go_loop [3, 4] (fun l h => ∃ a b : Nat, l = .int .i64 a ∧ h = .int .i64 b ∧ a ≤ b ∧ b ≤ 223 ∧ n ≤ tim b ∧ (a = 0 ∨ tim (a - 1) < n)) (fun l h => (intOf h - intOf l).toNat)
  case atStart => exact ⟨0, 223, rfl, rfl, by omega, by omega, by rw [show tim 223 = 251658240 by decide]; exact h1, .inl rfl⟩
  case round =>
    obtain ⟨a, b, rfl, rfl, hab, hb, hm, ha⟩ := hrel
    have HM := hide hm
    have HA := hide ha
    clear hm ha
    by_cases hlt : a < b
    · obtain ⟨m, hm1, hm2⟩ : ∃ m : Nat, a ≤ m ∧ m < b ∧ Hid (((a : Int) + b) / 2 = m) := ⟨(a + b) / 2, by omega, by omega, hide (by omega)⟩
      obtain ⟨hm2, HQ⟩ := hm2
      by_cases hge : n ≤ tim m
      · go_wp2_with (go_at_call 219; rw [unhide HQ]; refine (l02Time m (by omega) _).mono ?_; rintro e w' ⟨rfl, rfl⟩)
        go_round
        case rel => exact ⟨a, m, rfl, rfl, by omega, by omega, hge, unhide HA⟩
        case measure => simp [intOf]; omega
      · go_wp2_with (go_at_call 219; rw [unhide HQ]; refine (l02Time m (by omega) _).mono ?_; rintro e w' ⟨rfl, rfl⟩)
        go_round
        case rel => exact ⟨m + 1, b, by rfl, rfl, by omega, by omega, unhide HM, .inr (by rw [Nat.add_sub_cancel]; exact hge)⟩
        case measure => simp [intOf]; omega
    · have hab' : a = b := by omega
      subst hab'
      have HT : Hid (IsTime n a) := hide ⟨by omega, unhide HM, unhide HA⟩
      go_wp2
      go_ret
      have e := tcode_of (unhide HT)
      exact ⟨ret_int (by rw [e]), rfl⟩
theorem below_drewN {B : Nat} {w w' : World} (h : Below B w w') (q : Nat) : Below B w (w'.drewN q) := ⟨h.os, h.tape, h.output, h.size, h.block⟩
set_option maxHeartbeats 400000 in
theorem cloT (i : Nat) (hi : i ≤ 223) (n : Int) (b : Nat) (w : World) (hc : w.cell? ⟨b, 0, none⟩ = some (.int .i64 n)) :
    Calls Tryz.prog 171 #[.int .i64 i, .pointer (some ⟨b, 0, none⟩)] w fun e w' => e = .returned (.bool (decide (n ≤ tim i))) ∧ Below w.heap.size w w' := by
  by_cases h : n ≤ tim i
  all_goals
    go_enter Tryz.func171, Tryz.ntmps171
    go_wp2_with fail
    go_quiet ((go_at_call 172; exact Calls.quiet_of_same (timeAt i hi _)))
    go_wp2_with fail
    go_ret
    exact ⟨ret_bool (by simp [h]), below_drewN (Below.refl _ _) _⟩
set_option maxHeartbeats 1000000 in
theorem search (b : Nat) (n : Int) (h1 : n ≤ tim 223) (w : World) (hb : w.cell? ⟨b, 0, none⟩ = some (.int .i64 n)) :
    Calls Tryz.prog 170 #[.int .i64 224, .func (.func 171) #[] #[.pointer (some ⟨b, 0, none⟩)]] w fun e w' => e = .returned (.int .i64 (tcode n)) ∧ Below w.heap.size w w' := by
  have HB := hide hb
  have hblt := World.block_lt_of_cell? _ _ hb
  clear hb
  have H1 := hide h1
  clear h1
  go_enter Tryz.func170, Tryz.ntmps170
  go_wp2
  go_loopw [5, 6] (fun lo hi wr => ∃ low high : Nat, low ≤ high ∧ high ≤ 224 ∧ lo = .int .i64 low ∧ hi = .int .i64 high ∧ Hid (∀ i, i < low → tim i < n) ∧ Hid (∀ i, high ≤ i → i < 224 → n ≤ tim i) ∧ Hid (Below w.heap.size w wr)) (fun lo hi _ => (intOf hi - intOf lo).toNat)
  case atStart => exact ⟨0, 224, by omega, by omega, rfl, rfl, hide (fun i hi => by omega), hide (fun i hi h2 => by omega), hide (Below.refl _ _)⟩
  case round =>
    obtain ⟨low, high, hlh, hhn, rfl, rfl, h1, h2, hbl⟩ := hrel
    by_cases hlt : (low : Int) < (high : Int)
    · obtain ⟨mid, hmid⟩ : ∃ mid : Nat, mid = (low + high) / 2 := ⟨_, rfl⟩
      have hm1 : low ≤ mid := by omega
      have hm2 : mid < high := by omega
      have em : ((low : Int) + (high : Int)) / 2 = (mid : Int) := by omega
      have HC := hide ((unhide hbl).cell (p := ⟨b, 0, none⟩) hblt)
      clear hmid
      go_wp2_with fail
      refine (cloT mid (by omega) n b _ ((unhide HC).trans (unhide HB))).mono ?_
      rintro e w1 ⟨rfl, b1⟩
      have hb1 := hide ((unhide hbl).trans (b1.mono (unhide hbl).size))
      clear b1
      by_cases hp : n ≤ tim mid
      · have HST : Hid (∀ i, mid ≤ i → i < 224 → n ≤ tim i) := hide (fun i hi _ => Int.le_trans hp (tim_mono hi))
        rw [decide_eq_true hp]
        go_wp2_with fail
        exact ⟨⟨low, mid, by omega, by omega, rfl, rfl, h1, HST, hb1⟩, by simp [intOf]; omega⟩
      · have HST : Hid (∀ i, i < mid + 1 → tim i < n) := hide (fun i hi => by have := tim_mono (show i ≤ mid by omega); omega)
        rw [decide_eq_false hp]
        go_wp2_with fail
        exact ⟨⟨mid + 1, high, by omega, by omega, by go_num, rfl, HST, h2, hb1⟩, by simp [intOf]; omega⟩
    · obtain rfl : low = high := by omega
      have HT : Hid (tcode n = low) := hide (cnt_of _ _ _ _ hhn (unhide h1) (unhide h2))
      go_wp2_with fail
      go_ret
      exact ⟨ret_int (by rw [unhide HT]), unhide hbl⟩
set_option maxHeartbeats 400000 in
theorem leastTime (n : Int) (h1 : n ≤ 251658240) (w : World) :
    Calls Tryz.prog 114 #[.int .i64 n] w fun e w' => e = .returned (.int .i64 (tcode n)) ∧ Below w.heap.size w w' := by
  go_enter Tryz.func114, Tryz.ntmps114
  go_wp2_with fail
  refine (search w.heap.size n (by rw [show tim 223 = 251658240 by decide]; exact h1) _ (by simp [World.cell?_alloc_new])).mono ?_
  rintro e w1 ⟨rfl, b1⟩
  go_wp2_with fail
  go_ret
  exact ⟨rfl, ((Below.refl _ _).alloc (Nat.le_refl _) _).trans (b1.mono (by simp))⟩
set_option maxHeartbeats 400000 in
theorem isExactTime (n : Int) (h1 : n ≤ 251658240) (w : World) :
    Calls Tryz.prog 226 #[.int .i64 n] w fun e w' => e = .returned (.bool (exTB n)) ∧ Below w.heap.size w w' := by
  have hlt := tcode_lt h1
  have hlt' : ((tcode n : Nat) : Int) < 224 := by omega
  cases hx : tim (tcode n) == n
  all_goals
    have HX := hide hx
    go_enter Tryz.func226, Tryz.ntmps226
    go_wp2_with fail
    refine (leastTime n h1 _).mono ?_
    rintro e w1 ⟨rfl, b1⟩
    have B1 := hide b1
    clear b1
    generalize hk : tcode n = k at *
    have HK := hide hk
    clear hk
    go_wp2_with (go_at_call 172; refine (timeAt k hlt _).mono ?_; rintro e w' ⟨rfl, rfl⟩)
    go_ret
    exact ⟨ret_bool (by unfold exTB; rw [unhide HK, unhide HX]), unhide B1⟩
set_option maxHeartbeats 400000 in
theorem isValid (n : Int) (w : World) : Calls Tryz.prog 165 #[.int .i64 n] w fun e w' => e = .returned (.bool (valB n)) ∧ Below w.heap.size w w' := by
  cases h : inB n 1 10000
  · go_enter Tryz.func165, Tryz.ntmps165
    go_wp2_with (go_at_call 99; refine (within _ _ _ _).mono ?_; rintro e w' ⟨rfl, rfl⟩)
    go_ret
    exact ⟨ret_bool (by simp [valB, h]), Below.refl _ _⟩
  · have h0 : 1 ≤ n ∧ n ≤ 10000 := by simpa [inB] using h
    have HH := hide h
    go_enter Tryz.func165, Tryz.ntmps165
    go_wp2_with (first | (go_at_call 99; refine (within _ _ _ _).mono ?_; rintro e w' ⟨rfl, rfl⟩) | (go_at_call 226; refine (isExactTime n (by omega) _).mono ?_; rintro e w' ⟨rfl, b1⟩))
    go_ret
    exact ⟨ret_bool (by simp [valB, unhide HH]), b1⟩
end Tim
end Go.Proofs.YtiipppfkpgbpeaaGreat
namespace Go.Proofs.YtiipppfkpgbpeaaGreat
open Go.ChangeShapes Go.WideShapes Go.ChangeAt Go.RowKit
set_option linter.unusedVariables false
set_option linter.unusedSimpArgs false
attribute [local go_sem ↓] Go.wp_at_zero Go.wp_at_succ
namespace Av
open W1 Ed
/-- A metric that has a code of its own. -/
def exM (n : Int) : Bool := Mtr.met (Mtr.mcode n) == n
def toldB (n : Int) : Bool := inB n 1 16744192 && exM n
def okN (m : R) : Bool := inB m.ad 1 8 && toldB m.mt
abbrev allN (ms : List R) (j : Nat) : Bool := Ri.all R.zero okN R.ad ms j
/-- Whether an advertisement is right. -/
def tcB (ansn valid : Int) (ms : List R) : Bool := inB ansn 0 65535 && (Tim.valB valid && allN ms ms.length)
theorem ok_ad {m : R} (h : okN m = true) : 1 ≤ m.ad ∧ m.ad ≤ 8 := by
  unfold okN inB at h; simp at h; exact h.1
theorem all_len {ms : List R} (h : allN ms ms.length = true) : ms.length ≤ 8 := by
  have := Ri.all_long (lo := 1) (hi := 8) (fun m hm => ok_ad hm) h; omega
theorem tc_all {ansn valid : Int} {ms : List R} (h : tcB ansn valid ms = true) : allN ms ms.length = true := by
  unfold tcB at h; simp at h; exact h.2.2
set_option maxHeartbeats 400000 in
theorem isTold (n : Int) (w : World) : Calls Tryz.prog 221 #[.int .i64 n] w fun e w' => e = .returned (.bool (toldB n)) ∧ w' = w := by
  cases h : inB n 1 16744192
  · go_enter Tryz.func221, Tryz.ntmps221
    go_wp2_with (go_at_call 99; refine (within _ _ _ _).mono ?_; rintro e w' ⟨rfl, rfl⟩)
    go_ret
    exact ⟨ret_bool (by simp [toldB, h]), rfl⟩
  · have h0 : 1 ≤ n ∧ n ≤ 16744192 := by simpa [inB] using h
    have HH := hide h
    have hk := (Mtr.mcode_is (n := n) (by omega) (by omega)).1
    have E : Hid (toldB n = (Mtr.met (Mtr.mcode n) == n)) := hide (by unfold toldB exM; rw [h]; rfl)
    generalize hq : Mtr.mcode n = k at *
    have HQ := hide hq
    clear hq
    cases hx : Mtr.met k == n
    all_goals
      go_enter Tryz.func221, Tryz.ntmps221
      go_wp2_with (first | (go_at_call 99; refine (within _ _ _ _).mono ?_; rintro e w' ⟨rfl, rfl⟩) | (go_at_call 117; refine (Mtr.leastMetric n (by omega) (by omega) _).mono ?_; rintro e w' ⟨rfl, rfl⟩; rw [unhide HQ]) | (go_at_call 282; refine (Mtr.metricAt k hk _).mono ?_; rintro e w' ⟨rfl, rfl⟩))
      go_ret
      exact ⟨ret_bool (by rw [unhide E, hx]), rfl⟩
set_option maxHeartbeats 1000000 in
theorem isEdge (ad mt : Int) (w : World) :
    Calls Tryz.prog 166 #[.agg #[.int .i64 ad, .int .i64 mt]] w fun e w' => e = .returned (.bool (okN ⟨ad, mt⟩)) ∧ Below w.heap.size w w' := by
  have E : Hid (okN ⟨ad, mt⟩ = (inB ad 1 8 && toldB mt)) := hide rfl
  cases h1 : inB ad 1 8
  rotate_left
  cases h3 : toldB mt
  all_goals
    go_enter Tryz.func166, Tryz.ntmps166
    go_wp2_with (first | (go_at_call 96; refine (isAddress _ _).mono ?_; rintro e w' ⟨rfl, rfl⟩) | (go_at_call 221; refine (isTold _ _).mono ?_; rintro e w' ⟨rfl, rfl⟩))
    go_ret
    exact ⟨ret_bool (by rw [unhide E]; simp [*]), (Below.refl _ _).alloc (Nat.le_refl _) _⟩
set_option maxHeartbeats 400000 in
theorem l04Ex (n : Int) (h0 : 1 ≤ n) (h1 : n ≤ 16744192) (w : World) : Calls Tryz.prog 83 #[.int .i64 n] w fun e w' => e = .returned (.bool (exM n)) ∧ w' = w := by
  have hk := (Mtr.mcode_is (n := n) (by omega) (by omega)).1
  have E : Hid (exM n = (Mtr.met (Mtr.mcode n) == n)) := hide rfl
  generalize hq : Mtr.mcode n = k at *
  have HQ := hide hq
  clear hq
  cases hx : Mtr.met k == n
  all_goals
    go_enter Tryz.func83, Tryz.ntmps83
    go_wp2_with (first | (go_at_call 148; refine (Mtr.l02MetricCodeE n (by omega) (by omega) _).mono ?_; rintro e w' ⟨rfl, rfl⟩; rw [unhide HQ]) | (go_at_call 147; refine (Mtr.l02Metric k hk _).mono ?_; rintro e w' ⟨rfl, rfl⟩))
    go_ret
    exact ⟨ret_bool (by rw [unhide E, hx]), rfl⟩
end Av
end Go.Proofs.YtiipppfkpgbpeaaGreat
namespace Go.Proofs.YtiipppfkpgbpeaaGreat
open Go.ChangeShapes Go.WideShapes Go.ChangeAt Go.RowKit
set_option linter.unusedVariables false
set_option linter.unusedSimpArgs false
attribute [local go_sem ↓] Go.wp_at_zero Go.wp_at_succ
namespace Av
open W1 Ed
/-- An edge in a variable's block. -/
def Bx (w : World) (b : Nat) (m : R) : Prop := w.cell? ⟨b, 0, none⟩ = some (.int .i64 m.ad) ∧ w.cell? ⟨b, 1, none⟩ = some (.int .i64 m.mt)
theorem Bx.below {w w' : World} {b : Nat} {m : R} (h : Bx w b m) (hb : Below w.heap.size w w') : Bx w' b m := by
  have hg : b < w.heap.size := World.block_lt_of_cell? _ _ h.1
  obtain ⟨h0, h1⟩ := h
  refine ⟨?_, ?_⟩ <;> (rw [hb.cell hg]; assumption)
theorem Bx.drew {w : World} {b : Nat} {m : R} (h : Bx w b m) : Bx w.drew b m := h
theorem bx_new (w : World) (m : R) (t : Nat) : Bx (w.alloc (.cells #[.int .i64 m.ad, .int .i64 m.mt] t)) w.heap.size m := by
  refine ⟨?_, ?_⟩ <;> simp [World.cell?_alloc_new]
theorem sBox {w : World} {b : Nat} {ad mt : Int} (h : Bx w b ⟨ad, mt⟩) : Bx w b ⟨ad, mt⟩ ∧ w.cell? ⟨b, 0, none⟩ = some (.int .i64 ad) ∧ w.cell? ⟨b, 1, none⟩ = some (.int .i64 mt) := ⟨h, h⟩
theorem sBox2 {w : World} {b g p B : Nat} {m : R} {ad mt will valid : Int} {v : Value} (h : Bx w b ⟨ad, mt⟩) (h' : At w g p m) (hB : Bx3 w B will valid v) :
    (Bx w b ⟨ad, mt⟩ ∧ At w g p m ∧ Bx3 w B will valid v) ∧ w.cell? ⟨b, 0, none⟩ = some (.int .i64 ad) ∧ w.cell? ⟨b, 1, none⟩ = some (.int .i64 mt) ∧ w.cell? ⟨g, p, none⟩ = some (.int .i64 m.ad) ∧ w.cell? ⟨B, 2, none⟩ = some v := ⟨⟨h, h', hB⟩, h.1, h.2, h'.1, hB.2.2⟩
set_option maxRecDepth 100000 in
set_option maxHeartbeats 4000000 in
theorem implOK (will valid : Int) (a : Option Addr) (ms : List R) (cap : Nat) (w : World) (hm : ms.length ≤ 1048576) (hr : RM w a ms) :
    Calls Tryz.prog 105 #[.agg #[.int .i64 will, .int .i64 valid, .slice a ms.length cap]] w fun e w' => e = .returned (.bool (tcB will valid ms)) ∧ Below w.heap.size w w' := by
  cases h1 : inB will 0 65535
  · have HF := hide (show tcB will valid ms = false by unfold tcB; rw [h1]; rfl)
    go_enter Tryz.func105, Tryz.ntmps105
    go_wp2_with (go_at_call 98; refine (isSeq _ _).mono ?_; rintro e w' ⟨rfl, rfl⟩)
    go_ret
    exact ⟨ret_bool (unhide HF).symm, (Below.refl _ _).alloc (Nat.le_refl _) _⟩
  cases h2 : Tim.valB valid
  · have HF := hide (show tcB will valid ms = false by unfold tcB; rw [h1, h2]; rfl)
    go_enter Tryz.func105, Tryz.ntmps105
    go_wp2_with (go_at_call 98; refine (isSeq _ _).mono ?_; rintro e w' ⟨rfl, rfl⟩)
    refine (Tim.isValid valid _).mono ?_
    rintro e w1 ⟨rfl, b1⟩
    have HB1 : Hid (Below w.heap.size w w1) := hide (((Below.refl _ _).alloc (Nat.le_refl _) _).trans (b1.mono (by simp)))
    clear b1
    go_wp2_with fail
    go_ret
    exact ⟨ret_bool (unhide HF).symm, unhide HB1⟩
  have HT : Hid (allN ms ms.length = true → tcB will valid ms = true) := hide (fun h => by unfold tcB; rw [h1, h2, h]; rfl)
  have HF : Hid (allN ms ms.length = false → tcB will valid ms = false) := hide (fun h => by unfold tcB; rw [h1, h2, h]; rfl)
  have HR := hide hr
  clear hr
  generalize hN : ms.length = n at *
  have HN := hide hN
  clear hN
  go_enter Tryz.func105, Tryz.ntmps105
  go_wp2_with (go_at_call 98; refine (isSeq _ _).mono ?_; rintro e w' ⟨rfl, rfl⟩)
  refine (Tim.isValid valid _).mono ?_
  rintro e w1 ⟨rfl, b1⟩
  have HB1 : Hid (Below w.heap.size w w1) := hide (((Below.refl _ _).alloc (Nat.le_refl _) _).trans (b1.mono (by simp)))
  have HX1 := hide ((bx3_new w will valid (.slice a n cap) 59).below b1)
  have hbx := (unhide HX1).2.2
  have HR1 := hide ((unhide HR).below (unhide HB1))
  clear b1 HR
  go_wp2
  clear hbx
  go_loopw [18] (fun i wr => ∃ j : Nat, j ≤ n ∧ i = .int .i64 j ∧ Hid (allN ms j = true) ∧ Hid (Below w1.heap.size w1 wr)) (fun i _ => n - (intOf i).toNat)
  case atStart => exact ⟨0, by omega, rfl, hide Ri.all_zero, hide (Below.refl _ _)⟩
  case round =>
    obtain ⟨j, hj, rfl, hrl, hbl⟩ := hrel
    by_cases hlt : (j : Int) < (n : Int)
    · have k0 : (0 : Int) ≤ (j : Int) := by omega
      have hlen : j < ms.length := by rw [unhide HN]; omega
      have HX := hide ((unhide HX1).below (unhide hbl))
      rcases (unhide HR1).below (by exact (unhide hbl)) with e0 | ⟨g, off, rfl, hc⟩
      · exfalso; rw [e0] at hlen; simp at hlen
      have HL := hide hlen
      have hA := hc j hlen
      have hsz := (unhide hbl).size
      have HBX := hide (bx_new wr (ms.getD j R.zero) 141)
      have HBL := hide ((unhide hbl).alloc hsz (.cells #[.int .i64 (ms.getD j R.zero).ad, .int .i64 (ms.getD j R.zero).mt] 141))
      have HXA := hide ((unhide HX).below ((Below.refl _ _).alloc (Nat.le_refl _) (.cells #[.int .i64 (ms.getD j R.zero).ad, .int .i64 (ms.getD j R.zero).mt] 141)))
      clear HX
      cases hk : okN (ms.getD j R.zero)
      · clear hc
        have HST := hide (unhide HF (by have := Ri.all_no hlen (Ri.step_bad (key := R.ad) hk); exact (unhide HN) ▸ this))
        have HK := hide hk
        clear hk
        generalize ms.getD j R.zero = m at *
        obtain ⟨ad, mt⟩ := m
        obtain ⟨c0, c1⟩ := hA
        dsimp only at c0 c1
        go_wp2_with fail
        generalize hW : wr.alloc (.cells #[.int .i64 ad, .int .i64 mt] 141) = W0 at *
        clear hW
        refine wp_region_noPanic ?_
        refine wp_region_held_drew (S := fun w' => Bx w' wr.heap.size ⟨ad, mt⟩ ∧ w'.cell? ⟨wr.heap.size, 0, none⟩ = some (.int .i64 ad) ∧ w'.cell? ⟨wr.heap.size, 1, none⟩ = some (.int .i64 mt)) (by kernel_rfl) (sBox (unhide HBX).drew) (fun hHeld => ?_)
        (refine Rg.tk (i := 0) (d := 23) (v := ?_) rfl rfl (by kernel_rfl) (by kernel_rfl) (by kernel_rfl) (fun _ _ _ h => h) (by rfl) ?_ (by assumption) ?_; rotate_left; (focus (intro w0 hSw; (try dsimp only at hSw); go_simp; (try with_reducible rfl))); (try simp only [Act.put, List.setIfInBounds_toArray, List.set_cons_zero, List.set_cons_succ]))
        (refine wpAnyH_ready (rs := [1]) (by kernel_rfl) (by simp) ?_; refine AllReadyH.cons (o := _) rfl (fun K hK => ?_) AllReadyH.nil; go_simp)
        refine (isEdge ad mt _).mono ?_
        rintro e w2 ⟨rfl, b2⟩
        rw [unhide HK]
        refine hK.out _ _ (sBox ((unhide HBX).drew.below b2)) (fun hHeld => ?_)
        clear hK K
        (try simp only [Act.put, List.setIfInBounds_toArray, List.set_cons_zero, List.set_cons_succ])
        (refine Rg.tk (i := 2) (d := 25) (v := ?_) rfl rfl (by kernel_rfl) (by kernel_rfl) (by kernel_rfl) (fun _ _ _ h => h) (by rfl) ?_ (by assumption) ?_; rotate_left; (focus (intro w0 hSw; (try dsimp only at hSw); go_simp; (try with_reducible rfl))); (try simp only [Act.put, List.setIfInBounds_toArray, List.set_cons_zero, List.set_cons_succ]))
        (refine Rg.tk (i := 3) (d := 26) (v := ?_) rfl rfl (by kernel_rfl) (by kernel_rfl) (by kernel_rfl) (fun _ _ _ h => h) (by rfl) ?_ (by assumption) ?_; rotate_left; (focus (intro w0 hSw; (try dsimp only at hSw); go_simp; (try with_reducible rfl))); (try simp only [Act.put, List.setIfInBounds_toArray, List.set_cons_zero, List.set_cons_succ]))
        (refine Rg.sk (i := 4) (d := 27) rfl rfl (by kernel_rfl) (by kernel_rfl) (by kernel_rfl) (fun _ _ _ h => h) (by first | kernel_rfl | rfl) (by assumption) ?_; (try simp only [Act.put, List.setIfInBounds_toArray, List.set_cons_zero, List.set_cons_succ]))
        (refine Rg.sk (i := 5) (d := 28) rfl rfl (by kernel_rfl) (by kernel_rfl) (by kernel_rfl) (fun _ _ _ h => h) (by first | kernel_rfl | rfl) (by assumption) ?_; (try simp only [Act.put, List.setIfInBounds_toArray, List.set_cons_zero, List.set_cons_succ]))
        (refine Rg.sk (i := 6) (d := 29) rfl rfl (by kernel_rfl) (by kernel_rfl) (by kernel_rfl) (fun _ _ _ h => h) (by first | kernel_rfl | rfl) (by assumption) ?_; (try simp only [Act.put, List.setIfInBounds_toArray, List.set_cons_zero, List.set_cons_succ]))
        (refine Rg.sk (i := 7) (d := 30) rfl rfl (by kernel_rfl) (by kernel_rfl) (by kernel_rfl) (fun _ _ _ h => h) (by first | kernel_rfl | rfl) (by assumption) ?_; (try simp only [Act.put, List.setIfInBounds_toArray, List.set_cons_zero, List.set_cons_succ]))
        (refine Rg.sk (i := 8) (d := 31) rfl rfl (by kernel_rfl) (by kernel_rfl) (by kernel_rfl) (fun _ _ _ h => h) (by first | kernel_rfl | rfl) (by assumption) ?_; (try simp only [Act.put, List.setIfInBounds_toArray, List.set_cons_zero, List.set_cons_succ]))
        (refine Rg.sk (i := 9) (d := 32) rfl rfl (by kernel_rfl) (by kernel_rfl) (by kernel_rfl) (fun _ _ _ h => h) (by first | kernel_rfl | rfl) (by assumption) ?_; (try simp only [Act.put, List.setIfInBounds_toArray, List.set_cons_zero, List.set_cons_succ]))
        (refine Rg.sk (i := 10) (d := 33) rfl rfl (by kernel_rfl) (by kernel_rfl) (by kernel_rfl) (fun _ _ _ h => h) (by first | kernel_rfl | rfl) (by assumption) ?_; (try simp only [Act.put, List.setIfInBounds_toArray, List.set_cons_zero, List.set_cons_succ]))
        (refine Rg.sk (i := 11) (d := 34) rfl rfl (by kernel_rfl) (by kernel_rfl) (by kernel_rfl) (fun _ _ _ h => h) (by first | kernel_rfl | rfl) (by assumption) ?_; (try simp only [Act.put, List.setIfInBounds_toArray, List.set_cons_zero, List.set_cons_succ]))
        (refine Rg.sk (i := 12) (d := 35) rfl rfl (by kernel_rfl) (by kernel_rfl) (by kernel_rfl) (fun _ _ _ h => h) (by first | kernel_rfl | rfl) (by assumption) ?_; (try simp only [Act.put, List.setIfInBounds_toArray, List.set_cons_zero, List.set_cons_succ]))
        (refine Rg.sk (i := 13) (d := 36) rfl rfl (by kernel_rfl) (by kernel_rfl) (by kernel_rfl) (fun _ _ _ h => h) (by first | kernel_rfl | rfl) (by assumption) ?_; (try simp only [Act.put, List.setIfInBounds_toArray, List.set_cons_zero, List.set_cons_succ]))
        (refine Rg.sk (i := 14) (d := 37) rfl rfl (by kernel_rfl) (by kernel_rfl) (by kernel_rfl) (fun _ _ _ h => h) (by first | kernel_rfl | rfl) (by assumption) ?_; (try simp only [Act.put, List.setIfInBounds_toArray, List.set_cons_zero, List.set_cons_succ]))
        (refine Rg.sk (i := 15) (d := 38) rfl rfl (by kernel_rfl) (by kernel_rfl) (by kernel_rfl) (fun _ _ _ h => h) (by first | kernel_rfl | rfl) (by assumption) ?_; (try simp only [Act.put, List.setIfInBounds_toArray, List.set_cons_zero, List.set_cons_succ]))
        (refine Rg.sk (i := 16) (d := 39) rfl rfl (by kernel_rfl) (by kernel_rfl) (by kernel_rfl) (fun _ _ _ h => h) (by first | kernel_rfl | rfl) (by assumption) ?_; (try simp only [Act.put, List.setIfInBounds_toArray, List.set_cons_zero, List.set_cons_succ]))
        (refine Rg.sk (i := 17) (d := 40) rfl rfl (by kernel_rfl) (by kernel_rfl) (by kernel_rfl) (fun _ _ _ h => h) (by first | kernel_rfl | rfl) (by assumption) ?_; (try simp only [Act.put, List.setIfInBounds_toArray, List.set_cons_zero, List.set_cons_succ]))
        (refine Rg.tk (i := 18) (d := 41) (v := ?_) rfl rfl (by kernel_rfl) (by kernel_rfl) (by kernel_rfl) (fun _ _ _ h => h) (by rfl) ?_ (by assumption) ?_; rotate_left; (focus (intro w0 hSw; (try dsimp only at hSw); go_simp; (try with_reducible rfl))); (try simp only [Act.put, List.setIfInBounds_toArray, List.set_cons_zero, List.set_cons_succ]))
        refine wpAnyH_done (by kernel_rfl) (NoPanic.normal ?_) _
        have hb1 := hide ((unhide HB1).trans (((unhide HBL).drew.trans (b2.mono (by show w1.heap.size ≤ W0.heap.size; exact (unhide HBL).size))).mono (unhide HB1).size))
        go_wp2_with fail
        go_ret
        exact ⟨ret_bool (unhide HST).symm, unhide hb1⟩
      have HK := hide hk
      clear hk
      by_cases hj0 : j = 0
      · subst hj0
        clear hc
        rw [Nat.zero_mul, Nat.add_zero] at hA
        have HST := hide (Ri.all_succ (unhide hrl) (Ri.step_zero (key := R.ad) (unhide HK)))
        generalize ms.getD 0 R.zero = m at *
        obtain ⟨ad, mt⟩ := m
        obtain ⟨c0, c1⟩ := hA
        dsimp only at c0 c1
        go_wp2_with fail
        generalize hW : wr.alloc (.cells #[.int .i64 ad, .int .i64 mt] 141) = W0 at *
        clear hW
        refine wp_region_noPanic ?_
        refine wp_region_held_drew (S := fun w' => Bx w' wr.heap.size ⟨ad, mt⟩ ∧ w'.cell? ⟨wr.heap.size, 0, none⟩ = some (.int .i64 ad) ∧ w'.cell? ⟨wr.heap.size, 1, none⟩ = some (.int .i64 mt)) (by kernel_rfl) (sBox (unhide HBX).drew) (fun hHeld => ?_)
        (refine Rg.tk (i := 0) (d := 23) (v := ?_) rfl rfl (by kernel_rfl) (by kernel_rfl) (by kernel_rfl) (fun _ _ _ h => h) (by rfl) ?_ (by assumption) ?_; rotate_left; (focus (intro w0 hSw; (try dsimp only at hSw); go_simp; (try with_reducible rfl))); (try simp only [Act.put, List.setIfInBounds_toArray, List.set_cons_zero, List.set_cons_succ]))
        (refine wpAnyH_ready (rs := [1]) (by kernel_rfl) (by simp) ?_; refine AllReadyH.cons (o := _) rfl (fun K hK => ?_) AllReadyH.nil; go_simp)
        refine (isEdge ad mt _).mono ?_
        rintro e w2 ⟨rfl, b2⟩
        rw [unhide HK]
        refine hK.out _ _ (sBox ((unhide HBX).drew.below b2)) (fun hHeld => ?_)
        clear hK K
        (try simp only [Act.put, List.setIfInBounds_toArray, List.set_cons_zero, List.set_cons_succ])
        (refine Rg.tk (i := 2) (d := 25) (v := ?_) rfl rfl (by kernel_rfl) (by kernel_rfl) (by kernel_rfl) (fun _ _ _ h => h) (by rfl) ?_ (by assumption) ?_; rotate_left; (focus (intro w0 hSw; (try dsimp only at hSw); go_simp; (try with_reducible rfl))); (try simp only [Act.put, List.setIfInBounds_toArray, List.set_cons_zero, List.set_cons_succ]))
        (refine Rg.tk (i := 3) (d := 26) (v := ?_) rfl rfl (by kernel_rfl) (by kernel_rfl) (by kernel_rfl) (fun _ _ _ h => h) (by rfl) ?_ (by assumption) ?_; rotate_left; (focus (intro w0 hSw; (try dsimp only at hSw); go_simp; (try with_reducible rfl))); (try simp only [Act.put, List.setIfInBounds_toArray, List.set_cons_zero, List.set_cons_succ]))
        (refine Rg.tk (i := 4) (d := 27) (v := ?_) rfl rfl (by kernel_rfl) (by kernel_rfl) (by kernel_rfl) (fun _ _ _ h => h) (by rfl) ?_ (by assumption) ?_; rotate_left; (focus (intro w0 hSw; (try dsimp only at hSw); go_simp; (try with_reducible rfl))); (try simp only [Act.put, List.setIfInBounds_toArray, List.set_cons_zero, List.set_cons_succ]))
        (refine Rg.tk (i := 5) (d := 28) (v := ?_) rfl rfl (by kernel_rfl) (by kernel_rfl) (by kernel_rfl) (fun _ _ _ h => h) (by rfl) ?_ (by assumption) ?_; rotate_left; (focus (intro w0 hSw; (try dsimp only at hSw); go_simp; (try with_reducible rfl))); (try simp only [Act.put, List.setIfInBounds_toArray, List.set_cons_zero, List.set_cons_succ]))
        (refine Rg.tk (i := 6) (d := 29) (v := ?_) rfl rfl (by kernel_rfl) (by kernel_rfl) (by kernel_rfl) (fun _ _ _ h => h) (by rfl) ?_ (by assumption) ?_; rotate_left; (focus (intro w0 hSw; (try dsimp only at hSw); go_simp; (try with_reducible rfl))); (try simp only [Act.put, List.setIfInBounds_toArray, List.set_cons_zero, List.set_cons_succ]))
        (refine Rg.sk (i := 7) (d := 30) rfl rfl (by kernel_rfl) (by kernel_rfl) (by kernel_rfl) (fun _ _ _ h => h) (by first | kernel_rfl | rfl) (by assumption) ?_; (try simp only [Act.put, List.setIfInBounds_toArray, List.set_cons_zero, List.set_cons_succ]))
        (refine Rg.sk (i := 8) (d := 31) rfl rfl (by kernel_rfl) (by kernel_rfl) (by kernel_rfl) (fun _ _ _ h => h) (by first | kernel_rfl | rfl) (by assumption) ?_; (try simp only [Act.put, List.setIfInBounds_toArray, List.set_cons_zero, List.set_cons_succ]))
        (refine Rg.sk (i := 9) (d := 32) rfl rfl (by kernel_rfl) (by kernel_rfl) (by kernel_rfl) (fun _ _ _ h => h) (by first | kernel_rfl | rfl) (by assumption) ?_; (try simp only [Act.put, List.setIfInBounds_toArray, List.set_cons_zero, List.set_cons_succ]))
        (refine Rg.sk (i := 10) (d := 33) rfl rfl (by kernel_rfl) (by kernel_rfl) (by kernel_rfl) (fun _ _ _ h => h) (by first | kernel_rfl | rfl) (by assumption) ?_; (try simp only [Act.put, List.setIfInBounds_toArray, List.set_cons_zero, List.set_cons_succ]))
        (refine Rg.sk (i := 11) (d := 34) rfl rfl (by kernel_rfl) (by kernel_rfl) (by kernel_rfl) (fun _ _ _ h => h) (by first | kernel_rfl | rfl) (by assumption) ?_; (try simp only [Act.put, List.setIfInBounds_toArray, List.set_cons_zero, List.set_cons_succ]))
        (refine Rg.sk (i := 12) (d := 35) rfl rfl (by kernel_rfl) (by kernel_rfl) (by kernel_rfl) (fun _ _ _ h => h) (by first | kernel_rfl | rfl) (by assumption) ?_; (try simp only [Act.put, List.setIfInBounds_toArray, List.set_cons_zero, List.set_cons_succ]))
        (refine Rg.sk (i := 13) (d := 36) rfl rfl (by kernel_rfl) (by kernel_rfl) (by kernel_rfl) (fun _ _ _ h => h) (by first | kernel_rfl | rfl) (by assumption) ?_; (try simp only [Act.put, List.setIfInBounds_toArray, List.set_cons_zero, List.set_cons_succ]))
        (refine Rg.sk (i := 14) (d := 37) rfl rfl (by kernel_rfl) (by kernel_rfl) (by kernel_rfl) (fun _ _ _ h => h) (by first | kernel_rfl | rfl) (by assumption) ?_; (try simp only [Act.put, List.setIfInBounds_toArray, List.set_cons_zero, List.set_cons_succ]))
        (refine Rg.sk (i := 15) (d := 38) rfl rfl (by kernel_rfl) (by kernel_rfl) (by kernel_rfl) (fun _ _ _ h => h) (by first | kernel_rfl | rfl) (by assumption) ?_; (try simp only [Act.put, List.setIfInBounds_toArray, List.set_cons_zero, List.set_cons_succ]))
        (refine Rg.sk (i := 16) (d := 39) rfl rfl (by kernel_rfl) (by kernel_rfl) (by kernel_rfl) (fun _ _ _ h => h) (by first | kernel_rfl | rfl) (by assumption) ?_; (try simp only [Act.put, List.setIfInBounds_toArray, List.set_cons_zero, List.set_cons_succ]))
        (refine Rg.tk (i := 17) (d := 40) (v := ?_) rfl rfl (by kernel_rfl) (by kernel_rfl) (by kernel_rfl) (fun _ _ _ h => h) (by rfl) ?_ (by assumption) ?_; rotate_left; (focus (intro w0 hSw; (try dsimp only at hSw); go_simp; (try with_reducible rfl))); (try simp only [Act.put, List.setIfInBounds_toArray, List.set_cons_zero, List.set_cons_succ]))
        (refine Rg.tk (i := 18) (d := 41) (v := ?_) rfl rfl (by kernel_rfl) (by kernel_rfl) (by kernel_rfl) (fun _ _ _ h => h) (by rfl) ?_ (by assumption) ?_; rotate_left; (focus (intro w0 hSw; (try dsimp only at hSw); go_simp; (try with_reducible rfl))); (try simp only [Act.put, List.setIfInBounds_toArray, List.set_cons_zero, List.set_cons_succ]))
        refine wpAnyH_done (by kernel_rfl) (NoPanic.normal ?_) _
        have hb1 := hide ((unhide HBL).drew.trans (b2.mono (by show w1.heap.size ≤ W0.heap.size; exact (unhide HBL).size)))
        go_wp2_with fail
        go_roundw
        case rel => exact ⟨0 + 1, by omega, by go_num, HST, hb1⟩
        case measure => simp [intOf]; omega
      · obtain ⟨i, hji⟩ : ∃ i, j = i + 1 := ⟨j - 1, by omega⟩
        have HJ := hide hji
        have e1 : (j : Int) - 1 = (i : Int) := by omega
        have i0 : (0 : Int) ≤ (i : Int) := by omega
        have wi : IntKind.i64.wrap (i : Int) = (i : Int) := by rw [IntKind.wrap_i64]; omega
        have i1 : (i : Int) < (n : Int) := by omega
        have j1 : (0 : Int) < (j : Int) := by omega
        have j2 : 0 < j := by omega
        have hP := hide ((hc i (by omega)).below ((Below.refl _ _).alloc (Nat.le_refl _) (.cells #[.int .i64 (ms.getD j R.zero).ad, .int .i64 (ms.getD j R.zero).mt] 141)))
        have EJ : ms.getD j R.zero = ms.getD (i + 1) R.zero := by rw [hji]
        clear hc hji
        by_cases hk : (ms.getD i R.zero).ad < (ms.getD j R.zero).ad
        · have HST : Hid (allN ms (j + 1) = true) := hide (Ri.all_succ (unhide hrl) (by rw [unhide HJ]; exact Ri.step_lt (by rw [← EJ]; exact unhide HK) (by rw [← EJ]; exact hk)))
          clear EJ
          generalize ms.getD j R.zero = m at *
          generalize ms.getD i R.zero = m0 at *
          obtain ⟨ad, mt⟩ := m
          obtain ⟨ad0, mt0⟩ := m0
          dsimp only at hk
          obtain ⟨c0, c1⟩ := hA
          dsimp only at c0 c1
          go_wp2_with fail
          generalize hW : wr.alloc (.cells #[.int .i64 ad, .int .i64 mt] 141) = W0 at *
          clear hW
          refine wp_region_noPanic ?_
          refine wp_region_held_drew (S := fun w' => (Bx w' wr.heap.size ⟨ad, mt⟩ ∧ At w' g (off + i * 2) ⟨ad0, mt0⟩ ∧ Bx3 w' w.heap.size will valid (.slice (some ⟨g, off, none⟩) n cap)) ∧ w'.cell? ⟨wr.heap.size, 0, none⟩ = some (.int .i64 ad) ∧ w'.cell? ⟨wr.heap.size, 1, none⟩ = some (.int .i64 mt) ∧ w'.cell? ⟨g, off + i * 2, none⟩ = some (.int .i64 ad0) ∧ w'.cell? ⟨w.heap.size, 2, none⟩ = some (.slice (some ⟨g, off, none⟩) n cap)) (by kernel_rfl) (sBox2 (unhide HBX).drew (unhide hP).drew (unhide HXA).drew) (fun hHeld => ?_)
          (refine Rg.tk (i := 0) (d := 23) (v := ?_) rfl rfl (by kernel_rfl) (by kernel_rfl) (by kernel_rfl) (fun _ _ _ h => h) (by rfl) ?_ (by assumption) ?_; rotate_left; (focus (intro w0 hSw; (try dsimp only at hSw); go_simp; (try with_reducible rfl))); (try simp only [Act.put, List.setIfInBounds_toArray, List.set_cons_zero, List.set_cons_succ]))
          (refine wpAnyH_ready (rs := [1]) (by kernel_rfl) (by simp) ?_; refine AllReadyH.cons (o := _) rfl (fun K hK => ?_) AllReadyH.nil; go_simp)
          refine (isEdge ad mt _).mono ?_
          rintro e w2 ⟨rfl, b2⟩
          rw [unhide HK]
          refine hK.out _ _ (sBox2 ((unhide HBX).drew.below b2) ((unhide hP).drew.below b2) ((unhide HXA).drew.below b2)) (fun hHeld => ?_)
          clear hK K
          (try simp only [Act.put, List.setIfInBounds_toArray, List.set_cons_zero, List.set_cons_succ])
          (refine Rg.tk (i := 2) (d := 25) (v := ?_) rfl rfl (by kernel_rfl) (by kernel_rfl) (by kernel_rfl) (fun _ _ _ h => h) (by rfl) ?_ (by assumption) ?_; rotate_left; (focus (intro w0 hSw; (try dsimp only at hSw); go_simp; (try with_reducible rfl))); (try simp only [Act.put, List.setIfInBounds_toArray, List.set_cons_zero, List.set_cons_succ]))
          (refine Rg.tk (i := 3) (d := 26) (v := ?_) rfl rfl (by kernel_rfl) (by kernel_rfl) (by kernel_rfl) (fun _ _ _ h => h) (by rfl) ?_ (by assumption) ?_; rotate_left; (focus (intro w0 hSw; (try dsimp only at hSw); go_simp; (try with_reducible rfl))); (try simp only [Act.put, List.setIfInBounds_toArray, List.set_cons_zero, List.set_cons_succ]))
          (refine Rg.tk (i := 4) (d := 27) (v := ?_) rfl rfl (by kernel_rfl) (by kernel_rfl) (by kernel_rfl) (fun _ _ _ h => h) (by rfl) ?_ (by assumption) ?_; rotate_left; (focus (intro w0 hSw; (try dsimp only at hSw); go_simp; (try with_reducible rfl))); (try simp only [Act.put, List.setIfInBounds_toArray, List.set_cons_zero, List.set_cons_succ]))
          (refine Rg.tk (i := 5) (d := 28) (v := ?_) rfl rfl (by kernel_rfl) (by kernel_rfl) (by kernel_rfl) (fun _ _ _ h => h) (by rfl) ?_ (by assumption) ?_; rotate_left; (focus (intro w0 hSw; (try dsimp only at hSw); go_simp; (try with_reducible rfl))); (try simp only [Act.put, List.setIfInBounds_toArray, List.set_cons_zero, List.set_cons_succ]))
          (refine Rg.tk (i := 6) (d := 29) (v := ?_) rfl rfl (by kernel_rfl) (by kernel_rfl) (by kernel_rfl) (fun _ _ _ h => h) (by rfl) ?_ (by assumption) ?_; rotate_left; (focus (intro w0 hSw; (try dsimp only at hSw); go_simp; (try with_reducible rfl))); (try simp only [Act.put, List.setIfInBounds_toArray, List.set_cons_zero, List.set_cons_succ]))
          (refine Rg.tk (i := 7) (d := 30) (v := ?_) rfl rfl (by kernel_rfl) (by kernel_rfl) (by kernel_rfl) (fun _ _ _ h => h) (by rfl) ?_ (by assumption) ?_; rotate_left; (focus (intro w0 hSw; (try dsimp only at hSw); go_simp; (try with_reducible rfl))); (try simp only [Act.put, List.setIfInBounds_toArray, List.set_cons_zero, List.set_cons_succ]))
          (refine Rg.tk (i := 8) (d := 31) (v := ?_) rfl rfl (by kernel_rfl) (by kernel_rfl) (by kernel_rfl) (fun _ _ _ h => h) (by rfl) ?_ (by assumption) ?_; rotate_left; (focus (intro w0 hSw; (try dsimp only at hSw); go_simp; (try with_reducible rfl))); (try simp only [Act.put, List.setIfInBounds_toArray, List.set_cons_zero, List.set_cons_succ]))
          (refine Rg.tk (i := 9) (d := 32) (v := ?_) rfl rfl (by kernel_rfl) (by kernel_rfl) (by kernel_rfl) (fun _ _ _ h => h) (by rfl) ?_ (by assumption) ?_; rotate_left; (focus (intro w0 hSw; (try dsimp only at hSw); go_simp; (try with_reducible rfl))); (try simp only [Act.put, List.setIfInBounds_toArray, List.set_cons_zero, List.set_cons_succ]))
          (refine Rg.tk (i := 10) (d := 33) (v := ?_) rfl rfl (by kernel_rfl) (by kernel_rfl) (by kernel_rfl) (fun _ _ _ h => h) (by rfl) ?_ (by assumption) ?_; rotate_left; (focus (intro w0 hSw; (try dsimp only at hSw); go_simp; (try with_reducible rfl))); (try simp only [Act.put, List.setIfInBounds_toArray, List.set_cons_zero, List.set_cons_succ]))
          (refine Rg.tk (i := 11) (d := 34) (v := ?_) rfl rfl (by kernel_rfl) (by kernel_rfl) (by kernel_rfl) (fun _ _ _ h => h) (by rfl) ?_ (by assumption) ?_; rotate_left; (focus (intro w0 hSw; (try dsimp only at hSw); go_simp; (try with_reducible rfl))); (try simp only [Act.put, List.setIfInBounds_toArray, List.set_cons_zero, List.set_cons_succ]))
          (refine Rg.tk (i := 12) (d := 35) (v := ?_) rfl rfl (by kernel_rfl) (by kernel_rfl) (by kernel_rfl) (fun _ _ _ h => h) (by rfl) ?_ (by assumption) ?_; rotate_left; (focus (intro w0 hSw; (try dsimp only at hSw); go_simp; (try with_reducible rfl))); (try simp only [Act.put, List.setIfInBounds_toArray, List.set_cons_zero, List.set_cons_succ]))
          (refine Rg.tk (i := 13) (d := 36) (v := ?_) rfl rfl (by kernel_rfl) (by kernel_rfl) (by kernel_rfl) (fun _ _ _ h => h) (by rfl) ?_ (by assumption) ?_; rotate_left; (focus (intro w0 hSw; (try dsimp only at hSw); go_simp; (try with_reducible rfl))); (try simp only [Act.put, List.setIfInBounds_toArray, List.set_cons_zero, List.set_cons_succ]))
          (refine Rg.tk (i := 14) (d := 37) (v := ?_) rfl rfl (by kernel_rfl) (by kernel_rfl) (by kernel_rfl) (fun _ _ _ h => h) (by rfl) ?_ (by assumption) ?_; rotate_left; (focus (intro w0 hSw; (try dsimp only at hSw); go_simp; (try with_reducible rfl))); (try simp only [Act.put, List.setIfInBounds_toArray, List.set_cons_zero, List.set_cons_succ]))
          (refine Rg.tk (i := 15) (d := 38) (v := ?_) rfl rfl (by kernel_rfl) (by kernel_rfl) (by kernel_rfl) (fun _ _ _ h => h) (by rfl) ?_ (by assumption) ?_; rotate_left; (focus (intro w0 hSw; (try dsimp only at hSw); go_simp; (try with_reducible rfl))); (try simp only [Act.put, List.setIfInBounds_toArray, List.set_cons_zero, List.set_cons_succ]))
          (refine Rg.tk (i := 16) (d := 39) (v := ?_) rfl rfl (by kernel_rfl) (by kernel_rfl) (by kernel_rfl) (fun _ _ _ h => h) (by rfl) ?_ (by assumption) ?_; rotate_left; (focus (intro w0 hSw; (try dsimp only at hSw); go_simp; (try with_reducible rfl))); (try simp only [Act.put, List.setIfInBounds_toArray, List.set_cons_zero, List.set_cons_succ]))
          (refine Rg.tk (i := 17) (d := 40) (v := ?_) rfl rfl (by kernel_rfl) (by kernel_rfl) (by kernel_rfl) (fun _ _ _ h => h) (by rfl) ?_ (by assumption) ?_; rotate_left; (focus (intro w0 hSw; (try dsimp only at hSw); go_simp; (try with_reducible rfl))); (try simp only [Act.put, List.setIfInBounds_toArray, List.set_cons_zero, List.set_cons_succ]))
          (refine Rg.tk (i := 18) (d := 41) (v := ?_) rfl rfl (by kernel_rfl) (by kernel_rfl) (by kernel_rfl) (fun _ _ _ h => h) (by rfl) ?_ (by assumption) ?_; rotate_left; (focus (intro w0 hSw; (try dsimp only at hSw); go_simp; (try with_reducible rfl))); (try simp only [Act.put, List.setIfInBounds_toArray, List.set_cons_zero, List.set_cons_succ]))
          refine wpAnyH_done (by kernel_rfl) (NoPanic.normal ?_) _
          have hb1 := hide ((unhide HBL).drew.trans (b2.mono (by show w1.heap.size ≤ W0.heap.size; exact (unhide HBL).size)))
          go_wp2_with fail
          go_roundw
          case rel => exact ⟨j + 1, by omega, by go_num, HST, hb1⟩
          case measure => simp [intOf]; omega
        · have HST : Hid (tcB will valid ms = false) := hide (unhide HF (by have := Ri.all_no (unhide HL) (show Ri.step R.zero okN R.ad ms j = false by rw [unhide HJ]; exact Ri.step_ge (by rw [← EJ]; omega)); exact (unhide HN) ▸ this))
          clear EJ
          generalize ms.getD j R.zero = m at *
          generalize ms.getD i R.zero = m0 at *
          obtain ⟨ad, mt⟩ := m
          obtain ⟨ad0, mt0⟩ := m0
          dsimp only at hk
          obtain ⟨c0, c1⟩ := hA
          dsimp only at c0 c1
          go_wp2_with fail
          generalize hW : wr.alloc (.cells #[.int .i64 ad, .int .i64 mt] 141) = W0 at *
          clear hW
          refine wp_region_noPanic ?_
          refine wp_region_held_drew (S := fun w' => (Bx w' wr.heap.size ⟨ad, mt⟩ ∧ At w' g (off + i * 2) ⟨ad0, mt0⟩ ∧ Bx3 w' w.heap.size will valid (.slice (some ⟨g, off, none⟩) n cap)) ∧ w'.cell? ⟨wr.heap.size, 0, none⟩ = some (.int .i64 ad) ∧ w'.cell? ⟨wr.heap.size, 1, none⟩ = some (.int .i64 mt) ∧ w'.cell? ⟨g, off + i * 2, none⟩ = some (.int .i64 ad0) ∧ w'.cell? ⟨w.heap.size, 2, none⟩ = some (.slice (some ⟨g, off, none⟩) n cap)) (by kernel_rfl) (sBox2 (unhide HBX).drew (unhide hP).drew (unhide HXA).drew) (fun hHeld => ?_)
          (refine Rg.tk (i := 0) (d := 23) (v := ?_) rfl rfl (by kernel_rfl) (by kernel_rfl) (by kernel_rfl) (fun _ _ _ h => h) (by rfl) ?_ (by assumption) ?_; rotate_left; (focus (intro w0 hSw; (try dsimp only at hSw); go_simp; (try with_reducible rfl))); (try simp only [Act.put, List.setIfInBounds_toArray, List.set_cons_zero, List.set_cons_succ]))
          (refine wpAnyH_ready (rs := [1]) (by kernel_rfl) (by simp) ?_; refine AllReadyH.cons (o := _) rfl (fun K hK => ?_) AllReadyH.nil; go_simp)
          refine (isEdge ad mt _).mono ?_
          rintro e w2 ⟨rfl, b2⟩
          rw [unhide HK]
          refine hK.out _ _ (sBox2 ((unhide HBX).drew.below b2) ((unhide hP).drew.below b2) ((unhide HXA).drew.below b2)) (fun hHeld => ?_)
          clear hK K
          (try simp only [Act.put, List.setIfInBounds_toArray, List.set_cons_zero, List.set_cons_succ])
          (refine Rg.tk (i := 2) (d := 25) (v := ?_) rfl rfl (by kernel_rfl) (by kernel_rfl) (by kernel_rfl) (fun _ _ _ h => h) (by rfl) ?_ (by assumption) ?_; rotate_left; (focus (intro w0 hSw; (try dsimp only at hSw); go_simp; (try with_reducible rfl))); (try simp only [Act.put, List.setIfInBounds_toArray, List.set_cons_zero, List.set_cons_succ]))
          (refine Rg.tk (i := 3) (d := 26) (v := ?_) rfl rfl (by kernel_rfl) (by kernel_rfl) (by kernel_rfl) (fun _ _ _ h => h) (by rfl) ?_ (by assumption) ?_; rotate_left; (focus (intro w0 hSw; (try dsimp only at hSw); go_simp; (try with_reducible rfl))); (try simp only [Act.put, List.setIfInBounds_toArray, List.set_cons_zero, List.set_cons_succ]))
          (refine Rg.tk (i := 4) (d := 27) (v := ?_) rfl rfl (by kernel_rfl) (by kernel_rfl) (by kernel_rfl) (fun _ _ _ h => h) (by rfl) ?_ (by assumption) ?_; rotate_left; (focus (intro w0 hSw; (try dsimp only at hSw); go_simp; (try with_reducible rfl))); (try simp only [Act.put, List.setIfInBounds_toArray, List.set_cons_zero, List.set_cons_succ]))
          (refine Rg.tk (i := 5) (d := 28) (v := ?_) rfl rfl (by kernel_rfl) (by kernel_rfl) (by kernel_rfl) (fun _ _ _ h => h) (by rfl) ?_ (by assumption) ?_; rotate_left; (focus (intro w0 hSw; (try dsimp only at hSw); go_simp; (try with_reducible rfl))); (try simp only [Act.put, List.setIfInBounds_toArray, List.set_cons_zero, List.set_cons_succ]))
          (refine Rg.tk (i := 6) (d := 29) (v := ?_) rfl rfl (by kernel_rfl) (by kernel_rfl) (by kernel_rfl) (fun _ _ _ h => h) (by rfl) ?_ (by assumption) ?_; rotate_left; (focus (intro w0 hSw; (try dsimp only at hSw); go_simp; (try with_reducible rfl))); (try simp only [Act.put, List.setIfInBounds_toArray, List.set_cons_zero, List.set_cons_succ]))
          (refine Rg.tk (i := 7) (d := 30) (v := ?_) rfl rfl (by kernel_rfl) (by kernel_rfl) (by kernel_rfl) (fun _ _ _ h => h) (by rfl) ?_ (by assumption) ?_; rotate_left; (focus (intro w0 hSw; (try dsimp only at hSw); go_simp; (try with_reducible rfl))); (try simp only [Act.put, List.setIfInBounds_toArray, List.set_cons_zero, List.set_cons_succ]))
          (refine Rg.tk (i := 8) (d := 31) (v := ?_) rfl rfl (by kernel_rfl) (by kernel_rfl) (by kernel_rfl) (fun _ _ _ h => h) (by rfl) ?_ (by assumption) ?_; rotate_left; (focus (intro w0 hSw; (try dsimp only at hSw); go_simp; (try with_reducible rfl))); (try simp only [Act.put, List.setIfInBounds_toArray, List.set_cons_zero, List.set_cons_succ]))
          (refine Rg.tk (i := 9) (d := 32) (v := ?_) rfl rfl (by kernel_rfl) (by kernel_rfl) (by kernel_rfl) (fun _ _ _ h => h) (by rfl) ?_ (by assumption) ?_; rotate_left; (focus (intro w0 hSw; (try dsimp only at hSw); go_simp; (try with_reducible rfl))); (try simp only [Act.put, List.setIfInBounds_toArray, List.set_cons_zero, List.set_cons_succ]))
          (refine Rg.tk (i := 10) (d := 33) (v := ?_) rfl rfl (by kernel_rfl) (by kernel_rfl) (by kernel_rfl) (fun _ _ _ h => h) (by rfl) ?_ (by assumption) ?_; rotate_left; (focus (intro w0 hSw; (try dsimp only at hSw); go_simp; (try with_reducible rfl))); (try simp only [Act.put, List.setIfInBounds_toArray, List.set_cons_zero, List.set_cons_succ]))
          (refine Rg.tk (i := 11) (d := 34) (v := ?_) rfl rfl (by kernel_rfl) (by kernel_rfl) (by kernel_rfl) (fun _ _ _ h => h) (by rfl) ?_ (by assumption) ?_; rotate_left; (focus (intro w0 hSw; (try dsimp only at hSw); go_simp; (try with_reducible rfl))); (try simp only [Act.put, List.setIfInBounds_toArray, List.set_cons_zero, List.set_cons_succ]))
          (refine Rg.tk (i := 12) (d := 35) (v := ?_) rfl rfl (by kernel_rfl) (by kernel_rfl) (by kernel_rfl) (fun _ _ _ h => h) (by rfl) ?_ (by assumption) ?_; rotate_left; (focus (intro w0 hSw; (try dsimp only at hSw); go_simp; (try with_reducible rfl))); (try simp only [Act.put, List.setIfInBounds_toArray, List.set_cons_zero, List.set_cons_succ]))
          (refine Rg.tk (i := 13) (d := 36) (v := ?_) rfl rfl (by kernel_rfl) (by kernel_rfl) (by kernel_rfl) (fun _ _ _ h => h) (by rfl) ?_ (by assumption) ?_; rotate_left; (focus (intro w0 hSw; (try dsimp only at hSw); go_simp; (try with_reducible rfl))); (try simp only [Act.put, List.setIfInBounds_toArray, List.set_cons_zero, List.set_cons_succ]))
          (refine Rg.tk (i := 14) (d := 37) (v := ?_) rfl rfl (by kernel_rfl) (by kernel_rfl) (by kernel_rfl) (fun _ _ _ h => h) (by rfl) ?_ (by assumption) ?_; rotate_left; (focus (intro w0 hSw; (try dsimp only at hSw); go_simp; (try with_reducible rfl))); (try simp only [Act.put, List.setIfInBounds_toArray, List.set_cons_zero, List.set_cons_succ]))
          (refine Rg.tk (i := 15) (d := 38) (v := ?_) rfl rfl (by kernel_rfl) (by kernel_rfl) (by kernel_rfl) (fun _ _ _ h => h) (by rfl) ?_ (by assumption) ?_; rotate_left; (focus (intro w0 hSw; (try dsimp only at hSw); go_simp; (try with_reducible rfl))); (try simp only [Act.put, List.setIfInBounds_toArray, List.set_cons_zero, List.set_cons_succ]))
          (refine Rg.tk (i := 16) (d := 39) (v := ?_) rfl rfl (by kernel_rfl) (by kernel_rfl) (by kernel_rfl) (fun _ _ _ h => h) (by rfl) ?_ (by assumption) ?_; rotate_left; (focus (intro w0 hSw; (try dsimp only at hSw); go_simp; (try with_reducible rfl))); (try simp only [Act.put, List.setIfInBounds_toArray, List.set_cons_zero, List.set_cons_succ]))
          (refine Rg.tk (i := 17) (d := 40) (v := ?_) rfl rfl (by kernel_rfl) (by kernel_rfl) (by kernel_rfl) (fun _ _ _ h => h) (by rfl) ?_ (by assumption) ?_; rotate_left; (focus (intro w0 hSw; (try dsimp only at hSw); go_simp; (try with_reducible rfl))); (try simp only [Act.put, List.setIfInBounds_toArray, List.set_cons_zero, List.set_cons_succ]))
          (refine Rg.tk (i := 18) (d := 41) (v := ?_) rfl rfl (by kernel_rfl) (by kernel_rfl) (by kernel_rfl) (fun _ _ _ h => h) (by rfl) ?_ (by assumption) ?_; rotate_left; (focus (intro w0 hSw; (try dsimp only at hSw); go_simp; (try with_reducible rfl))); (try simp only [Act.put, List.setIfInBounds_toArray, List.set_cons_zero, List.set_cons_succ]))
          refine wpAnyH_done (by kernel_rfl) (NoPanic.normal ?_) _
          have hb1 := hide ((unhide HB1).trans (((unhide HBL).drew.trans (b2.mono (by show w1.heap.size ≤ W0.heap.size; exact (unhide HBL).size))).mono (unhide HB1).size))
          go_wp2_with fail
          go_ret
          exact ⟨ret_bool (unhide HST).symm, unhide hb1⟩
    · obtain rfl : j = n := by omega
      go_wp2
      go_ret
      exact ⟨ret_bool (unhide HT (unhide hrl)).symm, (unhide HB1).trans ((unhide hbl).mono (unhide HB1).size)⟩
set_option maxRecDepth 100000 in
set_option maxHeartbeats 4000000 in
theorem l05Edges (a : Option Addr) (ms : List R) (cap : Nat) (w : World) (hm : ms.length ≤ 1048576) (hr : RM w a ms) :
    Calls Tryz.prog 80 #[.slice a ms.length cap] w fun e w' => e = .returned (.bool (allN ms ms.length)) ∧ ∃ q, w' = w.drewN q := by
  have HT : Hid (allN ms ms.length = true → ms.length ≤ 8) := hide all_len
  have HR := hide hr
  clear hr
  obtain ⟨A, hA⟩ : ∃ A, allN ms ms.length = A := ⟨_, rfl⟩
  have HA := hide hA
  rw [hA]
  clear hA
  generalize hN : ms.length = n at *
  have HN := hide hN
  clear hN
  go_enter Tryz.func80, Tryz.ntmps80
  go_wp2_with fail
  go_loopw [3] (fun i wr => ∃ j : Nat, j ≤ n ∧ i = .int .i64 j ∧ Hid (allN ms j = true) ∧ Hid (∃ q, wr = w.drewN q)) (fun i _ => n - (intOf i).toNat)
  case atStart => exact ⟨0, by omega, rfl, hide Ri.all_zero, hide ⟨0, rfl⟩⟩
  case round =>
    obtain ⟨j, hj, rfl, hrl, hq⟩ := hrel
    have HRr : Hid (RM wr a ms) := hide (by obtain ⟨q, e⟩ := unhide hq; rw [e]; exact unhide HR)
    have HD : Hid (∀ m, ∃ q, wr.drewN m = w.drewN q) := hide (fun m => by obtain ⟨q, e⟩ := unhide hq; exact ⟨_, by rw [e, World.drewN_drewN]⟩)
    by_cases hlt : (j : Int) < (n : Int)
    · have k0 : (0 : Int) ≤ (j : Int) := by omega
      have hlen : j < ms.length := by rw [unhide HN]; omega
      rcases unhide HRr with e0 | ⟨g, off, rfl, hc⟩
      · exfalso; rw [e0] at hlen; simp at hlen
      have HL := hide hlen
      have hA := hc j hlen
      cases hk : okN (ms.getD j R.zero)
      · clear hc
        have HST : Hid (A = false) := hide (by rw [← unhide HA, ← unhide HN]; exact Ri.all_no hlen (Ri.step_bad (key := R.ad) hk))
        generalize ms.getD j R.zero = m at *
        obtain ⟨ad, mt⟩ := m
        obtain ⟨c0, c1⟩ := hA
        dsimp only at c0 c1
        have hk' : (inB ad 1 8 && (inB mt 1 16744192 && exM mt)) = false := hk
        clear hk
        cases h1 : inB ad 1 8
        rotate_left
        cases h2 : inB mt 1 16744192
        rotate_left
        have hmt : 1 ≤ mt ∧ mt ≤ 16744192 := by simpa [inB] using h2
        have h3 : exM mt = false := by rw [h1, h2] at hk'; simpa using hk'
        all_goals
          clear hk'
          go_wp2_with fail
          go_quiet ((first | (go_at_call 63; exact Calls.quiet_of_same (l01Addr _ _)) | (go_at_call 64; exact Calls.quiet_of_same (l01In _ _ _ _)) | (go_at_call 83; exact Calls.quiet_of_same (l04Ex mt (by omega) (by omega) _))))
          go_wp2_with fail
          go_ret
          exact ⟨ret_bool (unhide HST).symm, unhide HD _⟩
      have hk' : (inB (ms.getD j R.zero).ad 1 8 && (inB (ms.getD j R.zero).mt 1 16744192 && exM (ms.getD j R.zero).mt)) = true := hk
      simp only [Bool.and_eq_true] at hk'
      obtain ⟨h1, h2, h3⟩ := hk'
      have hmt : 1 ≤ (ms.getD j R.zero).mt ∧ (ms.getD j R.zero).mt ≤ 16744192 := by simpa [inB] using h2
      have HO := hide hk
      clear hk
      by_cases hj0 : j = 0
      · subst hj0
        clear hc
        rw [Nat.zero_mul, Nat.add_zero] at hA
        have HST := hide (Ri.all_succ (unhide hrl) (Ri.step_zero (key := R.ad) (unhide HO)))
        generalize ms.getD 0 R.zero = m at *
        obtain ⟨ad, mt⟩ := m
        obtain ⟨c0, c1⟩ := hA
        dsimp only at c0 c1 h1 h2 h3 hmt
        go_wp2_with fail
        go_quiet ((first | (go_at_call 63; exact Calls.quiet_of_same (l01Addr _ _)) | (go_at_call 64; exact Calls.quiet_of_same (l01In _ _ _ _)) | (go_at_call 83; exact Calls.quiet_of_same (l04Ex mt (by omega) (by omega) _))))
        go_wp2_with fail
        go_roundw
        case rel => exact ⟨0 + 1, by omega, by go_num, HST, hide (unhide HD _)⟩
        case measure => simp [intOf]; omega
      · obtain ⟨i, hji⟩ : ∃ i, j = i + 1 := ⟨j - 1, by omega⟩
        have HJ := hide hji
        have e1 : (j : Int) - 1 = (i : Int) := by omega
        have i0 : (0 : Int) ≤ (i : Int) := by omega
        have wi : IntKind.i64.wrap (i : Int) = (i : Int) := by rw [IntKind.wrap_i64]; omega
        have i1 : (i : Int) < (n : Int) := by omega
        have j1 : (0 : Int) < (j : Int) := by omega
        have j2 : 0 < j := by omega
        have hP := hc i (by omega)
        have EJ : ms.getD j R.zero = ms.getD (i + 1) R.zero := by rw [hji]
        clear hc hji
        by_cases hk : (ms.getD i R.zero).ad < (ms.getD j R.zero).ad
        · have HST : Hid (allN ms (j + 1) = true) := hide (Ri.all_succ (unhide hrl) (by rw [unhide HJ]; exact Ri.step_lt (by rw [← EJ]; exact unhide HO) (by rw [← EJ]; exact hk)))
          clear EJ
          generalize ms.getD j R.zero = m at *
          generalize ms.getD i R.zero = m0 at *
          obtain ⟨ad, mt⟩ := m
          obtain ⟨ad0, mt0⟩ := m0
          obtain ⟨c0, c1⟩ := hA
          obtain ⟨d0, d1⟩ := hP
          dsimp only at hk c0 c1 d0 d1 h1 h2 h3 hmt
          go_wp2_with fail
          go_quiet ((first | (go_at_call 63; exact Calls.quiet_of_same (l01Addr _ _)) | (go_at_call 64; exact Calls.quiet_of_same (l01In _ _ _ _)) | (go_at_call 83; exact Calls.quiet_of_same (l04Ex mt (by omega) (by omega) _))))
          go_wp2_with fail
          go_roundw
          case rel => exact ⟨j + 1, by omega, by go_num, HST, hide (unhide HD _)⟩
          case measure => simp [intOf]; omega
        · have HST : Hid (A = false) := hide (by rw [← unhide HA, ← unhide HN]; exact Ri.all_no (unhide HL) (show Ri.step R.zero okN R.ad ms j = false by rw [unhide HJ]; exact Ri.step_ge (by rw [← EJ]; omega)))
          clear EJ
          generalize ms.getD j R.zero = m at *
          generalize ms.getD i R.zero = m0 at *
          obtain ⟨ad, mt⟩ := m
          obtain ⟨ad0, mt0⟩ := m0
          obtain ⟨c0, c1⟩ := hA
          obtain ⟨d0, d1⟩ := hP
          dsimp only at hk c0 c1 d0 d1 h1 h2 h3 hmt
          go_wp2_with fail
          go_quiet ((first | (go_at_call 63; exact Calls.quiet_of_same (l01Addr _ _)) | (go_at_call 64; exact Calls.quiet_of_same (l01In _ _ _ _)) | (go_at_call 83; exact Calls.quiet_of_same (l04Ex mt (by omega) (by omega) _))))
          go_wp2_with fail
          go_ret
          exact ⟨ret_bool (unhide HST).symm, unhide HD _⟩
    · obtain rfl : j = n := by omega
      have ht : A = true := by rw [← unhide HA, ← unhide hrl]
      have h8 := unhide HT (unhide hrl)
      have h8' : (j : Int) ≤ 8 := by omega
      have HST := hide ht
      clear ht
      go_wp2
      go_ret
      exact ⟨ret_bool (unhide HST).symm, unhide hq⟩
set_option maxRecDepth 100000 in
set_option maxHeartbeats 4000000 in
theorem specOK (ansn valid : Int) (a : Option Addr) (ms : List R) (cap : Nat) (w : World) (hm : ms.length ≤ 1048576) (hr : RM w a ms) :
    Calls Tryz.prog 242 #[.agg #[.int .i64 ansn, .int .i64 valid, .slice a ms.length cap]] w fun e w' => e = .returned (.bool (tcB ansn valid ms)) ∧ Below w.heap.size w w' := by
  have HR : Hid (∀ W, Below w.heap.size w W → RM W a ms) := hide (fun W h => hr.below h)
  have HB : Hid (Below w.heap.size w (w.alloc (.cells #[.int .i64 ansn, .int .i64 valid, .slice a ms.length cap] 59))) := hide ((Below.refl _ _).alloc (Nat.le_refl _) _)
  clear hr
  cases h1 : inB ansn 0 65535
  · have HF := hide (show tcB ansn valid ms = false by unfold tcB; rw [h1]; rfl)
    go_enter Tryz.func242, Tryz.ntmps242
    go_wp2_with fail
    go_quiet ((go_at_call 64; exact Calls.quiet_of_same (l01In _ _ _ _)))
    go_wp2_with fail
    go_ret
    exact ⟨ret_bool (unhide HF).symm, Tim.below_drewN (unhide HB) _⟩
  cases h2 : inB valid 1 10000
  · have HF := hide (show tcB ansn valid ms = false by unfold tcB Tim.valB; rw [h1, h2]; rfl)
    go_enter Tryz.func242, Tryz.ntmps242
    go_wp2_with fail
    go_quiet ((go_at_call 64; exact Calls.quiet_of_same (l01In _ _ _ _)))
    go_wp2_with fail
    go_ret
    exact ⟨ret_bool (unhide HF).symm, Tim.below_drewN (unhide HB) _⟩
  have hv : 1 ≤ valid ∧ valid ≤ 10000 := by simpa [inB] using h2
  have htc := Tim.tcode_lt (n := valid) (by omega)
  cases h3 : Tim.tim (Tim.tcode valid) == valid
  · have HF := hide (show tcB ansn valid ms = false by unfold tcB Tim.valB Tim.exTB; rw [h1, h2, h3]; rfl)
    go_enter Tryz.func242, Tryz.ntmps242
    go_wp2_with fail
    go_quiet ((first | (go_at_call 64; exact Calls.quiet_of_same (l01In _ _ _ _)) | (go_at_call 153; exact Calls.quiet_of_same (Tim.l02TimeCode valid (by omega) (by omega) _)) | (go_at_call 219; exact Calls.quiet_of_same (Tim.l02Time (Tim.tcode valid) htc _))))
    go_wp2_with fail
    go_ret
    exact ⟨ret_bool (unhide HF).symm, Tim.below_drewN (unhide HB) _⟩
  have h4 : Tim.valB valid = true := by unfold Tim.valB Tim.exTB; rw [h2, h3]; rfl
  have HF : Hid (tcB ansn valid ms = allN ms ms.length) := hide (by unfold tcB; rw [h1, h4]; simp)
  clear h4
  go_enter Tryz.func242, Tryz.ntmps242
  go_wp2_with fail
  go_quiet ((first | (go_at_call 64; exact Calls.quiet_of_same (l01In _ _ _ _)) | (go_at_call 153; exact Calls.quiet_of_same (Tim.l02TimeCode valid (by omega) (by omega) _)) | (go_at_call 219; exact Calls.quiet_of_same (Tim.l02Time (Tim.tcode valid) htc _)) | (go_at_call 80; exact Calls.quiet_of (l05Edges a ms cap _ hm (unhide HR _ (Tim.below_drewN (unhide HB) _))))))
  go_wp2_with fail
  go_ret
  exact ⟨ret_bool (unhide HF).symm, Tim.below_drewN (unhide HB) _⟩
end Av
end Go.Proofs.YtiipppfkpgbpeaaGreat
namespace Go.Proofs.YtiipppfkpgbpeaaGreat
open Go.ChangeShapes Go.WideShapes Go.ChangeAt Go.RowKit
set_option linter.unusedVariables false
namespace By
open W1
/-- w' is w but for cells of block g. -/
structure Wrote (w w' : World) (g : Nat) : Prop where
  os : w'.os = w.os
  tape : w'.tape = w.tape
  output : w'.output = w.output
  size : w'.heap.size = w.heap.size
  block : ∀ k, k ≠ g → w'.heap[k]? = w.heap[k]?
  frozen : ∀ a, w'.frozen? a = w.frozen? a
  len : ∀ o, (w'.cell? ⟨g, o, none⟩).isSome = (w.cell? ⟨g, o, none⟩).isSome
theorem Wrote.refl (w : World) (g : Nat) : Wrote w w g := ⟨rfl, rfl, rfl, rfl, fun _ _ => rfl, fun _ => rfl, fun _ => rfl⟩
theorem setCell_isSome (w : World) (g o q : Nat) (v : Value) : ((w.setCell ⟨g, o, none⟩ v).cell? ⟨g, q, none⟩).isSome = (w.cell? ⟨g, q, none⟩).isSome := by
  unfold World.setCell World.cell?
  simp only [Array.getElem?_modify]
  cases h : w.heap[g]? with
  | none => simp
  | some x =>
    cases x <;> simp [Array.getElem?_setIfInBounds] <;> split <;> (try simp_all)
    split
    · rename_i hq; rw [Array.getElem?_eq_getElem hq]; rfl
    · rename_i hq; rw [Array.getElem?_eq_none (by omega)]
theorem Wrote.set {w w' : World} {g : Nat} (h : Wrote w w' g) (o : Nat) (v : Value) : Wrote w (w'.setCell ⟨g, o, none⟩ v) g :=
  ⟨h.os, h.tape, h.output, by rw [← h.size]; simp [World.setCell], fun k hk => (Below.heap_setCell _ _ _ _ hk).trans (h.block k hk), fun a => by rw [World.frozen?_setCell]; exact h.frozen a, fun q => (setCell_isSome w' g o q v).trans (h.len q)⟩
theorem Wrote.drewN {w w' : World} {g : Nat} (h : Wrote w w' g) (n : Nat) : Wrote w (w'.drewN n) g := ⟨h.os, h.tape, h.output, h.size, h.block, h.frozen, h.len⟩
theorem Wrote.below {w w' : World} {g B : Nat} (h : Wrote w w' g) (hg : B ≤ g) : Below B w w' :=
  ⟨h.os, h.tape, h.output, by rw [h.size]; exact Nat.le_refl _, fun k hk => h.block k (by omega)⟩
theorem Wrote.cell {w w' : World} {g : Nat} (h : Wrote w w' g) {b : Nat} (hb : b ≠ g) (o : Nat) : w'.cell? ⟨b, o, none⟩ = w.cell? ⟨b, o, none⟩ :=
  World.cell?_of_block (a := ⟨b, o, none⟩) (h.block b hb)

/-- n marks, from k on, at the address. -/
def Marks (w : World) (a : Option Addr) (n : Nat) (k : Int) : Prop :=
  n = 0 ∨ ∃ g off, a = some ⟨g, off, none⟩ ∧ ∀ i : Nat, i < n → w.cell? ⟨g, off + i, none⟩ = some (.int .u8 ((k + i) % 256))
/-- The slice may be written: n cells lie at block g. -/
def Opn (w : World) (a : Option Addr) (g n : Nat) : Prop :=
  n = 0 ∨ ∃ off, a = some ⟨g, off, none⟩ ∧ ∀ i : Nat, i < n → (w.cell? ⟨g, off + i, none⟩).isSome = true ∧ w.frozen? ⟨g, off + i, none⟩ = false

set_option maxHeartbeats 1000000 in
theorem mark (a : Option Addr) (n c g : Nat) (k : Int) (h0 : 0 ≤ k) (h1 : k ≤ 1099511627776) (w : World) (hm : n ≤ 1099511627776) (ho : Opn w a g n) :
    Calls Tryz.prog 14 #[.slice a n c, .int .i64 k] w fun e w' => e = .returned (.int .i64 (k + n)) ∧ Wrote w w' g ∧ Marks w' a n k := by
  rcases ho with rfl | ⟨off, rfl, hc⟩
  · go_enter Tryz.func14, Tryz.ntmps14
    go_wp2
    go_loop [1, 5] (fun q i => q = .int .i64 k ∧ i = .int .i64 0) (fun _ i => 0)
    case atStart => exact ⟨rfl, rfl⟩
    case round =>
      obtain ⟨rfl, rfl⟩ := hrel
      go_wp2
      go_ret
      exact ⟨ret_int (by simp), Wrote.refl _ _, .inl rfl⟩
  have Hc := hide hc
  clear hc
  go_enter Tryz.func14, Tryz.ntmps14
  go_wp2
  go_loopw [1, 5] (fun q i wr => ∃ j : Nat, j ≤ n ∧ i = .int .i64 j ∧ q = .int .i64 (k + j) ∧ Wrote w wr g ∧ (Hid (∀ t : Nat, t < j → wr.cell? ⟨g, off + t, none⟩ = some (.int .u8 ((k + t) % 256)))) ∧ Hid (∀ t : Nat, t < n → (wr.cell? ⟨g, off + t, none⟩).isSome = true)) (fun _ i _ => n - (intOf i).toNat)
  case atStart => exact ⟨0, by omega, rfl, by simp, Wrote.refl _ _, hide (fun t ht => by omega), hide (fun t ht => (unhide Hc t ht).1)⟩
  case round =>
    obtain ⟨j, hj, rfl, rfl, hw, hd, hs⟩ := hrel
    by_cases hlt : (j : Int) < (n : Int)
    · have k0 : (0 : Int) ≤ (j : Int) := by omega
      obtain ⟨v, hv⟩ := Option.isSome_iff_exists.1 (unhide hs j (by omega))
      have hfz := (hw.frozen ⟨g, off + j, none⟩).trans (unhide Hc j (by omega)).2
      go_wp2
      go_roundw
      case rel =>
        refine ⟨j + 1, by omega, by go_num, by go_num, hw.set _ _, hide (fun t ht => ?_), hide (fun t ht => ?_)⟩
        · by_cases e : t = j
          · subst e
            rw [World.cell?_setCell_same _ _ _ hv]
          · rw [World.cell?_setCell_other _ _ _ _ (by simp <;> omega)]
            exact unhide hd t (by omega)
        · by_cases e : t = j
          · subst e
            rw [World.cell?_setCell_same _ _ _ hv]; rfl
          · rw [World.cell?_setCell_other _ _ _ _ (by simp <;> omega)]
            exact unhide hs t ht
      case measure => simp [intOf]; omega
    · obtain rfl : j = n := by omega
      go_wp2
      go_ret
      exact ⟨rfl, hw, .inr ⟨g, off, rfl, unhide hd⟩⟩

set_option maxHeartbeats 1000000 in
theorem held (a : Option Addr) (n c : Nat) (k : Int) (h0 : 0 ≤ k) (h1 : k ≤ 1099511627776) (w : World) (hm : n ≤ 1099511627776) (ho : Marks w a n k) :
    Calls Tryz.prog 16 #[.slice a n c, .int .i64 k] w fun e w' => e = .returned (.int .i64 (k + n)) ∧ w' = w := by
  rcases ho with rfl | ⟨g, off, rfl, hc⟩
  · go_enter Tryz.func16, Tryz.ntmps16
    go_wp2
    go_loop [1, 5] (fun q i => q = .int .i64 k ∧ i = .int .i64 0) (fun _ i => 0)
    case atStart => exact ⟨rfl, rfl⟩
    case round =>
      obtain ⟨rfl, rfl⟩ := hrel
      go_wp2
      go_ret
      exact ⟨ret_int (by simp), rfl⟩
  have Hc := hide hc
  clear hc
  go_enter Tryz.func16, Tryz.ntmps16
  go_wp2
  go_loop [1, 5] (fun q i => ∃ j : Nat, j ≤ n ∧ i = .int .i64 j ∧ q = .int .i64 (k + j)) (fun _ i => n - (intOf i).toNat)
  case atStart => exact ⟨0, by omega, rfl, by simp⟩
  case round =>
    obtain ⟨j, hj, rfl, rfl⟩ := hrel
    by_cases hlt : (j : Int) < (n : Int)
    · have k0 : (0 : Int) ≤ (j : Int) := by omega
      have hv := unhide Hc j (by omega)
      go_wp2
      go_round
      case rel => exact ⟨j + 1, by omega, by go_num, by go_num⟩
      case measure => simp [intOf]; omega
    · obtain rfl : j = n := by omega
      go_wp2
      go_ret
      exact ⟨rfl, rfl⟩
end By
end Go.Proofs.YtiipppfkpgbpeaaGreat
namespace Go.Proofs.YtiipppfkpgbpeaaGreat
open Go.ChangeShapes Go.WideShapes Go.ChangeAt Go.RowKit
set_option linter.unusedVariables false
attribute [local go_sem ↓] Go.wp_at_zero Go.wp_at_succ
namespace De
open W1 By
/-- The byte at a place, as a number; two bytes from a place on, as one. -/
def fld (bs : List UInt8) (i : Nat) : Int := ((bs.getD i 0).toNat : Int)
def two (bs : List UInt8) (i : Nat) : Int := 256 * fld bs i + fld bs (i + 1)
end De
end Go.Proofs.YtiipppfkpgbpeaaGreat
namespace Go.Proofs.YtiipppfkpgbpeaaGreat
open Go.ChangeShapes Go.WideShapes Go.ChangeAt Go.RowKit
set_option linter.unusedVariables false
namespace Nu
open W1
/-- Bytes as cells. -/
def cs (bs : List UInt8) : List Value := bs.map fun b => Value.int .u8 b.toNat

end Nu
end Go.Proofs.YtiipppfkpgbpeaaGreat
namespace Go.Proofs.YtiipppfkpgbpeaaGreat
open Go.ChangeShapes Go.WideShapes Go.ChangeAt Go.RowKit
set_option linter.unusedVariables false
namespace U8
open W1 Nu
def fl (zs : List Int) : List Value := zs.map (Value.int .u8)
/-- The cells from an address on read as these numbers. -/
def R8 (w : World) (g off : Nat) (zs : List Int) : Prop := ∀ i, i < zs.length → w.cell? ⟨g, off + i, none⟩ = some (.int .u8 (zs.getD i 0))
theorem plain_add (b off k : Nat) : (⟨b, off, none⟩ : Addr).add k = ⟨b, off + k, none⟩ := by unfold Addr.add; split <;> simp_all
theorem R8.cells {w : World} {g off : Nat} {zs : List Int} (h : R8 w g off zs) : ∀ j u, (fl zs)[j]? = some u → w.cell? ((⟨g, off, none⟩ : Addr).add j) = some u := by
  intro j u hj
  have hl : j < zs.length := by have := (List.getElem?_eq_some_iff.1 hj).1; simpa [fl] using this
  unfold fl at hj
  rw [List.getElem?_map, List.getElem?_eq_getElem hl] at hj
  rw [plain_add, h j hl, List.getD_eq_getElem?_getD, List.getElem?_eq_getElem hl]
  simpa using hj
theorem below_own {B : Nat} {w0 w w' : World} {base : Nat} {v : Value} {n : Nat} {xs : List Value} (h : Below B w0 w) (ho : w.ownsRow base 5 1 v n xs) (hg : w.grownBy w' v.ownBlock) (hb : B ≤ base) (hB : B ≤ w.heap.size) : Below B w0 w' :=
  h.grown hg hB (fun k hk => Nat.le_trans hb (ho.lt k hk).1)
theorem own_below {w w' : World} {base : Nat} {v : Value} {n : Nat} {xs : List Value} (h : w.ownsRow base 5 1 v n xs) (hb : Below w.heap.size w w') : w'.ownsRow base 5 1 v n xs := by
  refine h.kept (row := none) ⟨hb.os, hb.tape, hb.output, hb.size, fun k hk _ => hb.block k hk⟩ ?_
  cases v.ownBlock
  · exact .inl rfl
  · exact .inr (by simp)
/-- A row with numbers in it: its form, its cells. -/
theorem form {w : World} {base : Nat} {v : Value} {zs : List Int} (h : w.ownsRow base 5 1 v zs.length (fl zs)) (h0 : 0 < zs.length) :
    ∃ g cap, v = .slice (some ⟨g, 0, none⟩) zs.length cap ∧ ∀ i, i < zs.length → w.cell? ⟨g, 0 + i, none⟩ = some (.int .u8 (zs.getD i 0)) := by
  obtain ⟨g, cap, rfl, _, _⟩ := h.form h0
  refine ⟨g, cap, rfl, fun i hi => ?_⟩
  rw [Nat.zero_add, h.cellAt i (by omega)]
  unfold fl
  rw [List.getElem?_map, List.getElem?_eq_getElem hi, List.getD_eq_getElem?_getD, List.getElem?_eq_getElem hi]; rfl
end U8
end Go.Proofs.YtiipppfkpgbpeaaGreat
namespace Go.Proofs.YtiipppfkpgbpeaaGreat
set_option linter.unusedVariables false
namespace Av
open W1 Ed De
end Av
end Go.Proofs.YtiipppfkpgbpeaaGreat
namespace Go.Proofs.YtiipppfkpgbpeaaGreat
open Go.ChangeShapes Go.WideShapes Go.ChangeAt Go.RowKit
set_option linter.unusedVariables false
set_option linter.unusedSimpArgs false
attribute [local go_sem ↓] Go.wp_at_zero Go.wp_at_succ
attribute [local go_sem] Go.strOfNums_size ByteArray.size_append
namespace Av
open W1 Ed
end Av
end Go.Proofs.YtiipppfkpgbpeaaGreat
namespace Go.Proofs.YtiipppfkpgbpeaaGreat
open Go.ChangeShapes Go.WideShapes Go.ChangeAt Go.RowKit
set_option linter.unusedVariables false
namespace Av
open W1 Ed De
def HV (w : World) (b : Nat) (x y : Int) (v : Value) : Prop := w.heap[b]? = some (.cells #[.int .i64 x, .int .i64 y, v] 59 (0, 0))
theorem HV.bx {w : World} {b : Nat} {x y : Int} {v : Value} (h : HV w b x y v) : Bx3 w b x y v := by
  unfold HV at h; exact ⟨by simp [World.cell?, h], by simp [World.cell?, h], by simp [World.cell?, h]⟩
theorem HV.free {w : World} {b : Nat} {x y : Int} {v : Value} (h : HV w b x y v) (i : Nat) : w.frozen? ⟨b, i, none⟩ = false := by
  unfold HV at h; simp [World.frozen?, h]
theorem HV.lt {w : World} {b : Nat} {x y : Int} {v : Value} (h : HV w b x y v) : b < w.heap.size := lt_of_block h
theorem HV.drew {w : World} {b : Nat} {x y : Int} {v : Value} (h : HV w b x y v) : HV w.drew b x y v := h
theorem HV.under {w w' : World} {B b : Nat} {x y : Int} {v : Value} (h : HV w b x y v) (hb : Below B w w') (hl : b < B) : HV w' b x y v := (hb.block b hl).trans h
theorem HV.below {w w' : World} {b : Nat} {x y : Int} {v : Value} (h : HV w b x y v) (hb : Below w.heap.size w w') : HV w' b x y v := h.under hb h.lt
theorem HV.grown {w w' : World} {b : Nat} {x y : Int} {v : Value} {r : Option Nat} (h : HV w b x y v) (hg : w.grownBy w' r) (hne : some b ≠ r) : HV w' b x y v := (hg.block b h.lt hne).trans h
theorem hv_new (w : World) (x y : Int) (v : Value) : HV (w.alloc (.cells #[.int .i64 x, .int .i64 y, v] 59)) w.heap.size x y v := by
  unfold HV; exact heap_alloc_new w _
theorem HV.row {w : World} {b : Nat} {x y : Int} {v u : Value} {base n : Nat} {xs : List Value} (h : HV w b x y v) (hr : w.ownsRow base 141 2 u n xs) : some b ≠ u.ownBlock := by
  rcases hr.2 with ⟨rfl, _⟩ | ⟨g, cap, cur, rfl, _, hgb, _⟩
  · simp [Value.ownBlock]
  · intro e'
    obtain rfl : b = g := by simpa [Value.ownBlock] using e'
    have := (show w.heap[b]? = _ from h).symm.trans hgb
    simp at this
theorem heap_set {w : World} {b i : Nat} {c : Array Value} {t : TypeId} {fr : Nat × Nat} (u : Value) (h : w.heap[b]? = some (.cells c t fr)) : (w.setCell ⟨b, i, none⟩ u).heap[b]? = some (.cells (c.setIfInBounds i u) t fr) := by
  have hlt := lt_of_block h
  have h' : w.heap[b] = .cells c t fr := by simpa [Array.getElem?_eq_getElem hlt] using h
  show (w.heap.modify b _)[b]? = _
  rw [Array.getElem?_eq_getElem (by simpa using hlt), Array.getElem_modify_self, h']
  rfl
theorem HV.set {w : World} {b : Nat} {x y : Int} {v : Value} (u : Value) (h : HV w b x y v) : HV (w.setCell ⟨b, 2, none⟩ u) b x y u := heap_set u h
theorem HV.put {w : World} {b : Nat} {x y x' y' : Int} {v u : Value} (h : HV w b x y v) : HV (((w.setCell ⟨b, 0, none⟩ (.int .i64 x')).setCell ⟨b, 1, none⟩ (.int .i64 y')).setCell ⟨b, 2, none⟩ u) b x' y' u :=
  heap_set u (heap_set (.int .i64 y') (heap_set (.int .i64 x') h))
theorem own_below {w w' : World} {base : Nat} {v : Value} {n : Nat} {xs : List Value} (h : w.ownsRow base 141 2 v n xs) (hb : Below w.heap.size w w') : w'.ownsRow base 141 2 v n xs := by
  refine h.kept (row := none) ⟨hb.os, hb.tape, hb.output, hb.size, fun k hk _ => hb.block k hk⟩ ?_
  cases v.ownBlock
  · exact .inl rfl
  · exact .inr (by simp)
end Av
end Go.Proofs.YtiipppfkpgbpeaaGreat
