/-
  Of the texts RtrU, NetOw, NetHb, LnkM, GraM, LnkC, SetP, SetK, SetX, SetY, SetYc, GraS, LnkI, Nums, Tim, AdvM, AdvC, RtrO, NetM, NetA, RtrP, NetN, LnkA, LnkF, RtrQ, NetP, NetX, NetC, NetAn, RtrA, RtrB, NetPu, NetNw, NetSc: what this claim needs of them. (put together by mkprune.py)
-/
import Derived.Test.YtpmlpojefelbbaaQf3
import Derived.Laws.OwnMore
import Derived.Deep.AppendLies
import Derived.Deep.Cut
import Derived.Deep.QuietTactic
import Derived.BigQuiet
import Derived.Laws.NewBlocks
import Derived.Test.YtpmlpojefelbbaaShelf
import Derived.Lib.ItoaNum
import Derived.Laws.BitsAllLaws
import Derived.Laws.Shifts
namespace Go.Proofs.Ytpmlpojefelbbaa
open Go.ChangeShapes Go.WideShapes Go.ChangeAt Go.RowKit
set_option linter.unusedVariables false
set_option linter.unusedSimpArgs false
set_option maxRecDepth 100000
attribute [local go_sem ↓] Go.wp_at_zero Go.wp_at_succ
namespace Rt
open W1
theorem run_append_owned_zero {P : Program} {w : World} (base : Nat) (t ty e : TypeId) (i : TypeInfo) (size : Nat) (ht : P.underlying t = some (.slice e)) (hi : P.info? e = some i)
    (v : Value) (n : Nat) (xs : List Value) (hown : w.ownsRow base e size v n xs) (a : Option Addr) (c : Nat) :
    (Builtin.append_ #[t, t] ty #[v, .slice a 0 c]).run P w = .ok v w := by
  have h0 : ∀ (x : Addr), (loadCells x 0).run P w = .ok #[] w := fun x => run_loadCells_list (P := P) w x [] (fun j v hv => by simp at hv)
  rcases hown.2 with ⟨rfl, rfl⟩ | ⟨g, cap, cur, rfl, _, _, hnc, _⟩
  · cases a <;> simp [Builtin.append_, run_underlying ht, sizeOf, typeInfo, hi, Builtin.lenOf, Builtin.firstCells, h0, Result.andThen]
  · cases a <;> simp [Builtin.append_, run_underlying ht, sizeOf, typeInfo, hi, Builtin.lenOf, Builtin.firstCells, hnc, storeCells, h0, Result.andThen]
/-- append of nothing, wherever it lies. -/
theorem wpList_append_own_zero {P : Program} {w : World} {ops : Array Oper} {rest : List Oper} {o : Oper} {a : Act} {Q : Exit → Act → World → Prop} (hgd : o.guard = none) (s x : Operand) (t : TypeId)
    (ho : o.op = .call { callee := .builtin .append, args := #[s, x], argTypes := #[t, t] })
    (base : Nat) (e : TypeId) (i : TypeInfo) (size : Nat) (ht : P.underlying t = some (.slice e)) (hi : P.info? e = some i)
    (v : Value) (n : Nat) (xs : List Value) (hs : a.eval s = v) (hown : w.ownsRow base e size v n xs) (b : Option Addr) (c : Nat) (hx : a.eval x = .slice b 0 c)
    (h : wpList P ops Q rest (a.put o.dst v) w) : wpList P ops Q (o :: rest) a w := by
  refine wpList_plain hgd fun K hK => ?_
  have hrun := run_append_owned_zero (P := P) (w := w) base t o.type e i size ht hi v n xs hown b c
  unfold Oper.wp
  simp [execOp, ho, resolve, invoke, builtin, hs, hx, hrun, Result.andThen]
  exact hK _ _ h
theorem gb_refl (w : World) (r : Option Nat) : w.grownBy w r := ⟨rfl, rfl, rfl, Nat.le_refl _, fun _ _ _ => rfl⟩
/-- append of a list of edges that lies anywhere. -/
theorem apOE {ops : Array Oper} {rest : List Oper} {o : Oper} {a : Act} {Q : Exit → Act → World → Prop} {w : World} {base : Nat} {v : Value} {xs : List Ed.R} (hown : w.ownsRow base 79 2 v xs.length (Ed.flat xs)) (a0 : Option Addr) (c : Nat) (ms : List Ed.R) (hr : Ed.RM w a0 ms) (hlen : xs.length + ms.length ≤ 4194304) (hbase : base ≤ w.heap.size)
    (hgd : o.guard = none) (s x : Operand) (ho : o.op = .call { callee := .builtin .append, args := #[s, x], argTypes := #[44, 44] }) (hs : a.eval s = v) (hx : a.eval x = .slice a0 ms.length c)
    (h : ∀ v' w', w'.ownsRow base 79 2 v' (xs ++ ms).length (Ed.flat (xs ++ ms)) → w.grownBy w' v.ownBlock → wpList Try.prog ops Q rest (a.put o.dst v') w') : wpList Try.prog ops Q (o :: rest) a w := by
  by_cases h0 : 0 < ms.length
  · obtain ⟨g, off, rfl⟩ := hr.form h0
    exact Ed.wpList_apS hown g off ms.length c ms rfl hr hlen hbase hgd s x ho hs hx h
  · have hms : ms = [] := List.length_eq_zero_iff.1 (by omega)
    subst hms
    obtain ⟨i0, hi, _⟩ := Ed.infoR
    exact wpList_append_own_zero hgd s x _ ho base 79 i0 2 Try.underlying44 hi v _ _ hs hown a0 c hx (h v w (by rw [List.append_nil]; exact hown) (gb_refl _ _))
theorem l06OwnO (a : Option Addr) (ms : List Lk.R) (cap : Nat) (w : World) (hm : ms.length ≤ 4096) (hr : Lk.RM w a ms) :
    Calls Try.prog 52 #[.slice a ms.length cap] w fun e w' => ∃ v, e = .returned v ∧ Below w.heap.size w w' ∧ Lk.LstV w' v ms w.heap.size w'.heap.size := by
  by_cases h0 : 0 < ms.length
  · obtain ⟨g, off, rfl⟩ := hr.form h0
    exact Ln.l06Own g off ms cap _ w rfl hm hr
  · have hms : ms = [] := List.length_eq_zero_iff.1 (by omega)
    subst hms
    clear h0 hr hm
    have O0 := hide (Lk.own_empty w w.heap.size (Nat.le_refl _))
    obtain ⟨i0, hi, _⟩ := Lk.infoR
    go_enter Try.func52, Try.ntmps52
    go_wp2_with (at_builtin; refine wpList_append_own_zero rfl _ _ _ rfl w.heap.size 73 i0 6 Try.underlying39 hi _ _ _ rfl (unhide O0) _ _ rfl ?_)
    go_ret
    exact ⟨_, rfl, (Below.refl _ _).alloc (Nat.le_refl _) _, Lk.lstV_nil _ _ _ _ _⟩
theorem l03OwnO (a : Option Addr) (ms : List Tu.R) (cap : Nat) (w : World) (hm : ms.length ≤ 4096) (hr : Tu.RM w a ms) :
    Calls Try.prog 53 #[.slice a ms.length cap] w fun e w' => ∃ v, e = .returned v ∧ Below w.heap.size w w' ∧ Tu.LstV w' v ms w.heap.size w'.heap.size := by
  by_cases h0 : 0 < ms.length
  · obtain ⟨g, off, rfl⟩ := hr.form h0
    exact St.l03Own g off ms cap _ w rfl hm hr
  · have hms : ms = [] := List.length_eq_zero_iff.1 (by omega)
    subst hms
    clear h0 hr hm
    have O0 := hide (Tu.own_empty w w.heap.size (Nat.le_refl _))
    obtain ⟨i0, hi, _⟩ := Tu.infoR
    go_enter Try.func53, Try.ntmps53
    go_wp2_with (at_builtin; refine wpList_append_own_zero rfl _ _ _ rfl w.heap.size 75 i0 3 Try.underlying40 hi _ _ _ rfl (unhide O0) _ _ rfl ?_)
    go_ret
    exact ⟨_, rfl, (Below.refl _ _).alloc (Nat.le_refl _) _, Tu.lstV_nil _ _ _ _ _⟩
set_option maxHeartbeats 16000000 in
theorem l12Own (x1 x2 x3 x4 x5 x6 : Int) (a1 a2 a3 a4 a7 : Option Addr) (h5 g5 h6 g6 : Nat) (c1 c2 c3 c4 c5 c6 c7 : Nat) (ls : List Lk.R) (tw : List Tu.R) (se : List Tu.R) (du : List Tu.R) (ss : List So.R) (es : List Tu.R) (la : List Ed.R) (w : World) (hm1 : ls.length ≤ 4096) (hm2 : tw.length ≤ 4096) (hm3 : se.length ≤ 4096) (hm4 : du.length ≤ 4096) (hm5 : ss.length ≤ 4096) (hm6 : es.length ≤ 4096) (hm7 : la.length ≤ 4096) (hr1 : Lk.RM w a1 ls) (hr2 : Tu.RM w a2 tw) (hr3 : Tu.RM w a3 se) (hr4 : Tu.RM w a4 du) (hr5 : So.RM w (some ⟨h5, g5, none⟩) ss) (hr6 : Tu.RM w (some ⟨h6, g6, none⟩) es) (hr7 : Ed.RM w a7 la) :
    Calls Try.prog 47 #[.agg #[.int .i64 x1, .int .i64 x2, .int .i64 x3, .int .i64 x4, .int .i64 x5, .slice a1 ls.length c1, .slice a2 tw.length c2, .slice a3 se.length c3, .slice a4 du.length c4, .slice (some ⟨h5, g5, none⟩) ss.length c5, .slice (some ⟨h6, g6, none⟩) es.length c6, .slice a7 la.length c7, .int .i64 x6]] w fun e w' => ∃ b1 b2 b3 b4 b5 b6 b7 d1 d2 d3 d4 d5 d6 d7, e = .returned (.agg (rC x1 x2 x3 x4 x5 (.slice b1 ls.length d1) (.slice b2 tw.length d2) (.slice b3 se.length d3) (.slice b4 du.length d4) (.slice b5 ss.length d5) (.slice b6 es.length d6) (.slice b7 la.length d7) x6).toArray) ∧ Below w.heap.size w w' ∧ RL w' w.heap.size w'.heap.size b1 b2 b3 b4 b5 b6 b7 ls tw se du ss es la := by
  have HA1 : Hid (Below w.heap.size w (w.alloc (.cells #[.int .i64 x1, .int .i64 x2, .int .i64 x3, .int .i64 x4, .int .i64 x5, .slice a1 ls.length c1, .slice a2 tw.length c2, .slice a3 se.length c3, .slice a4 du.length c4, .slice (some ⟨h5, g5, none⟩) ss.length c5, .slice (some ⟨h6, g6, none⟩) es.length c6, .slice a7 la.length c7, .int .i64 x6] 46))) := hide ((Below.refl _ _).alloc (Nat.le_refl _) _)
  have HB0 : Hid (Below w.heap.size w ((w.alloc (.cells #[.int .i64 x1, .int .i64 x2, .int .i64 x3, .int .i64 x4, .int .i64 x5, .slice a1 ls.length c1, .slice a2 tw.length c2, .slice a3 se.length c3, .slice a4 du.length c4, .slice (some ⟨h5, g5, none⟩) ss.length c5, .slice (some ⟨h6, g6, none⟩) es.length c6, .slice a7 la.length c7, .int .i64 x6] 46)).alloc (.cells #[.int .i64 0, .int .i64 0, .int .i64 0, .int .i64 0, .int .i64 0, .slice none 0 0, .slice none 0 0, .slice none 0 0, .slice none 0 0, .slice none 0 0, .slice none 0 0, .slice none 0 0, .int .i64 0] 46))) := hide ((unhide HA1).alloc (unhide HA1).size _)
  have HX0 : Hid (RA ((w.alloc (.cells #[.int .i64 x1, .int .i64 x2, .int .i64 x3, .int .i64 x4, .int .i64 x5, .slice a1 ls.length c1, .slice a2 tw.length c2, .slice a3 se.length c3, .slice a4 du.length c4, .slice (some ⟨h5, g5, none⟩) ss.length c5, .slice (some ⟨h6, g6, none⟩) es.length c6, .slice a7 la.length c7, .int .i64 x6] 46)).alloc (.cells #[.int .i64 0, .int .i64 0, .int .i64 0, .int .i64 0, .int .i64 0, .slice none 0 0, .slice none 0 0, .slice none 0 0, .slice none 0 0, .slice none 0 0, .slice none 0 0, .slice none 0 0, .int .i64 0] 46)) w.heap.size (rC x1 x2 x3 x4 x5 (.slice a1 ls.length c1) (.slice a2 tw.length c2) (.slice a3 se.length c3) (.slice a4 du.length c4) (.slice (some ⟨h5, g5, none⟩) ss.length c5) (.slice (some ⟨h6, g6, none⟩) es.length c6) (.slice a7 la.length c7) x6)) := hide ((ra_new w _ rfl _).below ((Below.refl _ _).alloc (Nat.le_refl _) _))
  have HZ0 : Hid (RA ((w.alloc (.cells #[.int .i64 x1, .int .i64 x2, .int .i64 x3, .int .i64 x4, .int .i64 x5, .slice a1 ls.length c1, .slice a2 tw.length c2, .slice a3 se.length c3, .slice a4 du.length c4, .slice (some ⟨h5, g5, none⟩) ss.length c5, .slice (some ⟨h6, g6, none⟩) es.length c6, .slice a7 la.length c7, .int .i64 x6] 46)).alloc (.cells #[.int .i64 0, .int .i64 0, .int .i64 0, .int .i64 0, .int .i64 0, .slice none 0 0, .slice none 0 0, .slice none 0 0, .slice none 0 0, .slice none 0 0, .slice none 0 0, .slice none 0 0, .int .i64 0] 46)) (w.heap.size + 1) (rC 0 0 0 0 0 (.slice none 0 0) (.slice none 0 0) (.slice none 0 0) (.slice none 0 0) (.slice none 0 0) (.slice none 0 0) (.slice none 0 0) 0)) := hide (by have := ra_new (w.alloc (.cells #[.int .i64 x1, .int .i64 x2, .int .i64 x3, .int .i64 x4, .int .i64 x5, .slice a1 ls.length c1, .slice a2 tw.length c2, .slice a3 se.length c3, .slice a4 du.length c4, .slice (some ⟨h5, g5, none⟩) ss.length c5, .slice (some ⟨h6, g6, none⟩) es.length c6, .slice a7 la.length c7, .int .i64 x6] 46)) (rC 0 0 0 0 0 (.slice none 0 0) (.slice none 0 0) (.slice none 0 0) (.slice none 0 0) (.slice none 0 0) (.slice none 0 0) (.slice none 0 0) 0) rfl 46; rw [show (w.alloc (.cells #[.int .i64 x1, .int .i64 x2, .int .i64 x3, .int .i64 x4, .int .i64 x5, .slice a1 ls.length c1, .slice a2 tw.length c2, .slice a3 se.length c3, .slice a4 du.length c4, .slice (some ⟨h5, g5, none⟩) ss.length c5, .slice (some ⟨h6, g6, none⟩) es.length c6, .slice a7 la.length c7, .int .i64 x6] 46)).heap.size = w.heap.size + 1 by simp] at this; exact this)
  have hq0 : (((w.alloc (.cells #[.int .i64 x1, .int .i64 x2, .int .i64 x3, .int .i64 x4, .int .i64 x5, .slice a1 ls.length c1, .slice a2 tw.length c2, .slice a3 se.length c3, .slice a4 du.length c4, .slice (some ⟨h5, g5, none⟩) ss.length c5, .slice (some ⟨h6, g6, none⟩) es.length c6, .slice a7 la.length c7, .int .i64 x6] 46)).alloc (.cells #[.int .i64 0, .int .i64 0, .int .i64 0, .int .i64 0, .int .i64 0, .slice none 0 0, .slice none 0 0, .slice none 0 0, .slice none 0 0, .slice none 0 0, .slice none 0 0, .slice none 0 0, .int .i64 0] 46))).heap.size = w.heap.size + 2 := by simp
  have HR1 := hide hr1
  have HR2 := hide hr2
  have HR3 := hide hr3
  have HR4 := hide hr4
  have HR5 := hide hr5
  have HR6 := hide hr6
  have HR7 := hide hr7
  clear hr1 hr2 hr3 hr4 hr5 hr6 hr7 HA1
  have z5 := (unhide HX0).at (i := 5) rfl
  go_enter Try.func47, Try.ntmps47
  go_wp2_with fail
  clear z5
  generalize hW : ((w.alloc (.cells #[.int .i64 x1, .int .i64 x2, .int .i64 x3, .int .i64 x4, .int .i64 x5, .slice a1 ls.length c1, .slice a2 tw.length c2, .slice a3 se.length c3, .slice a4 du.length c4, .slice (some ⟨h5, g5, none⟩) ss.length c5, .slice (some ⟨h6, g6, none⟩) es.length c6, .slice a7 la.length c7, .int .i64 x6] 46)).alloc (.cells #[.int .i64 0, .int .i64 0, .int .i64 0, .int .i64 0, .int .i64 0, .slice none 0 0, .slice none 0 0, .slice none 0 0, .slice none 0 0, .slice none 0 0, .slice none 0 0, .slice none 0 0, .int .i64 0] 46)) = V0 at *
  clear hW
  refine (l06OwnO a1 ls c1 _ hm1 ((unhide HR1).below (unhide HB0))).mono ?_
  rintro e V1 ⟨v1, rfl, b_, l_⟩
  obtain ⟨b1, d1, rfl, L_⟩ := l_
  have HB1 := hide ((unhide HB0).trans (b_.mono (unhide HB0).size))
  have HX1 := hide ((unhide HX0).below b_)
  have HZ1 := hide ((unhide HZ0).below b_)
  have hq1 := b_.size
  clear HX0 HZ0 
  have U1_1 := hide L_
  clear L_ b_
  obtain ⟨V2, hV2⟩ : ∃ V, (V1.setCell ⟨w.heap.size, 5, none⟩ (.slice b1 ls.length d1)) = V := ⟨_, rfl⟩
  have HB2 : Hid (Below w.heap.size w V2) := hide (by rw [← hV2]; exact ((unhide HB1).setCell (p := ⟨w.heap.size, 5, none⟩) (Nat.le_refl _) (.slice b1 ls.length d1)))
  have HX2 : Hid (RA V2 w.heap.size (rC x1 x2 x3 x4 x5 (.slice b1 ls.length d1) (.slice a2 tw.length c2) (.slice a3 se.length c3) (.slice a4 du.length c4) (.slice (some ⟨h5, g5, none⟩) ss.length c5) (.slice (some ⟨h6, g6, none⟩) es.length c6) (.slice a7 la.length c7) x6)) := hide (by rw [← hV2]; exact (RA.set (unhide HX1) (k := 5) (by omega) (.slice b1 ls.length d1)))
  have HZ2 : Hid (RA V2 (w.heap.size + 1) (rC 0 0 0 0 0 (.slice none 0 0) (.slice none 0 0) (.slice none 0 0) (.slice none 0 0) (.slice none 0 0) (.slice none 0 0) (.slice none 0 0) 0)) := hide (by rw [← hV2]; exact (RA.other (unhide HZ1) (p := ⟨w.heap.size, 5, none⟩) (by show w.heap.size + 1 ≠ w.heap.size; omega) (.slice b1 ls.length d1)))
  have hq2 : V2.heap.size = V1.heap.size := by rw [← hV2]; simp [World.setCell]
  have hk2 : ∀ k, k < V1.heap.size → k ≠ w.heap.size → V2.heap[k]? = V1.heap[k]? := fun k _ h => by rw [← hV2]; exact (Below.heap_setCell _ _ _ _ h)
  have U1_2 := hide ((unhide U1_1).but (p := fun k => k ≠ w.heap.size) (by omega) hk2 (fun k h1 h2 => by omega))
  have HV2 := hide hV2
  clear hV2 hk2
  have o5 := (unhide HX1).at (i := 5) rfl
  have f5 := (unhide HX1).free (i := 5) (by omega)
  have z6 := (unhide HX1).at (i := 6) rfl
  go_wp2_with fail
  rw [unhide HV2]
  clear o5 f5 z6 HX1 HZ1 U1_1
  refine (l03OwnO a2 tw c2 _ hm2 ((unhide HR2).below (unhide HB2))).mono ?_
  rintro e V3 ⟨v3, rfl, b_, l_⟩
  obtain ⟨b2, d2, rfl, L_⟩ := l_
  have HB3 := hide ((unhide HB2).trans (b_.mono (unhide HB2).size))
  have HX3 := hide ((unhide HX2).below b_)
  have HZ3 := hide ((unhide HZ2).below b_)
  have U1_3 := hide ((unhide U1_2).below b_)
  have hq3 := b_.size
  clear HX2 HZ2 U1_2
  have U2_3 := hide L_
  clear L_ b_
  obtain ⟨V4, hV4⟩ : ∃ V, (V3.setCell ⟨w.heap.size, 6, none⟩ (.slice b2 tw.length d2)) = V := ⟨_, rfl⟩
  have HB4 : Hid (Below w.heap.size w V4) := hide (by rw [← hV4]; exact ((unhide HB3).setCell (p := ⟨w.heap.size, 6, none⟩) (Nat.le_refl _) (.slice b2 tw.length d2)))
  have HX4 : Hid (RA V4 w.heap.size (rC x1 x2 x3 x4 x5 (.slice b1 ls.length d1) (.slice b2 tw.length d2) (.slice a3 se.length c3) (.slice a4 du.length c4) (.slice (some ⟨h5, g5, none⟩) ss.length c5) (.slice (some ⟨h6, g6, none⟩) es.length c6) (.slice a7 la.length c7) x6)) := hide (by rw [← hV4]; exact (RA.set (unhide HX3) (k := 6) (by omega) (.slice b2 tw.length d2)))
  have HZ4 : Hid (RA V4 (w.heap.size + 1) (rC 0 0 0 0 0 (.slice none 0 0) (.slice none 0 0) (.slice none 0 0) (.slice none 0 0) (.slice none 0 0) (.slice none 0 0) (.slice none 0 0) 0)) := hide (by rw [← hV4]; exact (RA.other (unhide HZ3) (p := ⟨w.heap.size, 6, none⟩) (by show w.heap.size + 1 ≠ w.heap.size; omega) (.slice b2 tw.length d2)))
  have hq4 : V4.heap.size = V3.heap.size := by rw [← hV4]; simp [World.setCell]
  have hk4 : ∀ k, k < V3.heap.size → k ≠ w.heap.size → V4.heap[k]? = V3.heap[k]? := fun k _ h => by rw [← hV4]; exact (Below.heap_setCell _ _ _ _ h)
  have U1_4 := hide ((unhide U1_3).but (p := fun k => k ≠ w.heap.size) (by omega) hk4 (fun k h1 h2 => by omega))
  have U2_4 := hide ((unhide U2_3).but (p := fun k => k ≠ w.heap.size) (by omega) hk4 (fun k h1 h2 => by omega))
  have HV4 := hide hV4
  clear hV4 hk4
  have o6 := (unhide HX3).at (i := 6) rfl
  have f6 := (unhide HX3).free (i := 6) (by omega)
  have z7 := (unhide HX3).at (i := 7) rfl
  go_wp2_with fail
  rw [unhide HV4]
  clear o6 f6 z7 HX3 HZ3 U1_3 U2_3
  refine (l03OwnO a3 se c3 _ hm3 ((unhide HR3).below (unhide HB4))).mono ?_
  rintro e V5 ⟨v5, rfl, b_, l_⟩
  obtain ⟨b3, d3, rfl, L_⟩ := l_
  have HB5 := hide ((unhide HB4).trans (b_.mono (unhide HB4).size))
  have HX5 := hide ((unhide HX4).below b_)
  have HZ5 := hide ((unhide HZ4).below b_)
  have U1_5 := hide ((unhide U1_4).below b_)
  have U2_5 := hide ((unhide U2_4).below b_)
  have hq5 := b_.size
  clear HX4 HZ4 U1_4 U2_4
  have U3_5 := hide L_
  clear L_ b_
  obtain ⟨V6, hV6⟩ : ∃ V, (V5.setCell ⟨w.heap.size, 7, none⟩ (.slice b3 se.length d3)) = V := ⟨_, rfl⟩
  have HB6 : Hid (Below w.heap.size w V6) := hide (by rw [← hV6]; exact ((unhide HB5).setCell (p := ⟨w.heap.size, 7, none⟩) (Nat.le_refl _) (.slice b3 se.length d3)))
  have HX6 : Hid (RA V6 w.heap.size (rC x1 x2 x3 x4 x5 (.slice b1 ls.length d1) (.slice b2 tw.length d2) (.slice b3 se.length d3) (.slice a4 du.length c4) (.slice (some ⟨h5, g5, none⟩) ss.length c5) (.slice (some ⟨h6, g6, none⟩) es.length c6) (.slice a7 la.length c7) x6)) := hide (by rw [← hV6]; exact (RA.set (unhide HX5) (k := 7) (by omega) (.slice b3 se.length d3)))
  have HZ6 : Hid (RA V6 (w.heap.size + 1) (rC 0 0 0 0 0 (.slice none 0 0) (.slice none 0 0) (.slice none 0 0) (.slice none 0 0) (.slice none 0 0) (.slice none 0 0) (.slice none 0 0) 0)) := hide (by rw [← hV6]; exact (RA.other (unhide HZ5) (p := ⟨w.heap.size, 7, none⟩) (by show w.heap.size + 1 ≠ w.heap.size; omega) (.slice b3 se.length d3)))
  have hq6 : V6.heap.size = V5.heap.size := by rw [← hV6]; simp [World.setCell]
  have hk6 : ∀ k, k < V5.heap.size → k ≠ w.heap.size → V6.heap[k]? = V5.heap[k]? := fun k _ h => by rw [← hV6]; exact (Below.heap_setCell _ _ _ _ h)
  have U1_6 := hide ((unhide U1_5).but (p := fun k => k ≠ w.heap.size) (by omega) hk6 (fun k h1 h2 => by omega))
  have U2_6 := hide ((unhide U2_5).but (p := fun k => k ≠ w.heap.size) (by omega) hk6 (fun k h1 h2 => by omega))
  have U3_6 := hide ((unhide U3_5).but (p := fun k => k ≠ w.heap.size) (by omega) hk6 (fun k h1 h2 => by omega))
  have HV6 := hide hV6
  clear hV6 hk6
  have o7 := (unhide HX5).at (i := 7) rfl
  have f7 := (unhide HX5).free (i := 7) (by omega)
  have z8 := (unhide HX5).at (i := 8) rfl
  go_wp2_with fail
  rw [unhide HV6]
  clear o7 f7 z8 HX5 HZ5 U1_5 U2_5 U3_5
  refine (l03OwnO a4 du c4 _ hm4 ((unhide HR4).below (unhide HB6))).mono ?_
  rintro e V7 ⟨v7, rfl, b_, l_⟩
  obtain ⟨b4, d4, rfl, L_⟩ := l_
  have HB7 := hide ((unhide HB6).trans (b_.mono (unhide HB6).size))
  have HX7 := hide ((unhide HX6).below b_)
  have HZ7 := hide ((unhide HZ6).below b_)
  have U1_7 := hide ((unhide U1_6).below b_)
  have U2_7 := hide ((unhide U2_6).below b_)
  have U3_7 := hide ((unhide U3_6).below b_)
  have hq7 := b_.size
  clear HX6 HZ6 U1_6 U2_6 U3_6
  have U4_7 := hide L_
  clear L_ b_
  obtain ⟨V8, hV8⟩ : ∃ V, (V7.setCell ⟨w.heap.size, 8, none⟩ (.slice b4 du.length d4)) = V := ⟨_, rfl⟩
  have HB8 : Hid (Below w.heap.size w V8) := hide (by rw [← hV8]; exact ((unhide HB7).setCell (p := ⟨w.heap.size, 8, none⟩) (Nat.le_refl _) (.slice b4 du.length d4)))
  have HX8 : Hid (RA V8 w.heap.size (rC x1 x2 x3 x4 x5 (.slice b1 ls.length d1) (.slice b2 tw.length d2) (.slice b3 se.length d3) (.slice b4 du.length d4) (.slice (some ⟨h5, g5, none⟩) ss.length c5) (.slice (some ⟨h6, g6, none⟩) es.length c6) (.slice a7 la.length c7) x6)) := hide (by rw [← hV8]; exact (RA.set (unhide HX7) (k := 8) (by omega) (.slice b4 du.length d4)))
  have HZ8 : Hid (RA V8 (w.heap.size + 1) (rC 0 0 0 0 0 (.slice none 0 0) (.slice none 0 0) (.slice none 0 0) (.slice none 0 0) (.slice none 0 0) (.slice none 0 0) (.slice none 0 0) 0)) := hide (by rw [← hV8]; exact (RA.other (unhide HZ7) (p := ⟨w.heap.size, 8, none⟩) (by show w.heap.size + 1 ≠ w.heap.size; omega) (.slice b4 du.length d4)))
  have hq8 : V8.heap.size = V7.heap.size := by rw [← hV8]; simp [World.setCell]
  have hk8 : ∀ k, k < V7.heap.size → k ≠ w.heap.size → V8.heap[k]? = V7.heap[k]? := fun k _ h => by rw [← hV8]; exact (Below.heap_setCell _ _ _ _ h)
  have U1_8 := hide ((unhide U1_7).but (p := fun k => k ≠ w.heap.size) (by omega) hk8 (fun k h1 h2 => by omega))
  have U2_8 := hide ((unhide U2_7).but (p := fun k => k ≠ w.heap.size) (by omega) hk8 (fun k h1 h2 => by omega))
  have U3_8 := hide ((unhide U3_7).but (p := fun k => k ≠ w.heap.size) (by omega) hk8 (fun k h1 h2 => by omega))
  have U4_8 := hide ((unhide U4_7).but (p := fun k => k ≠ w.heap.size) (by omega) hk8 (fun k h1 h2 => by omega))
  have HV8 := hide hV8
  clear hV8 hk8
  have o8 := (unhide HX7).at (i := 8) rfl
  have f8 := (unhide HX7).free (i := 8) (by omega)
  have z9 := (unhide HX7).at (i := 9) rfl
  have z10 := (unhide HX7).at (i := 10) rfl
  go_wp2_with fail
  rw [unhide HV8]
  clear o8 f8 z9 z10 HX7 HZ7 U1_7 U2_7 U3_7 U4_7
  refine (Tp.l09Own h5 g5 ss c5 h6 g6 es c6 _ hm5 hm6 ((unhide HR5).below (unhide HB8)) ((unhide HR6).below (unhide HB8))).mono ?_
  rintro e V9 ⟨v9, rfl, b_, l_⟩
  obtain ⟨gg5, d5, gg6, d6, mid, rfl, _, L5_, L6_, hmi, hmj⟩ := l_
  obtain ⟨b5, hb5⟩ : ∃ b5, some (⟨gg5, 0, none⟩ : Addr) = b5 := ⟨_, rfl⟩
  obtain ⟨b6, hb6⟩ : ∃ b6, some (⟨gg6, 0, none⟩ : Addr) = b6 := ⟨_, rfl⟩
  rw [hb5] at L5_
  rw [hb6] at L6_
  rw [hb5, hb6]
  clear hb5 hb6
  have HB9 := hide ((unhide HB8).trans (b_.mono (unhide HB8).size))
  have HX9 := hide ((unhide HX8).below b_)
  have HZ9 := hide ((unhide HZ8).below b_)
  have U1_9 := hide ((unhide U1_8).below b_)
  have U2_9 := hide ((unhide U2_8).below b_)
  have U3_9 := hide ((unhide U3_8).below b_)
  have U4_9 := hide ((unhide U4_8).below b_)
  have hq9 := b_.size
  clear HX8 HZ8 U1_8 U2_8 U3_8 U4_8
  have U5_9 := hide L5_
  have U6_9 := hide L6_
  clear L5_ L6_ b_
  obtain ⟨V10, hV10⟩ : ∃ V, ((V9.setCell ⟨w.heap.size, 9, none⟩ (.slice b5 ss.length d5)).setCell ⟨w.heap.size, 10, none⟩ (.slice b6 es.length d6)) = V := ⟨_, rfl⟩
  have HB10 : Hid (Below w.heap.size w V10) := hide (by rw [← hV10]; exact (((unhide HB9).setCell (p := ⟨w.heap.size, 9, none⟩) (Nat.le_refl _) (.slice b5 ss.length d5)).setCell (p := ⟨w.heap.size, 10, none⟩) (Nat.le_refl _) (.slice b6 es.length d6)))
  have HX10 : Hid (RA V10 w.heap.size (rC x1 x2 x3 x4 x5 (.slice b1 ls.length d1) (.slice b2 tw.length d2) (.slice b3 se.length d3) (.slice b4 du.length d4) (.slice b5 ss.length d5) (.slice b6 es.length d6) (.slice a7 la.length c7) x6)) := hide (by rw [← hV10]; exact (RA.set (RA.set (unhide HX9) (k := 9) (by omega) (.slice b5 ss.length d5)) (k := 10) (by omega) (.slice b6 es.length d6)))
  have HZ10 : Hid (RA V10 (w.heap.size + 1) (rC 0 0 0 0 0 (.slice none 0 0) (.slice none 0 0) (.slice none 0 0) (.slice none 0 0) (.slice none 0 0) (.slice none 0 0) (.slice none 0 0) 0)) := hide (by rw [← hV10]; exact (RA.other (RA.other (unhide HZ9) (p := ⟨w.heap.size, 9, none⟩) (by show w.heap.size + 1 ≠ w.heap.size; omega) (.slice b5 ss.length d5)) (p := ⟨w.heap.size, 10, none⟩) (by show w.heap.size + 1 ≠ w.heap.size; omega) (.slice b6 es.length d6)))
  have hq10 : V10.heap.size = V9.heap.size := by rw [← hV10]; simp [World.setCell]
  have hk10 : ∀ k, k < V9.heap.size → k ≠ w.heap.size → V10.heap[k]? = V9.heap[k]? := fun k _ h => by rw [← hV10]; exact ((Below.heap_setCell _ _ _ _ h).trans (Below.heap_setCell _ _ _ _ h))
  have U1_10 := hide ((unhide U1_9).but (p := fun k => k ≠ w.heap.size) (by omega) hk10 (fun k h1 h2 => by omega))
  have U2_10 := hide ((unhide U2_9).but (p := fun k => k ≠ w.heap.size) (by omega) hk10 (fun k h1 h2 => by omega))
  have U3_10 := hide ((unhide U3_9).but (p := fun k => k ≠ w.heap.size) (by omega) hk10 (fun k h1 h2 => by omega))
  have U4_10 := hide ((unhide U4_9).but (p := fun k => k ≠ w.heap.size) (by omega) hk10 (fun k h1 h2 => by omega))
  have U5_10 := hide ((unhide U5_9).but (p := fun k => k ≠ w.heap.size) (by omega) hk10 (fun k h1 h2 => by omega))
  have U6_10 := hide ((unhide U6_9).but (p := fun k => k ≠ w.heap.size) (by omega) hk10 (fun k h1 h2 => by omega))
  have HV10 := hide hV10
  clear hV10 hk10
  have o9 := (unhide HX9).at (i := 9) rfl
  have f9 := (unhide HX9).free (i := 9) (by omega)
  have o10 := (unhide HX9).at (i := 10) rfl
  have f10 := (unhide HX9).free (i := 10) (by omega)
  clear HX9 HZ9 U1_9 U2_9 U3_9 U4_9 U5_9 U6_9
  have HBe : Hid (Below w.heap.size w (((V9.setCell ⟨w.heap.size, 9, none⟩ (.slice b5 ss.length d5)).setCell ⟨w.heap.size, 10, none⟩ (.slice b6 es.length d6)).alloc (.cells #[] 79))) := hide (by rw [unhide HV10]; exact (unhide HB10).alloc (unhide HB10).size _)
  have HXe : Hid (RA (((V9.setCell ⟨w.heap.size, 9, none⟩ (.slice b5 ss.length d5)).setCell ⟨w.heap.size, 10, none⟩ (.slice b6 es.length d6)).alloc (.cells #[] 79)) w.heap.size (rC x1 x2 x3 x4 x5 (.slice b1 ls.length d1) (.slice b2 tw.length d2) (.slice b3 se.length d3) (.slice b4 du.length d4) (.slice b5 ss.length d5) (.slice b6 es.length d6) (.slice a7 la.length c7) x6)) := hide (by rw [unhide HV10]; exact (unhide HX10).below ((Below.refl _ _).alloc (Nat.le_refl _) _))
  have HZe : Hid (RA (((V9.setCell ⟨w.heap.size, 9, none⟩ (.slice b5 ss.length d5)).setCell ⟨w.heap.size, 10, none⟩ (.slice b6 es.length d6)).alloc (.cells #[] 79)) (w.heap.size + 1) (rC 0 0 0 0 0 (.slice none 0 0) (.slice none 0 0) (.slice none 0 0) (.slice none 0 0) (.slice none 0 0) (.slice none 0 0) (.slice none 0 0) 0)) := hide (by rw [unhide HV10]; exact (unhide HZ10).below ((Below.refl _ _).alloc (Nat.le_refl _) _))
  have U1_e := hide (by rw [unhide HV10]; exact (unhide U1_10).below ((Below.refl _ _).alloc (Nat.le_refl _) (.cells #[] 79)) : Lk.Lst (((V9.setCell ⟨w.heap.size, 9, none⟩ (.slice b5 ss.length d5)).setCell ⟨w.heap.size, 10, none⟩ (.slice b6 es.length d6)).alloc (.cells #[] 79)) b1 ls V0.heap.size V1.heap.size)
  have U2_e := hide (by rw [unhide HV10]; exact (unhide U2_10).below ((Below.refl _ _).alloc (Nat.le_refl _) (.cells #[] 79)) : Tu.Lst (((V9.setCell ⟨w.heap.size, 9, none⟩ (.slice b5 ss.length d5)).setCell ⟨w.heap.size, 10, none⟩ (.slice b6 es.length d6)).alloc (.cells #[] 79)) b2 tw V2.heap.size V3.heap.size)
  have U3_e := hide (by rw [unhide HV10]; exact (unhide U3_10).below ((Below.refl _ _).alloc (Nat.le_refl _) (.cells #[] 79)) : Tu.Lst (((V9.setCell ⟨w.heap.size, 9, none⟩ (.slice b5 ss.length d5)).setCell ⟨w.heap.size, 10, none⟩ (.slice b6 es.length d6)).alloc (.cells #[] 79)) b3 se V4.heap.size V5.heap.size)
  have U4_e := hide (by rw [unhide HV10]; exact (unhide U4_10).below ((Below.refl _ _).alloc (Nat.le_refl _) (.cells #[] 79)) : Tu.Lst (((V9.setCell ⟨w.heap.size, 9, none⟩ (.slice b5 ss.length d5)).setCell ⟨w.heap.size, 10, none⟩ (.slice b6 es.length d6)).alloc (.cells #[] 79)) b4 du V6.heap.size V7.heap.size)
  have U5_e := hide (by rw [unhide HV10]; exact (unhide U5_10).below ((Below.refl _ _).alloc (Nat.le_refl _) (.cells #[] 79)) : So.Lst (((V9.setCell ⟨w.heap.size, 9, none⟩ (.slice b5 ss.length d5)).setCell ⟨w.heap.size, 10, none⟩ (.slice b6 es.length d6)).alloc (.cells #[] 79)) b5 ss V8.heap.size mid)
  have U6_e := hide (by rw [unhide HV10]; exact (unhide U6_10).below ((Below.refl _ _).alloc (Nat.le_refl _) (.cells #[] 79)) : Tu.Lst (((V9.setCell ⟨w.heap.size, 9, none⟩ (.slice b5 ss.length d5)).setCell ⟨w.heap.size, 10, none⟩ (.slice b6 es.length d6)).alloc (.cells #[] 79)) b6 es mid V9.heap.size)
  have O0 : Hid ((((V9.setCell ⟨w.heap.size, 9, none⟩ (.slice b5 ss.length d5)).setCell ⟨w.heap.size, 10, none⟩ (.slice b6 es.length d6)).alloc (.cells #[] 79)).ownsRow V9.heap.size 79 2 (.slice (some ⟨V9.heap.size, 0, none⟩) 0 0) ([] : List Ed.R).length (Ed.flat [])) := hide (by rw [unhide HV10, ← hq10]; exact Ed.own_empty V10 V10.heap.size (Nat.le_refl _))
  have HRe := hide ((unhide HR7).below (unhide HBe))
  have z11 := (unhide HXe).at (i := 11) rfl
  have hse : (((V9.setCell ⟨w.heap.size, 9, none⟩ (.slice b5 ss.length d5)).setCell ⟨w.heap.size, 10, none⟩ (.slice b6 es.length d6)).alloc (.cells #[] 79)).heap.size = V9.heap.size + 1 := by simp [World.setCell]
  have HSE := hide hse
  clear hse
  go_wp2_with (first | (at_builtin; refine apOE (unhide O0) a7 c7 la (unhide HRe) (by simp; omega) (by rw [unhide HSE]; omega) rfl _ _ rfl rfl rfl ?_; intro v8 V8 ho hg; have HB8 := hide (Ed.below_own (unhide HBe) (unhide O0) hg (by omega) (by rw [unhide HSE]; omega)); have HX8 := hide (RA.but (unhide HXe) (hg.block w.heap.size (by rw [unhide HSE]; omega) (fun e => by have := ((unhide O0).lt w.heap.size e.symm).1; omega))); have HZ8 := hide (RA.but (unhide HZe) (hg.block (w.heap.size + 1) (by rw [unhide HSE]; omega) (fun e => by have := ((unhide O0).lt (w.heap.size + 1) e.symm).1; omega))); have U1_8 := hide ((unhide U1_e).but (p := fun k => some k ≠ (Value.slice (some ⟨V9.heap.size, 0, none⟩) 0 0).ownBlock) hg.size (fun k hk h => hg.block k hk h) (fun k h1 h2 e => by have := ((unhide O0).lt k e.symm).1; omega)); have U2_8 := hide ((unhide U2_e).but (p := fun k => some k ≠ (Value.slice (some ⟨V9.heap.size, 0, none⟩) 0 0).ownBlock) hg.size (fun k hk h => hg.block k hk h) (fun k h1 h2 e => by have := ((unhide O0).lt k e.symm).1; omega)); have U3_8 := hide ((unhide U3_e).but (p := fun k => some k ≠ (Value.slice (some ⟨V9.heap.size, 0, none⟩) 0 0).ownBlock) hg.size (fun k hk h => hg.block k hk h) (fun k h1 h2 e => by have := ((unhide O0).lt k e.symm).1; omega)); have U4_8 := hide ((unhide U4_e).but (p := fun k => some k ≠ (Value.slice (some ⟨V9.heap.size, 0, none⟩) 0 0).ownBlock) hg.size (fun k hk h => hg.block k hk h) (fun k h1 h2 e => by have := ((unhide O0).lt k e.symm).1; omega)); have U5_8 := hide ((unhide U5_e).but (p := fun k => some k ≠ (Value.slice (some ⟨V9.heap.size, 0, none⟩) 0 0).ownBlock) hg.size (fun k hk h => hg.block k hk h) (fun k h1 h2 e => by have := ((unhide O0).lt k e.symm).1; omega)); have U6_8 := hide ((unhide U6_e).but (p := fun k => some k ≠ (Value.slice (some ⟨V9.heap.size, 0, none⟩) 0 0).ownBlock) hg.size (fun k hk h => hg.block k hk h) (fun k h1 h2 e => by have := ((unhide O0).lt k e.symm).1; omega)); have HL8 := hide (Ed.lst_own rfl ho); have HS8 := hide hg.size; clear ho hg; obtain ⟨b7, d7, hv8, HLL⟩ := unhide HL8; simp only [List.nil_append] at hv8 HLL; subst hv8; have U7_8 := hide HLL; clear HLL HL8; have o11 := (unhide HX8).at (i := 11) rfl; have f11 := (unhide HX8).free (i := 11) (by omega); have HOF : Hid (RA (V8.setCell ⟨w.heap.size, 11, none⟩ (.slice b7 la.length d7)) w.heap.size (rC x1 x2 x3 x4 x5 (.slice b1 ls.length d1) (.slice b2 tw.length d2) (.slice b3 se.length d3) (.slice b4 du.length d4) (.slice b5 ss.length d5) (.slice b6 es.length d6) (.slice b7 la.length d7) x6)) := hide (RA.set (unhide HX8) (k := 11) (by omega) (.slice b7 la.length d7)); have HZF : Hid (RA (V8.setCell ⟨w.heap.size, 11, none⟩ (.slice b7 la.length d7)) (w.heap.size + 1) (rC 0 0 0 0 0 (.slice none 0 0) (.slice none 0 0) (.slice none 0 0) (.slice none 0 0) (.slice none 0 0) (.slice none 0 0) (.slice none 0 0) 0)) := hide (RA.other (unhide HZ8) (p := ⟨w.heap.size, 11, none⟩) (by show w.heap.size + 1 ≠ w.heap.size; omega) (.slice b7 la.length d7)); have HBS : Hid (Below w.heap.size w (V8.setCell ⟨w.heap.size, 11, none⟩ (.slice b7 la.length d7))) := hide ((unhide HB8).setCell (p := ⟨w.heap.size, 11, none⟩) (Nat.le_refl _) (.slice b7 la.length d7)); have hqS : (V8.setCell ⟨w.heap.size, 11, none⟩ (.slice b7 la.length d7)).heap.size = V8.heap.size := (by simp [World.setCell]); have HQS := hide hqS; clear hqS) | (refine wpList_loadR (cs := [.int .i64 x1, .int .i64 x2, .int .i64 x3, .int .i64 x4, .int .i64 x5, .slice b1 ls.length d1, .slice b2 tw.length d2, .slice b3 se.length d3, .slice b4 du.length d4, .slice b5 ss.length d5, .slice b6 es.length d6, .slice b7 la.length d7, .int .i64 x6]) _ rfl rfl rfl (unhide HOF) ?_) | (refine wpList_storeR2 _ _ rfl rfl (rC x1 x2 x3 x4 x5 (.slice b1 ls.length d1) (.slice b2 tw.length d2) (.slice b3 se.length d3) (.slice b4 du.length d4) (.slice b5 ss.length d5) (.slice b6 es.length d6) (.slice b7 la.length d7) x6) (rC_ones rfl rfl rfl rfl rfl rfl rfl) rfl rfl (unhide HZF).2.1 ?_; intro VF raF bbF hsF kkF; have HRF := hide raF; have HBF := hide (bbF _ _ (unhide HBS) (by omega)); have HUF := hide kkF; have hqF := hsF.trans (unhide HQS); clear raF bbF hsF kkF))
  have hs8 := unhide HS8
  rw [unhide HSE] at hs8
  refine bodyPost_ret (resultsR rfl _ _ rfl (unhide HRF)) rfl ⟨b1, b2, b3, b4, b5, b6, b7, d1, d2, d3, d4, d5, d6, d7, rfl, unhide HBF, V1.heap.size, V3.heap.size, V5.heap.size, V7.heap.size, mid, V9.heap.size, ⟨by omega, by omega, by omega, by omega, by omega, by omega, by omega⟩, (((unhide U1_8).but (p := fun k => k ≠ w.heap.size) (by simp [World.setCell]) (fun k hk h => Below.heap_setCell _ _ _ _ h) (fun k h1 h2 => by omega) : Lk.Lst (V8.setCell ⟨w.heap.size, 11, none⟩ (.slice b7 la.length d7)) _ _ _ _).but (p := fun k => k ≠ w.heap.size + 1) (by rw [unhide HQS]; omega) (fun k hk h => unhide HUF k h) (fun k h1 h2 => by omega)).mono (by omega) (by omega), (((unhide U2_8).but (p := fun k => k ≠ w.heap.size) (by simp [World.setCell]) (fun k hk h => Below.heap_setCell _ _ _ _ h) (fun k h1 h2 => by omega) : Tu.Lst (V8.setCell ⟨w.heap.size, 11, none⟩ (.slice b7 la.length d7)) _ _ _ _).but (p := fun k => k ≠ w.heap.size + 1) (by rw [unhide HQS]; omega) (fun k hk h => unhide HUF k h) (fun k h1 h2 => by omega)).mono (by omega) (by omega), (((unhide U3_8).but (p := fun k => k ≠ w.heap.size) (by simp [World.setCell]) (fun k hk h => Below.heap_setCell _ _ _ _ h) (fun k h1 h2 => by omega) : Tu.Lst (V8.setCell ⟨w.heap.size, 11, none⟩ (.slice b7 la.length d7)) _ _ _ _).but (p := fun k => k ≠ w.heap.size + 1) (by rw [unhide HQS]; omega) (fun k hk h => unhide HUF k h) (fun k h1 h2 => by omega)).mono (by omega) (by omega), (((unhide U4_8).but (p := fun k => k ≠ w.heap.size) (by simp [World.setCell]) (fun k hk h => Below.heap_setCell _ _ _ _ h) (fun k h1 h2 => by omega) : Tu.Lst (V8.setCell ⟨w.heap.size, 11, none⟩ (.slice b7 la.length d7)) _ _ _ _).but (p := fun k => k ≠ w.heap.size + 1) (by rw [unhide HQS]; omega) (fun k hk h => unhide HUF k h) (fun k h1 h2 => by omega)).mono (by omega) (by omega), (((unhide U5_8).but (p := fun k => k ≠ w.heap.size) (by simp [World.setCell]) (fun k hk h => Below.heap_setCell _ _ _ _ h) (fun k h1 h2 => by omega) : So.Lst (V8.setCell ⟨w.heap.size, 11, none⟩ (.slice b7 la.length d7)) _ _ _ _).but (p := fun k => k ≠ w.heap.size + 1) (by rw [unhide HQS]; omega) (fun k hk h => unhide HUF k h) (fun k h1 h2 => by omega)).mono (by omega) (by omega), (((unhide U6_8).but (p := fun k => k ≠ w.heap.size) (by simp [World.setCell]) (fun k hk h => Below.heap_setCell _ _ _ _ h) (fun k h1 h2 => by omega) : Tu.Lst (V8.setCell ⟨w.heap.size, 11, none⟩ (.slice b7 la.length d7)) _ _ _ _).but (p := fun k => k ≠ w.heap.size + 1) (by rw [unhide HQS]; omega) (fun k hk h => unhide HUF k h) (fun k h1 h2 => by omega)).mono (by omega) (by omega), (((unhide U7_8).but (p := fun k => k ≠ w.heap.size) (by simp [World.setCell]) (fun k hk h => Below.heap_setCell _ _ _ _ h) (fun k h1 h2 => by omega) : Ed.Lst (V8.setCell ⟨w.heap.size, 11, none⟩ (.slice b7 la.length d7)) _ _ _ _).but (p := fun k => k ≠ w.heap.size + 1) (by rw [unhide HQS]; omega) (fun k hk h => unhide HUF k h) (fun k h1 h2 => by omega)).mono (by omega) (by omega)⟩
end Rt
end Go.Proofs.Ytpmlpojefelbbaa
namespace Go.Proofs.Ytpmlpojefelbbaa
open Go.ChangeShapes Go.WideShapes Go.ChangeAt Go.RowKit
set_option linter.unusedVariables false
set_option linter.unusedSimpArgs false
set_option maxRecDepth 100000
attribute [local go_sem ↓] Go.wp_at_zero Go.wp_at_succ
namespace Nt
open W1 Rt
/-- A net that lies between two bounds, and reads as these. -/
def RT (W : World) (lo hi : Nat) (a b d : Option Addr) (ms : List Rm) (qs : List Pl) (cs : List Int) (fs : List Fm.R) : Prop :=
  (ms = [] ∨ ∃ g, a = some ⟨g, 0, none⟩ ∧ lo ≤ g ∧ g < hi ∧ g < W.heap.size ∧ ∀ i, i < ms.length → W.rangeAt g (i * 13) (cl (ms.getD i Rm.zero) (qs.getD i Pl.zero)) ∧ Ow W lo hi (ms.getD i Rm.zero) (qs.getD i Pl.zero)) ∧ In.Lst W b cs lo hi ∧ Fm.Lst W d fs lo hi
theorem RT.below {W W' : World} {lo hi : Nat} {a b d : Option Addr} {ms : List Rm} {qs : List Pl} {cs : List Int} {fs : List Fm.R} (h : RT W lo hi a b d ms qs cs fs) (hb : Below W.heap.size W W') : RT W' lo hi a b d ms qs cs fs := by
  obtain ⟨h1, h2, h3⟩ := h
  refine ⟨?_, h2.below hb, h3.below hb⟩
  rcases h1 with h1 | ⟨g, rfl, e1, e2, e3, h1⟩
  · exact .inl h1
  · exact .inr ⟨g, rfl, e1, e2, Nat.lt_of_lt_of_le e3 hb.size, fun i hi => ⟨rng_under (h1 i hi).1 hb e3, (h1 i hi).2.below hb⟩⟩
theorem RT.but {W W' : World} {lo hi L H : Nat} {a b d : Option Addr} {ms : List Rm} {qs : List Pl} {cs : List Int} {fs : List Fm.R} (h : RT W lo hi a b d ms qs cs fs) (hs : W.heap.size ≤ W'.heap.size) (hb : ∀ k, k < W.heap.size → (k < L ∨ H ≤ k) → W'.heap[k]? = W.heap[k]?) (hd : hi ≤ L ∨ H ≤ lo) : RT W' lo hi a b d ms qs cs fs := by
  obtain ⟨h1, h2, h3⟩ := h
  refine ⟨?_, h2.but (p := fun k => k < L ∨ H ≤ k) hs (fun k hk h => hb k hk h) (fun k h1 h2 => by omega), h3.but (p := fun k => k < L ∨ H ≤ k) hs (fun k hk h => hb k hk h) (fun k h1 h2 => by omega)⟩
  rcases h1 with h1 | ⟨g, rfl, e1, e2, e3, h1⟩
  · exact .inl h1
  · exact .inr ⟨g, rfl, e1, e2, Nat.lt_of_lt_of_le e3 hs, fun i hi => ⟨rng_blk (h1 i hi).1 (hb g e3 (by omega)), (h1 i hi).2.but hs hb hd⟩⟩
theorem RT.mono {W : World} {lo hi lo' hi' : Nat} {a b d : Option Addr} {ms : List Rm} {qs : List Pl} {cs : List Int} {fs : List Fm.R} (h : RT W lo hi a b d ms qs cs fs) (h1 : lo' ≤ lo) (h2 : hi ≤ hi') : RT W lo' hi' a b d ms qs cs fs := by
  obtain ⟨h3, h4, h5⟩ := h
  refine ⟨?_, h4.mono h1 h2, h5.mono h1 h2⟩
  rcases h3 with h3 | ⟨g, rfl, e1, e2, e3, h3⟩
  · exact .inl h3
  · exact .inr ⟨g, rfl, by omega, by omega, e3, fun i hi => ⟨(h3 i hi).1, (h3 i hi).2.mono h1 h2⟩⟩
theorem RT.nr {W : World} {lo hi : Nat} {a b d : Option Addr} {ms : List Rm} {qs : List Pl} {cs : List Int} {fs : List Fm.R} (h : RT W lo hi a b d ms qs cs fs) : NR W a ms qs := by
  rcases h.1 with h1 | ⟨g, rfl, e1, e2, e3, h1⟩
  · exact .inl h1
  · exact .inr ⟨g, 0, rfl, fun i hi => ⟨by rw [Nat.zero_add]; exact (h1 i hi).1, (h1 i hi).2.rd⟩⟩
theorem RT.ri {W : World} {lo hi : Nat} {a b d : Option Addr} {ms : List Rm} {qs : List Pl} {cs : List Int} {fs : List Fm.R} (h : RT W lo hi a b d ms qs cs fs) : In.RM W b cs := h.2.1.rm
theorem RT.rf {W : World} {lo hi : Nat} {a b d : Option Addr} {ms : List Rm} {qs : List Pl} {cs : List Int} {fs : List Fm.R} (h : RT W lo hi a b d ms qs cs fs) : Fm.RM W d fs := h.2.2.rm
theorem MT.rt {W : World} {lo hi : Nat} {a b d : Option Addr} {ms : List Rm} {qs : List Pl} {cs : List Int} {fs : List Fm.R} (h : MT W lo hi a b d ms qs cs fs) : RT W lo hi a b d ms qs cs fs := by
  obtain ⟨f, p1, q1, p2, q2, p3, q3, e1, e2, e3, e4, e5, e6, h1, h2, h3⟩ := h
  refine ⟨?_, h2.mono e2.1 e2.2, h3.mono e3.1 e3.2⟩
  rcases h1 with h1 | ⟨g, rfl, h1, h2, h3, h4, h5, h6, h7⟩
  · exact .inl (List.eq_nil_of_length_eq_zero h1)
  · exact .inr ⟨g, rfl, by omega, by omega, h3, fun i hi => ⟨h7.1 i hi, (h7.2.2 i hi).mono (by have := h6 i hi; omega) (by have := h6 i hi; omega)⟩⟩
/-- Routers whose lists lie apart from their row. -/
def Sep (W : World) (v : Value) (lo : Nat) (xs : List (Rm × Pl)) : Prop := ∀ i, i < xs.length → ∃ f h, lo ≤ f ∧ f ≤ h ∧ h ≤ W.heap.size ∧ (∀ g, v.ownBlock = some g → g < f ∨ h ≤ g) ∧ Ow W f h (xs.getD i zP).1 (xs.getD i zP).2
theorem sep_nil (W : World) (v : Value) (lo : Nat) : Sep W v lo [] := fun i hi => absurd hi (Nat.not_lt_zero i)
theorem Sep.step {W W1 W2 W3 : World} {v v' : Value} {lo n base : Nat} {xs : List (Rm × Pl)} {ys : List Value} {m : Rm} {q : Pl} (h : Sep W v lo xs) (hlo : lo ≤ W.heap.size) (hv : ∀ g, v.ownBlock = some g → g < W.heap.size) (b1 : Below W.heap.size W W1) (ho : Ow W1 W.heap.size W1.heap.size m q) (b2 : Below W1.heap.size W1 W2) (hg : W2.grownBy W3 v.ownBlock) (hl : v'.ownBlock = v.ownBlock ∨ v'.ownBlock = some W2.heap.size) : Sep W3 v' lo (xs ++ [(m, q)]) := by
  have keep : ∀ f h m q, f ≤ h → h ≤ W2.heap.size → (∀ g, v.ownBlock = some g → g < f ∨ h ≤ g) → Ow W2 f h m q → (∀ g, v'.ownBlock = some g → g < f ∨ h ≤ g) ∧ Ow W3 f h m q := fun f h m q e1 e2 e3 e4 => by
    refine ⟨fun g e => ?_, ?_⟩
    · rcases hl with hl | hl
      · rw [hl] at e; exact e3 g e
      · rw [hl] at e; cases e; exact .inr e2
    · cases hw : v.ownBlock with
      | none => exact e4.but (Lo := 0) (Hi := 0) hg.size (fun k hk _ => hg.block k hk (by rw [hw]; simp)) (.inr (Nat.zero_le _))
      | some g => exact e4.but (Lo := g) (Hi := g + 1) hg.size (fun k hk h => hg.block k hk (by rw [hw]; intro e; cases e; omega)) (by have := e3 g hw; omega)
  intro i hi
  rw [List.length_append] at hi
  by_cases e : i < xs.length
  · obtain ⟨f, h, e1, e2, e3, e4, e5⟩ := h i e
    rw [getD_snoc_lt _ _ _ e]
    obtain ⟨k1, k2⟩ := keep f h _ _ e2 (by have := b1.size; have := b2.size; omega) e4 ((e5.below b1).below b2)
    exact ⟨f, h, e1, e2, by have := b1.size; have := b2.size; have := hg.size; omega, k1, k2⟩
  · rw [getD_snoc_eq _ _ _ (by simp at hi; omega)]
    obtain ⟨k1, k2⟩ := keep W.heap.size W1.heap.size m q b1.size b2.size (fun g e => .inl (hv g e)) (ho.below b2)
    exact ⟨W.heap.size, W1.heap.size, hlo, b1.size, by have := b2.size; have := hg.size; omega, k1, k2⟩
theorem Sep.but {W W' : World} {v : Value} {lo L H : Nat} {xs : List (Rm × Pl)} (h : Sep W v lo xs) (hs : W.heap.size ≤ W'.heap.size) (hb : ∀ k, k < W.heap.size → (k < L ∨ H ≤ k) → W'.heap[k]? = W.heap[k]?) (hd : H ≤ lo) : Sep W' v lo xs := fun i hi => by
  obtain ⟨f, k, e1, e2, e3, e4, e5⟩ := h i hi
  exact ⟨f, k, e1, e2, Nat.le_trans e3 hs, e4, e5.but hs hb (.inr (by omega))⟩
theorem Sep.below {W W' : World} {v : Value} {lo : Nat} {xs : List (Rm × Pl)} (h : Sep W v lo xs) (hb : Below W.heap.size W W') : Sep W' v lo xs := fun i hi => by
  obtain ⟨f, k, e1, e2, e3, e4, e5⟩ := h i hi
  exact ⟨f, k, e1, e2, Nat.le_trans e3 hb.size, e4, e5.below hb⟩
theorem ownN_bel {w w' : World} {base e k : Nat} {v : Value} {n : Nat} {xs : List Value} (h : w.ownsRow base e k v n xs) (hb : Below w.heap.size w w') : w'.ownsRow base e k v n xs := by
  refine h.kept (row := none) ⟨hb.os, hb.tape, hb.output, hb.size, fun k hk _ => hb.block k hk⟩ ?_
  cases v.ownBlock
  · exact .inl rfl
  · exact .inr (by simp)
/-- append of routers to a row of one's own, and where it lies then. -/
theorem wpList_apNL {ops : Array Oper} {rest : List Oper} {o : Oper} {a : Act} {Q : Exit → Act → World → Prop} {w : World} {base : Nat} {v : Value} {xs : List (Rm × Pl)} (hown : w.ownsRow base 46 13 v xs.length (fl xs)) (g off m c : Nat) (ys : List (Rm × Pl)) (hm : ys.length = m) (hm0 : 0 < m) (hr : Rws w g off ys) (hlen : xs.length + ys.length ≤ 4194304) (hbase : base ≤ w.heap.size)
    (hgd : o.guard = none) (s x : Operand) (ho : o.op = .call { callee := .builtin .append, args := #[s, x], argTypes := #[23, 23] }) (hs : a.eval s = v) (hx : a.eval x = .slice (some ⟨g, off, none⟩) m c)
    (h : ∀ v' w', w'.ownsRow base 46 13 v' (xs ++ ys).length (fl (xs ++ ys)) → w.grownBy w' v.ownBlock → (v'.ownBlock = v.ownBlock ∨ v'.ownBlock = some w.heap.size) → (∃ g cap, v' = .slice (some ⟨g, 0, none⟩) (xs.length + ys.length) cap) → wpList Try.prog ops Q rest (a.put o.dst v') w') : wpList Try.prog ops Q (o :: rest) a w := by
  subst hm
  obtain ⟨i0, hi, hz0, hz1, hz2⟩ := infoZ
  refine wpList_append_lies w hgd s x _ ho base 46 i0 _ 13 216 Try.underlying23 hi hz0 hz1 hz2 rfl (by decide) v xs.length (fl xs) hs hown ⟨g, off, none⟩ ys.length c (fl ys) hx (fl_len ys) hr.cells (fun u hu => fl_ones hu) hm0 (by unfold maxLen; omega) (by omega) hbase _ rfl (fun g' cap w' h1 h2 h3 h4 => ?_)
  refine h _ w' ?_ h2 ?_ ⟨g', cap, rfl⟩
  · rw [List.length_append, fl_append]; exact h1
  · rcases h3 with h3 | h3
    · exact .inl h3.symm
    · exact .inr (by rw [h3]; rfl)
/-- Integers and frames of one's own, wherever they come from. -/
theorem apOI {ops : Array Oper} {rest : List Oper} {o : Oper} {a : Act} {Q : Exit → Act → World → Prop} {w : World} {base : Nat} {v : Value} {xs : List Int} (hown : w.ownsRow base 3 1 v xs.length (In.flat xs)) (a0 : Option Addr) (c : Nat) (ms : List Int) (hr : In.RM w a0 ms) (hlen : xs.length + ms.length ≤ 4194304) (hbase : base ≤ w.heap.size)
    (hgd : o.guard = none) (s x : Operand) (ho : o.op = .call { callee := .builtin .append, args := #[s, x], argTypes := #[22, 22] }) (hs : a.eval s = v) (hx : a.eval x = .slice a0 ms.length c)
    (h : ∀ v' w', w'.ownsRow base 3 1 v' (xs ++ ms).length (In.flat (xs ++ ms)) → w.grownBy w' v.ownBlock → wpList Try.prog ops Q rest (a.put o.dst v') w') : wpList Try.prog ops Q (o :: rest) a w := by
  rcases hr with e0 | ⟨g, off, rfl, hcc⟩
  · subst e0
    obtain ⟨i0, hi, _⟩ := In.infoI
    exact wpList_append_none hgd s x _ ho base 3 i0 1 Try.underlying22 hi v _ _ hs hown a0 c hx (h v w (by rw [List.append_nil]; exact hown) (gb_reflC _ _))
  · exact In.wpList_apS hown g off ms.length c ms rfl (.inr ⟨g, off, rfl, hcc⟩) hlen hbase hgd s x ho hs hx h
theorem apOF {ops : Array Oper} {rest : List Oper} {o : Oper} {a : Act} {Q : Exit → Act → World → Prop} {w : World} {base : Nat} {v : Value} {xs : List Fm.R} (hown : w.ownsRow base 61 4 v xs.length (Fm.flat xs)) (a0 : Option Addr) (c : Nat) (ms : List Fm.R) (hr : Fm.RM w a0 ms) (hlen : xs.length + ms.length ≤ 4194304) (hbase : base ≤ w.heap.size)
    (hgd : o.guard = none) (s x : Operand) (ho : o.op = .call { callee := .builtin .append, args := #[s, x], argTypes := #[24, 24] }) (hs : a.eval s = v) (hx : a.eval x = .slice a0 ms.length c)
    (h : ∀ v' w', w'.ownsRow base 61 4 v' (xs ++ ms).length (Fm.flat (xs ++ ms)) → w.grownBy w' v.ownBlock → wpList Try.prog ops Q rest (a.put o.dst v') w') : wpList Try.prog ops Q (o :: rest) a w := by
  rcases hr with e0 | ⟨g, off, rfl, hcc⟩
  · subst e0
    obtain ⟨i0, hi, _⟩ := Fm.infoR
    exact wpList_append_none hgd s x _ ho base 61 i0 4 Try.underlying24 hi v _ _ hs hown a0 c hx (h v w (by rw [List.append_nil]; exact hown) (gb_reflC _ _))
  · exact Fm.wpList_apS hown g off ms.length c ms rfl (.inr ⟨g, off, rfl, hcc⟩) hlen hbase hgd s x ho hs hx h
theorem ownN (m : Rm) (p : Pl) (w : World) (hs : okL m) (hr : Rd w m p) (had : Ad p) :
    Calls Try.prog 47 #[.agg (cl m p).toArray] w fun e w' => ∃ q, e = .returned (.agg (cl m q).toArray) ∧ Below w.heap.size w w' ∧ Ow w' w.heap.size w'.heap.size m q := by
  obtain ⟨s1, s2, s3, s4, s5, s6, s7⟩ := hs
  obtain ⟨r1, r2, r3, r4, r5, r6, r7⟩ := hr
  obtain ⟨_, _, _, _, ⟨g5, e5⟩, ⟨g6, e6⟩, _⟩ := had
  rw [e5] at r5
  rw [e6] at r6
  have h := l12Own m.x1 m.x2 m.x3 m.x4 m.x5 m.x6 p.a1 p.a2 p.a3 p.a4 p.a7 g5 0 g6 0 p.c1 p.c2 p.c3 p.c4 p.c5 p.c6 p.c7 m.ls m.tw m.se m.du m.ss m.es m.la w s1 s2 s3 s4 s5 s6 s7 r1 r2 r3 r4 r5 r6 r7
  rw [← e5, ← e6] at h
  refine h.mono ?_
  rintro e w' ⟨b1, b2, b3, b4, b5, b6, b7, d1, d2, d3, d4, d5, d6, d7, rfl, hb, h⟩
  exact ⟨⟨b1, b2, b3, b4, b5, b6, b7, d1, d2, d3, d4, d5, d6, d7⟩, rfl, hb, h⟩
set_option maxHeartbeats 32000000 in
theorem l13Own (a b d : Option Addr) (ca cb cd n : Nat) (t : Int) (ms : List Rm) (ps : List Pl) (cs : List Int) (fs : List Fm.R) (w : World) (hn : ms.length = n) (h0 : 0 < n) (hm : n ≤ 4096) (hc : cs.length ≤ 4096) (hf : fs.length ≤ 4096) (hs : ∀ i, i < n → okL (ms.getD i Rm.zero)) (had : ∀ i, i < n → Ad (ps.getD i Pl.zero)) (hr : NR w a ms ps) (hi : In.RM w b cs) (hz : Fm.RM w d fs) :
    Calls Try.prog 30 #[.agg #[.slice a n ca, .slice b cs.length cb, .slice d fs.length cd, .int .i64 t]] w fun e w' => ∃ a' b' d' ca' cb' cd' qs, e = .returned (.agg #[.slice a' n ca', .slice b' cs.length cb', .slice d' fs.length cd', .int .i64 t]) ∧ Below w.heap.size w w' ∧ RT w' w.heap.size w'.heap.size a' b' d' ms qs cs fs ∧ Hid (∃ mid, w.heap.size ≤ mid ∧ mid ≤ w'.heap.size ∧ RT w' w.heap.size mid a' b' none ms qs cs [] ∧ w'.ownsRow mid 61 4 (.slice d' fs.length cd') fs.length (Fm.flat fs)) := by
  have z1 : (w.alloc (.cells #[.slice a n ca, .slice b cs.length cb, .slice d fs.length cd, .int .i64 t] 26)).heap.size = w.heap.size + 1 := by simp
  have hq0 : w.heap.size + 2 ≤ ((w.alloc (.cells #[.slice a n ca, .slice b cs.length cb, .slice d fs.length cd, .int .i64 t] 26)).alloc (.cells #[.slice none 0 0, .slice none 0 0, .slice none 0 0, .int .i64 0] 26)).heap.size := by simp
  have HB0 : Hid (Below w.heap.size w ((w.alloc (.cells #[.slice a n ca, .slice b cs.length cb, .slice d fs.length cd, .int .i64 t] 26)).alloc (.cells #[.slice none 0 0, .slice none 0 0, .slice none 0 0, .int .i64 0] 26))) := hide (((Below.refl _ _).alloc (Nat.le_refl _) _).alloc (by simp) _)
  have c1 : Below (w.alloc (.cells #[.slice a n ca, .slice b cs.length cb, .slice d fs.length cd, .int .i64 t] 26)).heap.size (w.alloc (.cells #[.slice a n ca, .slice b cs.length cb, .slice d fs.length cd, .int .i64 t] 26)) ((w.alloc (.cells #[.slice a n ca, .slice b cs.length cb, .slice d fs.length cd, .int .i64 t] 26)).alloc (.cells #[.slice none 0 0, .slice none 0 0, .slice none 0 0, .int .i64 0] 26)) := bel_new _ _
  have HX0 := hide ((nb_new w (.slice a n ca) (.slice b cs.length cb) (.slice d fs.length cd) t 26).below c1)
  have TX0 : Hid (((w.alloc (.cells #[.slice a n ca, .slice b cs.length cb, .slice d fs.length cd, .int .i64 t] 26)).alloc (.cells #[.slice none 0 0, .slice none 0 0, .slice none 0 0, .int .i64 0] 26)).there w.heap.size 0 4) := hide (there_under (there_new4 w _ _ _ _ _) c1 (by rw [z1]; omega))
  have TZ0 : Hid (((w.alloc (.cells #[.slice a n ca, .slice b cs.length cb, .slice d fs.length cd, .int .i64 t] 26)).alloc (.cells #[.slice none 0 0, .slice none 0 0, .slice none 0 0, .int .i64 0] 26)).there (w.heap.size + 1) 0 4) := hide (by have h := there_new4 (w.alloc (.cells #[.slice a n ca, .slice b cs.length cb, .slice d fs.length cd, .int .i64 t] 26)) (.slice none 0 0) (.slice none 0 0) (.slice none 0 0) (.int .i64 0) 26; rw [z1] at h; exact h)
  have HR := hide hr
  have HI := hide hi
  have HF := hide hz
  have HS := hide hs
  have HAD := hide had
  have HN := hide hn
  clear z1 c1 hr hi hz hs had hn
  go_enter Try.func30, Try.ntmps30
  obtain ⟨V0, hV0⟩ : ∃ V, ((w.alloc (.cells #[.slice a n ca, .slice b cs.length cb, .slice d fs.length cd, .int .i64 t] 26)).alloc (.cells #[.slice none 0 0, .slice none 0 0, .slice none 0 0, .int .i64 0] 26)) = V := ⟨_, rfl⟩
  rw [hV0] at HB0 HX0 TX0 TZ0 hq0
  have OW0 := hide (ownN_empty V0 V0.heap.size (Nat.le_refl _))
  have b1_ : Below V0.heap.size V0 (V0.alloc (.cells #[] 46)) := bel_new _ _
  have HB1 := hide ((unhide HB0).trans (b1_.mono (unhide HB0).size))
  have HX1 := hide ((unhide HX0).below b1_)
  have TX1 := hide (there_under (unhide TX0) b1_ (unhide HX0).lt)
  have TZ1 := hide (there_under (unhide TZ0) b1_ (by have := (unhide HX0).lt; omega))
  have SP1 := hide (sep_nil (V0.alloc (.cells #[] 46)) (.slice (some ⟨V0.heap.size, 0, none⟩) 0 0) V0.heap.size)
  have hs1 := hide b1_.size
  clear HX0 TX0 TZ0 b1_ HB0
  go_wp2_with fail
  try rw [hV0]
  clear hV0
  go_loopw [3, 4] (fun v i wr => ∃ j : Nat, j ≤ n ∧ i = .int .i64 j ∧ ∃ xs : List (Rm × Pl), xs.length = j ∧ Hid (∀ i, i < j → (xs.getD i zP).1 = ms.getD i Rm.zero) ∧ Hid (wr.ownsRow V0.heap.size 46 13 v xs.length (fl xs)) ∧ Hid (Below w.heap.size w wr) ∧ Hid (V0.heap.size ≤ wr.heap.size) ∧ Hid (NB wr w.heap.size (.slice a n ca) (.slice b cs.length cb) (.slice d fs.length cd) t) ∧ Hid (wr.there w.heap.size 0 4) ∧ Hid (wr.there (w.heap.size + 1) 0 4) ∧ Hid (Sep wr v V0.heap.size xs)) (fun _ i _ => n - (intOf i).toNat)
  case atStart => exact ⟨0, by omega, rfl, [], rfl, hide (fun i hi => absurd hi (Nat.not_lt_zero i)), OW0, HB1, hs1, HX1, TX1, TZ1, SP1⟩
  case round =>
    clear OW0 HB1 hs1 HX1 TX1 TZ1 SP1
    obtain ⟨j, hj, rfl, xs, hxl, hfs, how, hb, hsz, hx, tx, tz, hsp⟩ := hrel
    obtain ⟨p0, p1, p2, p3⟩ := unhide hx
    by_cases hlt : (j : Int) < (n : Int)
    · have k0 : (0 : Int) ≤ (j : Int) := by omega
      have hjn : j < n := by omega
      obtain ⟨ga, off, rfl, hA0, hD0⟩ := ((unhide HR).below (unhide hb)).at (i := j) (by rw [unhide HN]; exact hjn)
      have HA := hide hA0
      have HD := hide hD0
      have HO := hide ((unhide HS) j hjn)
      have HJ := hide ((unhide HAD) j hjn)
      have HFS := hide (fun (m : Rm) (q : Pl) (e : m = ms.getD j Rm.zero) (i : Nat) (hi : i < j + 1) => show (((xs ++ [(m, q)]).getD i zP).1 = ms.getD i Rm.zero) by
        by_cases e1 : i = j
        · rw [getD_snoc_eq _ _ _ (by omega), e1]; exact e
        · rw [getD_snoc_lt _ _ _ (by omega)]; exact unhide hfs i (by omega))
      have HXL := hide hxl
      clear hA0 hD0 hfs hxl
      generalize hmj : ms.getD j Rm.zero = m at HD HA HO HFS
      generalize hpj : ps.getD j Pl.zero = p at HD HA HJ
      clear hmj hpj
      go_wp2_with (refine loadI _ rfl rfl (unhide HA) rfl ?_)
      clear p0 p1 p2 p3
      refine (ownN m p _ (unhide HO) (unhide HD) (unhide HJ)).mono ?_
      rintro e w1 ⟨q, rfl, b1, ho⟩
      have HB1 := hide ((unhide hb).trans (b1.mono (unhide hb).size))
      have HX1 := hide ((unhide hx).below b1)
      have TX1 := hide (there_under (unhide tx) b1 (unhide hx).lt)
      have hsw := unhide hsz
      have TZ1 := hide (there_under (unhide tz) b1 (by have := (unhide hx).lt; omega))
      have OW1 := hide (ownN_bel (unhide how) b1)
      have hz1 := b1.size
      have HSS := hide (fun (W3 : World) (v' : Value) (h2 : (w1.alloc (.cells (cl m q).toArray 46)).grownBy W3 u3.ownBlock) (h3 : v'.ownBlock = u3.ownBlock ∨ v'.ownBlock = some (w1.alloc (.cells (cl m q).toArray 46)).heap.size) => (unhide hsp).step (n := 0) (base := 0) (ys := []) hsw (fun g e => ((unhide how).lt g e).2) b1 ho (bel_new w1 (.cells (cl m q).toArray 46)) h2 h3)
      have HSH : Hid (∀ W3 : World, (w1.alloc (.cells (cl m q).toArray 46)).grownBy W3 u3.ownBlock → NB W3 w.heap.size (.slice (some ⟨ga, off, none⟩) n ca) (.slice b cs.length cb) (.slice d fs.length cd) t ∧ W3.there w.heap.size 0 4 ∧ W3.there (w.heap.size + 1) 0 4 ∧ Below w.heap.size w W3 ∧ V0.heap.size ≤ W3.heap.size) := hide (fun W3 hg => by
        have b2 : Below w1.heap.size w1 (w1.alloc (.cells (cl m q).toArray 46)) := bel_new _ _
        have hk : ∀ k, k < V0.heap.size → W3.heap[k]? = w1.heap[k]? := fun k hk => (hg.block k (by have := b2.size; omega) (fun e => by have := ((unhide how).lt k e.symm).1; omega)).trans (b2.block k (by omega))
        exact ⟨(unhide HX1).but (hk _ (by omega)), there_blk (unhide TX1) (hk _ (by omega)), there_blk (unhide TZ1) (hk _ (by omega)), belN_own ((unhide HB1).trans (b2.mono (unhide HB1).size)) ((unhide OW1).alloc _) hg (by omega) (by have := b2.size; have := (unhide HB1).size; omega), by have := b2.size; have := hg.size; omega⟩)
      clear HA HD HO HJ hb hx tx tz hsz how hsp b1 ho HX1 TX1 TZ1 HB1
      rw [show (cl m q).toArray = #[.int .i64 m.x1, .int .i64 m.x2, .int .i64 m.x3, .int .i64 m.x4, .int .i64 m.x5, .slice q.a1 m.ls.length q.c1, .slice q.a2 m.tw.length q.c2, .slice q.a3 m.se.length q.c3, .slice q.a4 m.du.length q.c4, .slice q.a5 m.ss.length q.c5, .slice q.a6 m.es.length q.c6, .slice q.a7 m.la.length q.c7, .int .i64 m.x6] from rfl]
      go_wp2_with (at_builtin; refine wpList_apNL ((unhide OW1).alloc _) w1.heap.size 0 1 1 [(m, q)] rfl (by omega) (rwN_new w1 m q) (by simp only [List.length_cons, List.length_nil]; have := unhide HXL; omega) (by simp; omega) rfl _ _ rfl rfl rfl ?_; intro v' w' ho hg hl hv; have HO' := hide ho; have HG' := hide (unhide HSH w' hg); have HS' := hide (unhide HSS w' v' hg hl); clear ho hg hl hv)
      go_roundw
      case rel => exact ⟨j + 1, by omega, by go_num, xs ++ [(m, q)], by rw [List.length_append, unhide HXL]; rfl, hide (unhide HFS m q rfl), HO', hide (unhide HG').2.2.2.1, hide (unhide HG').2.2.2.2, hide (unhide HG').1, hide (unhide HG').2.1, hide (unhide HG').2.2.1, HS'⟩
      case measure => simp [intOf]; omega
    · obtain rfl : n = j := by omega
      obtain ⟨V1, hV1⟩ : ∃ V, wr = V := ⟨_, rfl⟩
      have hsw := unhide hsz
      obtain ⟨g, c, ev⟩ := own_form (unhide how) (by omega)
      rw [hxl] at ev
      have how2 := unhide how
      rw [ev, hxl] at how2
      obtain ⟨r1, r2, r3, r4⟩ := rws_own hxl.symm how2
      have RW1 := hide r1
      have HB1 := hb
      have HX1 := hx
      have TX1 := tx
      have TZ1 := tz
      have SP1 := hsp
      rw [ev] at SP1
      have HFS := hfs
      rw [hV1] at HB1 HX1 TX1 TZ1 RW1 SP1 hsw r4 ⊢
      clear hb hx tx tz hsp how how2 hfs hsz r1 r2 hV1 p0 p1 p2 p3
      obtain ⟨V2, hV2⟩ : ∃ V, (V1.setCell ⟨w.heap.size, 0, none⟩ (.slice (some ⟨g, 0, none⟩) n c)) = V := ⟨_, rfl⟩
      have HB2 : Hid (Below w.heap.size w V2) := hide (by rw [← hV2]; exact (unhide HB1).setCell (p := ⟨w.heap.size, 0, none⟩) (Nat.le_refl _) _)
      have HX2 := hide (show NB V2 w.heap.size _ _ _ _ by rw [← hV2]; exact (unhide HX1).set0 (.slice (some ⟨g, 0, none⟩) n c))
      have TX2 : Hid (V2.there w.heap.size 0 4) := hide (by rw [← hV2]; exact there_at (unhide TX1))
      have TZ2 : Hid (V2.there (w.heap.size + 1) 0 4) := hide (by rw [← hV2]; exact there_at (unhide TZ1))
      have hq2 : V2.heap.size = V1.heap.size := by rw [← hV2]; simp [World.setCell]
      have ho2 : ∀ x, x ≠ w.heap.size → V2.heap[x]? = V1.heap[x]? := fun x hx => by rw [← hV2]; exact Below.heap_setCell _ _ _ _ hx
      have RW2 := hide (fun (k : Nat) (hk : k < n) => rng_blk (unhide RW1 k hk) (ho2 g (by omega)))
      have SP2 := hide (Sep.but (L := w.heap.size) (H := w.heap.size + 1) (unhide SP1) (by omega) (fun k hk e => ho2 k (by omega)) (by omega))
      have HV2 := hide hV2
      clear hV2 ho2
      have f0 := free_at (unhide TX1) (k := 0) (by omega)
      obtain ⟨x0, x1, x2, x3⟩ := unhide HX1
      go_upto_region 7 with fail
      rw [ev]
      rw [unhide HV2]
      clear f0 x0 x1 x2 x3 HX1 TX1 TZ1 RW1 SP1 HB1
      replace hq2 : V2.heap.size ≤ V1.heap.size ∧ V1.heap.size ≤ V2.heap.size := by omega
      have OIn := hide (In.own_empty V2 V2.heap.size (Nat.le_refl _))
      have HIn2 := hide (((unhide HI).below (unhide HB2)).below (bel_new V2 (.cells #[] 3)))
      have bE : Below V2.heap.size V2 (V2.alloc (.cells #[] 3)) := bel_new _ _
      obtain ⟨x0, x1, x2, x3⟩ := (unhide HX2).below bE
      go_upto_region 8 with (at_builtin; refine apOI (unhide OIn) b cb cs (unhide HIn2) (by simp only [List.length_nil]; omega) (by simp) rfl _ _ rfl rfl rfl ?_; intro v_ V3 ho hg; have d3 : Below V2.heap.size V2 V3 := In.below_own bE (unhide OIn) hg (Nat.le_refl _) (by simp); obtain ⟨b', cb', rfl, l3⟩ := In.lst_own (zs := cs) rfl ho; have f1 := free_at (there_under (unhide TX2) d3 (unhide HX2).lt) (k := 1) (by omega); obtain ⟨y0, y1, y2, y3⟩ := (unhide HX2).below d3; clear ho hg)
      clear f1 x0 x1 x2 x3 y0 y1 y2 y3 bE
      have HB3 := hide ((unhide HB2).trans (d3.mono (unhide HB2).size))
      have hq3 := d3.size
      have HX3 := hide ((unhide HX2).below d3)
      have TX3 := hide (there_under (unhide TX2) d3 (unhide HX2).lt)
      have TZ3 := hide (there_under (unhide TZ2) d3 (by have := (unhide HX2).lt; omega))
      have RW3 := hide (fun (k : Nat) (hk : k < n) => rng_under (unhide RW2 k hk) d3 (by omega))
      have SP3 := hide ((unhide SP2).below d3)
      have UI3 := hide l3
      clear HX2 TX2 TZ2 RW2 SP2 l3 d3 HB2 HIn2 OIn
      obtain ⟨V4, hV4⟩ : ∃ V, (V3.setCell ⟨w.heap.size, 1, none⟩ (.slice b' cs.length cb')) = V := ⟨_, rfl⟩
      have HB4 : Hid (Below w.heap.size w V4) := hide (by rw [← hV4]; exact (unhide HB3).setCell (p := ⟨w.heap.size, 1, none⟩) (Nat.le_refl _) _)
      have HX4 := hide (show NB V4 w.heap.size _ _ _ _ by rw [← hV4]; exact (unhide HX3).set1 (.slice b' cs.length cb'))
      have TX4 : Hid (V4.there w.heap.size 0 4) := hide (by rw [← hV4]; exact there_at (unhide TX3))
      have TZ4 : Hid (V4.there (w.heap.size + 1) 0 4) := hide (by rw [← hV4]; exact there_at (unhide TZ3))
      have hq4 : V4.heap.size = V3.heap.size := by rw [← hV4]; simp [World.setCell]
      have ho4 : ∀ x, x ≠ w.heap.size → V4.heap[x]? = V3.heap[x]? := fun x hx => by rw [← hV4]; exact Below.heap_setCell _ _ _ _ hx
      have RW4 := hide (fun (k : Nat) (hk : k < n) => rng_blk (unhide RW3 k hk) (ho4 g (by omega)))
      have SP4 := hide (Sep.but (L := w.heap.size) (H := w.heap.size + 1) (unhide SP3) (by omega) (fun k hk e => ho4 k (by omega)) (by omega))
      have UI4 := hide ((unhide UI3).but (p := fun k => k ≠ w.heap.size) (by omega) (fun k hk e => ho4 k e) (fun k h1 h2 => by omega))
      have HV4 := hide hV4
      clear hV4 ho4
      have f1 := free_at (unhide TX3) (k := 1) (by omega)
      obtain ⟨x0, x1, x2, x3⟩ := unhide HX3
      rw [unhide HV4]
      clear f1 x0 x1 x2 x3 HX3 TX3 TZ3 RW3 SP3 UI3 HB3
      replace hq4 : V4.heap.size ≤ V3.heap.size ∧ V3.heap.size ≤ V4.heap.size := by omega
      have OFm := hide (Fm.own_empty V4 V4.heap.size (Nat.le_refl _))
      have HFm4 := hide (((unhide HF).below (unhide HB4)).below (bel_new V4 (.cells #[] 61)))
      have bE : Below V4.heap.size V4 (V4.alloc (.cells #[] 61)) := bel_new _ _
      obtain ⟨x0, x1, x2, x3⟩ := (unhide HX4).below bE
      go_upto_region 9 with (at_builtin; refine apOF (unhide OFm) d cd fs (unhide HFm4) (by simp only [List.length_nil]; omega) (by simp) rfl _ _ rfl rfl rfl ?_; intro v_ V5 ho hg; have d5 : Below V4.heap.size V4 V5 := Fm.below_own bE (unhide OFm) hg (Nat.le_refl _) (by simp); obtain ⟨d', cd', rfl, l5⟩ := Fm.lst_own (ms := fs) rfl ho; have OF5 : Hid (V5.ownsRow V4.heap.size 61 4 (.slice d' fs.length cd') fs.length (Fm.flat fs)) := hide ho; have f2 := free_at (there_under (unhide TX4) d5 (unhide HX4).lt) (k := 2) (by omega); obtain ⟨y0, y1, y2, y3⟩ := (unhide HX4).below d5; clear ho hg)
      clear f2 x0 x1 x2 x3 y0 y1 y2 y3 bE
      have HB5 := hide ((unhide HB4).trans (d5.mono (unhide HB4).size))
      have hq5 := d5.size
      have HX5 := hide ((unhide HX4).below d5)
      have TX5 := hide (there_under (unhide TX4) d5 (unhide HX4).lt)
      have TZ5 := hide (there_under (unhide TZ4) d5 (by have := (unhide HX4).lt; omega))
      have RW5 := hide (fun (k : Nat) (hk : k < n) => rng_under (unhide RW4 k hk) d5 (by omega))
      have SPK := hide (unhide SP4)
      have HK5 := hide d5.block
      have SP5 := hide ((unhide SP4).below d5)
      have UI5 := hide ((unhide UI4).below d5)
      have UF5 := hide l5
      have hof5 := (unhide OF5).lt
      clear HX4 TX4 TZ4 RW4 SP4 UI4 l5 d5 HB4 HFm4 OFm
      obtain ⟨V6, hV6⟩ : ∃ V, (V5.setCell ⟨w.heap.size, 2, none⟩ (.slice d' fs.length cd')) = V := ⟨_, rfl⟩
      have HB6 : Hid (Below w.heap.size w V6) := hide (by rw [← hV6]; exact (unhide HB5).setCell (p := ⟨w.heap.size, 2, none⟩) (Nat.le_refl _) _)
      have HX6 := hide (show NB V6 w.heap.size _ _ _ _ by rw [← hV6]; exact (unhide HX5).set2 (.slice d' fs.length cd'))
      have TX6 : Hid (V6.there w.heap.size 0 4) := hide (by rw [← hV6]; exact there_at (unhide TX5))
      have TZ6 : Hid (V6.there (w.heap.size + 1) 0 4) := hide (by rw [← hV6]; exact there_at (unhide TZ5))
      have hq6 : V6.heap.size = V5.heap.size := by rw [← hV6]; simp [World.setCell]
      have ho6 : ∀ x, x ≠ w.heap.size → V6.heap[x]? = V5.heap[x]? := fun x hx => by rw [← hV6]; exact Below.heap_setCell _ _ _ _ hx
      have RW6 := hide (fun (k : Nat) (hk : k < n) => rng_blk (unhide RW5 k hk) (ho6 g (by omega)))
      have SP6 := hide (Sep.but (L := w.heap.size) (H := w.heap.size + 1) (unhide SP5) (by omega) (fun k hk e => ho6 k (by omega)) (by omega))
      have UI6 := hide ((unhide UI5).but (p := fun k => k ≠ w.heap.size) (by omega) (fun k hk e => ho6 k e) (fun k h1 h2 => by omega))
      have UF6 := hide ((unhide UF5).but (p := fun k => k ≠ w.heap.size) (by omega) (fun k hk e => ho6 k e) (fun k h1 h2 => by omega))
      have OF6 := hide (own_blk (unhide OF5) (fun g e => ho6 g (by have := hof5 g e; omega)))
      have HV6 := hide hV6
      clear hV6 ho6
      have f2 := free_at (unhide TX5) (k := 2) (by omega)
      obtain ⟨x0, x1, x2, x3⟩ := unhide HX5
      rw [unhide HV6]
      clear f2 x0 x1 x2 x3 HX5 TX5 TZ5 RW5 SP5 UI5 UF5 HB5 OF5
      obtain ⟨o0, o1, o2, o3⟩ := unhide HX6
      go_wp2_with (refine storeNB _ _ rfl rfl rfl rfl rfl (unhide TZ6) rfl rfl ?_; intro V9 n9 t9 bb9 s9 k9)
      clear o0 o1 o2 o3 t9
      have hq5 := hq5
      have hkr : ∀ hi, V4.heap.size ≤ hi → RT V9 w.heap.size hi (some ⟨g, 0, none⟩) b' none ms (xs.map (·.2)) cs [] := fun hi hhi => by
        refine ⟨.inr ⟨g, rfl, by omega, by omega, by omega, fun i hi => ?_⟩, ?_, .inl rfl⟩
        · have hin : i < n := by rw [← unhide HN]; exact hi
          have e2 : (xs.map (·.2)).getD i Pl.zero = (xs.getD i zP).2 := by
            rw [List.getD_eq_getElem?_getD, List.getD_eq_getElem?_getD, List.getElem?_map]
            rw [List.getElem?_eq_getElem (by omega)]; rfl
          rw [e2, ← unhide HFS i hin]
          refine ⟨rng_blk (unhide RW6 i hin) (k9 g (by omega)), ?_⟩
          obtain ⟨f, h, e1, e2, e3, e4, e5⟩ := unhide SPK i (by omega)
          exact (e5.but (w' := V9) (Lo := w.heap.size) (Hi := w.heap.size + 2) (by omega) (fun k hk e => (k9 k (by omega)).trans ((by rw [← unhide HV6]; exact Below.heap_setCell _ _ _ _ (by show k ≠ w.heap.size; omega) : V6.heap[k]? = V5.heap[k]?).trans (unhide HK5 k hk))) (by omega)).mono (by omega) (by omega)
        · exact ((unhide UI6).but (p := fun k => k ≠ w.heap.size + 1) (by omega) (fun k hk e => k9 k e) (fun k h1 h2 => by omega)).mono (by omega) (by omega)
      have HKR := hide hkr
      clear hkr
      refine bodyPost_ret (v := .agg #[(.slice (some ⟨g, 0, none⟩) n c), .slice b' cs.length cb', .slice d' fs.length cd', .int .i64 t]) (resultsN rfl _ _ rfl n9) rfl ⟨some ⟨g, 0, none⟩, b', d', c, cb', cd', rfl, bb9 _ _ (unhide HB6) (by omega), xs.map (·.2), ?_, hide ⟨V4.heap.size, by omega, by omega, unhide HKR _ (Nat.le_refl _), own_blk (unhide OF6) (fun g e => k9 g (by have := hof5 g e; omega))⟩⟩
      obtain ⟨r1, r2, _⟩ := unhide HKR V9.heap.size (by omega)
      refine ⟨r1, r2, ?_⟩
      exact ((unhide UF6).but (p := fun k => k ≠ w.heap.size + 1) (by omega) (fun k hk e => k9 k e) (fun k h1 h2 => by omega)).mono (by omega) (by omega)
end Nt
end Go.Proofs.Ytpmlpojefelbbaa
namespace Go.Proofs.Ytpmlpojefelbbaa
open Go.ChangeShapes Go.WideShapes Go.ChangeAt Go.RowKit
set_option linter.unusedVariables false
set_option linter.unusedSimpArgs false
set_option maxRecDepth 100000
attribute [local go_sem ↓] Go.wp_at_zero Go.wp_at_succ
namespace Nt
open W1 Rt
set_option maxHeartbeats 8000000 in
theorem markNt (a b d : Option Addr) (ca cb cd : Nat) (t : Int) (K : Int) (lo hi : Nat) (ms : List Rm) (qs : List Pl) (cs : List Int) (fs : List Fm.R) (w : World) (hm : ms.length ≤ 1048576) (hc : cs.length ≤ 1048576) (hf : fs.length ≤ 1048576) (hK : 0 ≤ K) (hK1 : K + totK ms cs fs ≤ 99999990) (hs : ∀ i, i < ms.length → Sm (ms.getD i Rm.zero)) (hlo : lo ≤ w.heap.size) (hhi : hi ≤ w.heap.size) (h : MT w lo hi a b d ms qs cs fs) :
    Calls Try.prog 11 #[.agg #[.slice a ms.length ca, .slice b cs.length cb, .slice d fs.length cd, .int .i64 t], .int .i64 K] w fun e w' => e = .returned (.int .i64 (K + totK ms cs fs)) ∧ w.heap.size ≤ w'.heap.size ∧ Below lo w w' ∧ MM w' a b d K ms qs cs fs lo hi ∧ ∀ k, k < w.heap.size → (k < lo ∨ hi ≤ k) → w'.heap[k]? = w.heap[k]? := by
  have b0 := bel_new w (.cells #[.slice a ms.length ca, .slice b cs.length cb, .slice d fs.length cd, .int .i64 t] 26)
  have HX0 := hide (nb_new w (.slice a ms.length ca) (.slice b cs.length cb) (.slice d fs.length cd) t 26)
  have HB0 := hide b0
  obtain ⟨f, p1, q1, p2, q2, p3, q3, e1, e2, e3, e4, e5, e6, h1, h2, h3⟩ := h.below b0
  have HL1 := hide h1
  have HL2 := hide h2
  have HL3 := hide h3
  have hz0 : (w.alloc (.cells #[.slice a ms.length ca, .slice b cs.length cb, .slice d fs.length cd, .int .i64 t] 26)).heap.size = w.heap.size + 1 := by simp
  obtain ⟨r, hr⟩ : ∃ r, K + sumK ms ms.length = r := ⟨_, rfl⟩
  have hsp := sumK_pos ms ms.length
  have hr0 : 0 ≤ r := by omega
  have hr1 : r + cs.length + 4 * fs.length ≤ 99999990 := by unfold totK at hK1; omega
  have HTK : Hid (r + (cs.length : Int) + 4 * (fs.length : Int) = K + totK ms cs fs) := hide (by unfold totK; omega)
  have C1 := hide (fun W h => markNF a ca p1 q1 ms.length f K ms (fun i => qs.getD i Pl.zero) W rfl hm hK (by omega) hs h)
  have C2 := hide (fun W h => In.markF b cb p2 q2 r cs W hr0 (by omega) hc h)
  have C3 := hide (fun W h => Fm.mkFF d cd p3 q3 (r + (cs.length : Int)) fs W (by omega) (by omega) hf h)
  rw [hr] at C1
  have HR := hide hr
  clear h h1 h2 h3 b0 hK1 hs hsp hr
  go_enter Try.func11, Try.ntmps11
  obtain ⟨x0, x1, x2, x3⟩ := unhide HX0
  go_wp2_with fail
  clear x0 x1 x2 x3
  generalize w.alloc (.cells #[.slice a ms.length ca, .slice b cs.length cb, .slice d fs.length cd, .int .i64 t] 26) = w0 at *
  refine (unhide C1 _ (unhide HL1)).mono ?_
  rintro e w1 ⟨rfl, z1, b1, l1, k1⟩
  have HX1 := hide ((unhide HX0).but (k1 w.heap.size (by omega) (.inr (by omega))))
  have HL1' := hide l1
  have HL2' := hide ((unhide HL2).but (p := fun k => k < p1 ∨ q1 ≤ k) z1 (fun k hk h => k1 k hk h) (fun k h1 h2 => by omega))
  have HL3' := hide ((unhide HL3).but (p := fun k => k < p1 ∨ q1 ≤ k) z1 (fun k hk h => k1 k hk h) (fun k h1 h2 => by omega))
  have HB1 := hide (((unhide HB0).mono hlo).trans (b1.mono (by omega)))
  have HO1 : Hid (∀ k, k < w.heap.size → (k < lo ∨ hi ≤ k) → w1.heap[k]? = w.heap[k]?) := hide (fun k hk h => (k1 k (by omega) (by omega)).trans ((unhide HB0).block k hk))
  clear b1 l1 k1 HL1 HL2 HL3 HX0 HB0 C1
  obtain ⟨x0, x1, x2, x3⟩ := unhide HX1
  go_wp2_with fail
  clear x0 x1 x2 x3
  refine (unhide C2 _ (unhide HL2')).mono ?_
  rintro e w2 ⟨rfl, z2, b2, l2, k2⟩
  have HX2 := hide ((unhide HX1).but (k2 w.heap.size (by omega) (.inr (by omega))))
  have HL1 := hide ((unhide HL1').but z2 k2 (by omega))
  have HL2 := hide l2
  have HL3 := hide ((unhide HL3').but (p := fun k => k < p2 ∨ q2 ≤ k) z2 (fun k hk h => k2 k hk h) (fun k h1 h2 => by omega))
  have HB2 := hide ((unhide HB1).trans (b2.mono (by omega)))
  have HO2 : Hid (∀ k, k < w.heap.size → (k < lo ∨ hi ≤ k) → w2.heap[k]? = w.heap[k]?) := hide (fun k hk h => (k2 k (by omega) (by omega)).trans (unhide HO1 k hk h))
  clear b2 l2 k2 HL1' HL2' HL3' HX1 HB1 HO1 C2
  obtain ⟨x0, x1, x2, x3⟩ := unhide HX2
  go_wp2_with fail
  clear x0 x1 x2 x3
  refine (unhide C3 _ (unhide HL3)).mono ?_
  rintro e w3 ⟨rfl, z3, b3, l3, k3⟩
  have HL1' := hide ((unhide HL1).but z3 k3 (by omega))
  have HL2' := hide ((unhide HL2).but (p := fun k => k < p3 ∨ q3 ≤ k) z3 (fun k hk h => k3 k hk h) (fun k h1 h2 => by omega))
  have HL3' := hide l3
  have HB3 := hide ((unhide HB2).trans (b3.mono (by omega)))
  have HO3 : Hid (∀ k, k < w.heap.size → (k < lo ∨ hi ≤ k) → w3.heap[k]? = w.heap[k]?) := hide (fun k hk h => (k3 k (by omega) (by omega)).trans (unhide HO2 k hk h))
  clear b3 l3 k3 HL1 HL2 HL3 HX2 HB2 HO2 C3
  go_wp2_with fail
  go_ret
  refine ⟨by rw [unhide HTK]; rfl, by omega, unhide HB3, ⟨f, p1, q1, p2, q2, p3, q3, ⟨e1, e2, e3⟩, unhide HL1', by rw [unhide HR]; exact unhide HL2', by rw [unhide HR]; exact unhide HL3'⟩, unhide HO3⟩
end Nt
end Go.Proofs.Ytpmlpojefelbbaa
namespace Go.Proofs.Ytpmlpojefelbbaa
open Go.ChangeShapes Go.WideShapes Go.ChangeAt Go.RowKit
set_option linter.unusedVariables false
set_option linter.unusedSimpArgs false
attribute [local go_sem ↓] Go.wp_at_zero Go.wp_at_succ
namespace Ln
open W1 Lk
def okL (m : R) : Bool := inB m.ad 1 8 && (inB m.hd 0 1073741824 && (inB m.sy 0 1073741824 && (inB m.ci 1 256 && (inB m.co 0 16744448 && inB m.wl 0 7))))
end Ln
end Go.Proofs.Ytpmlpojefelbbaa
namespace Go.Proofs.Ytpmlpojefelbbaa
set_option linter.unusedVariables false
set_option linter.unusedSimpArgs false
namespace Gr
open W1 Tu St Tw
end Gr
end Go.Proofs.Ytpmlpojefelbbaa
namespace Go.Proofs.Ytpmlpojefelbbaa
open Go.ChangeShapes Go.WideShapes Go.ChangeAt Go.RowKit
set_option linter.unusedVariables false
set_option linter.unusedSimpArgs false
attribute [local go_sem ↓] Go.wp_at_zero Go.wp_at_succ
namespace Ln
open W1 Lk
end Ln
end Go.Proofs.Ytpmlpojefelbbaa
namespace Go.Proofs.Ytpmlpojefelbbaa
open Go.ChangeShapes Go.WideShapes Go.ChangeAt Go.RowKit
set_option linter.unusedVariables false
set_option linter.unusedSimpArgs false
attribute [local go_sem ↓] Go.wp_at_zero Go.wp_at_succ
namespace St
open W1 Tu
end St
end Go.Proofs.Ytpmlpojefelbbaa
namespace Go.Proofs.Ytpmlpojefelbbaa
open Go.ChangeShapes Go.WideShapes Go.ChangeAt Go.RowKit
set_option linter.unusedVariables false
set_option linter.unusedSimpArgs false
attribute [local go_sem ↓] Go.wp_at_zero Go.wp_at_succ
namespace St
open W1 Tu
end St
end Go.Proofs.Ytpmlpojefelbbaa
namespace Go.Proofs.Ytpmlpojefelbbaa
open Go.ChangeShapes Go.WideShapes Go.ChangeAt Go.RowKit
set_option linter.unusedVariables false
set_option linter.unusedSimpArgs false
attribute [local go_sem ↓] Go.wp_at_zero Go.wp_at_succ
namespace St
open W1 Tu
end St
end Go.Proofs.Ytpmlpojefelbbaa
namespace Go.Proofs.Ytpmlpojefelbbaa
open Go.ChangeShapes Go.WideShapes Go.ChangeAt Go.RowKit
set_option linter.unusedVariables false
set_option linter.unusedSimpArgs false
attribute [local go_sem ↓] Go.wp_at_zero Go.wp_at_succ
namespace St
open W1 Tu
theorem Upto.set {w : World} {g n p : Nat} {ms : List R} (x : R) (h : Upto w g n n ms) (hn : n = ms.length) (hp : p < n) : Upto (put w g (p * 3) x) g n n (ms.set p x) := by
  refine ⟨fun i hi => ?_, fun i hi => ⟨put_some _ _ _ _ _ _ (h.2 i hi).1, by rw [put_frozen]; exact (h.2 i hi).2⟩⟩
  by_cases e : i = p
  · subst e
    have : (ms.set i x).getD i R.zero = x := by rw [List.getD_eq_getElem?_getD, List.getElem?_set_self (by omega)]; rfl
    rw [this]
    exact put_at _ _ _ _ (fun k hk => (h.2 _ (by omega)).1)
  · have : (ms.set p x).getD i R.zero = ms.getD i R.zero := by rw [List.getD_eq_getElem?_getD, List.getD_eq_getElem?_getD, List.getElem?_set_ne (by omega)]
    rw [this]
    obtain ⟨h0, h1, h2⟩ := h.1 i (by omega)
    exact ⟨(put_far _ _ _ _ (by omega)).trans h0, (put_far _ _ _ _ (by omega)).trans h1, (put_far _ _ _ _ (by omega)).trans h2⟩
end St
end Go.Proofs.Ytpmlpojefelbbaa
namespace Go.Proofs.Ytpmlpojefelbbaa
open Go.ChangeShapes Go.WideShapes Go.ChangeAt Go.RowKit
set_option linter.unusedVariables false
set_option linter.unusedSimpArgs false
attribute [local go_sem ↓] Go.wp_at_zero Go.wp_at_succ
namespace St
open W1 Tu
end St
end Go.Proofs.Ytpmlpojefelbbaa
namespace Go.Proofs.Ytpmlpojefelbbaa
open Go.ChangeShapes Go.WideShapes Go.ChangeAt Go.RowKit
set_option linter.unusedVariables false
set_option linter.unusedSimpArgs false
set_option maxRecDepth 100000
attribute [local go_sem ↓] Go.wp_at_zero Go.wp_at_succ
namespace Gr
open W1 Tu St Tw
/-- A slice that lies somewhere. -/
def Fm (v : Value) (n : Nat) : Prop := ∃ g c, v = .slice (some ⟨g, 0, none⟩) n c
theorem lstV_nil (W : World) (a : Option Addr) (c lo hi : Nat) : LstV W (.slice a 0 c) [] lo hi := ⟨a, c, rfl, .inl rfl⟩
end Gr
end Go.Proofs.Ytpmlpojefelbbaa
namespace Go.Proofs.Ytpmlpojefelbbaa
open Go.ChangeShapes Go.WideShapes Go.ChangeAt Go.RowKit
set_option linter.unusedVariables false
set_option linter.unusedSimpArgs false
attribute [local go_sem ↓] Go.wp_at_zero Go.wp_at_succ
namespace Ln
open W1 Lk
/-- A link in a variable's block. -/
def Bx (w : World) (b : Nat) (m : R) : Prop := w.cell? ⟨b, 0, none⟩ = some (.int .i64 m.ad) ∧ w.cell? ⟨b, 1, none⟩ = some (.int .i64 m.hd) ∧ w.cell? ⟨b, 2, none⟩ = some (.int .i64 m.sy) ∧ w.cell? ⟨b, 3, none⟩ = some (.int .i64 m.ci) ∧ w.cell? ⟨b, 4, none⟩ = some (.int .i64 m.co) ∧ w.cell? ⟨b, 5, none⟩ = some (.int .i64 m.wl)
theorem Bx.below {w w' : World} {b : Nat} {m : R} (h : Bx w b m) (hb : Below w.heap.size w w') : Bx w' b m := by
  have hg : b < w.heap.size := World.block_lt_of_cell? _ _ h.1
  obtain ⟨h0, h1, h2, h3, h4, h5⟩ := h
  refine ⟨?_, ?_, ?_, ?_, ?_, ?_⟩ <;> (rw [hb.cell hg]; assumption)
theorem Bx.lt {w : World} {b : Nat} {m : R} (h : Bx w b m) : b < w.heap.size := World.block_lt_of_cell? _ _ h.1
theorem Bx.drew {w : World} {b : Nat} {m : R} (h : Bx w b m) : Bx w.drew b m := h
end Ln
end Go.Proofs.Ytpmlpojefelbbaa
namespace Go.Proofs.Ytpmlpojefelbbaa
open Go.ChangeShapes Go.WideShapes Go.ChangeAt Go.RowKit
set_option linter.unusedVariables false
namespace Mtr
open W1
def met (c : Nat) : Int := (257 + (c % 256 : Nat)) * 2 ^ (c / 256) - 256
/-- The least code whose metric is n or more. -/
def mcode (n : Int) : Nat := cnt met 4096 n
end Mtr
end Go.Proofs.Ytpmlpojefelbbaa
namespace Go.Proofs.Ytpmlpojefelbbaa
open Go.ChangeShapes Go.WideShapes Go.ChangeAt Go.RowKit
set_option linter.unusedVariables false
namespace Tim
open W1
end Tim
end Go.Proofs.Ytpmlpojefelbbaa
namespace Go.Proofs.Ytpmlpojefelbbaa
open Go.ChangeShapes Go.WideShapes Go.ChangeAt Go.RowKit
set_option linter.unusedVariables false
set_option linter.unusedSimpArgs false
attribute [local go_sem ↓] Go.wp_at_zero Go.wp_at_succ
namespace Av
open W1 Ed
/-- A metric that has a code of its own. -/
def exM (n : Int) : Bool := Mtr.met (Mtr.mcode n) == n
def toldB (n : Int) : Bool := inB n 1 16744192 && exM n
def okN (m : R) : Bool := inB m.ad 1 8 && toldB m.mt
end Av
end Go.Proofs.Ytpmlpojefelbbaa
namespace Go.Proofs.Ytpmlpojefelbbaa
open Go.ChangeShapes Go.WideShapes Go.ChangeAt Go.RowKit
set_option linter.unusedVariables false
set_option linter.unusedSimpArgs false
attribute [local go_sem ↓] Go.wp_at_zero Go.wp_at_succ
namespace Av
open W1 Ed
/-- An edge in a variable's block. -/
def Bx (w : World) (b : Nat) (m : R) : Prop := w.cell? ⟨b, 0, none⟩ = some (.int .i64 m.ad) ∧ w.cell? ⟨b, 1, none⟩ = some (.int .i64 m.mt)
theorem Bx.below {w w' : World} {b : Nat} {m : R} (h : Bx w b m) (hb : Below w.heap.size w w') : Bx w' b m := by
  have hg : b < w.heap.size := World.block_lt_of_cell? _ _ h.1
  obtain ⟨h0, h1⟩ := h
  refine ⟨?_, ?_⟩ <;> (rw [hb.cell hg]; assumption)
theorem Bx.drew {w : World} {b : Nat} {m : R} (h : Bx w b m) : Bx w.drew b m := h
end Av
end Go.Proofs.Ytpmlpojefelbbaa
namespace Go.Proofs.Ytpmlpojefelbbaa
open Go.ChangeShapes Go.WideShapes Go.ChangeAt Go.RowKit
set_option linter.unusedVariables false
set_option linter.unusedSimpArgs false
set_option maxRecDepth 100000
attribute [local go_sem ↓] Go.wp_at_zero Go.wp_at_succ
namespace Rt
open W1
end Rt
end Go.Proofs.Ytpmlpojefelbbaa
namespace Go.Proofs.Ytpmlpojefelbbaa
open Go.ChangeShapes Go.WideShapes Go.ChangeAt Go.RowKit
set_option linter.unusedVariables false
set_option linter.unusedSimpArgs false
set_option maxRecDepth 100000
attribute [local go_sem ↓] Go.wp_at_zero Go.wp_at_succ
namespace Nt
open W1 Rt
/-- All places below n. -/
def allI (n : Nat) (p : Nat → Bool) : Bool := (List.range n).all p
theorem allI_no {n : Nat} {p : Nat → Bool} {j : Nat} (h : j < n) (hp : p j = false) : allI n p = false := by
  unfold allI
  rw [List.all_eq_false]
  exact ⟨j, List.mem_range.2 h, by rw [hp]; simp⟩
theorem allI_yes {n : Nat} {p : Nat → Bool} (h : ∀ i, i < n → p i = true) : allI n p = true := by
  unfold allI
  rw [List.all_eq_true]
  exact fun i hi => h i (List.mem_range.1 hi)
theorem up_to {p : Nat → Bool} {j : Nat} (h : ∀ i, i < j → p i = true) (hj : p j = true) : ∀ i, i < j + 1 → p i = true := fun i hi => by
  by_cases e : i = j
  · subst e; exact hj
  · exact h i (by omega)
/-- A cost at a place of n routers' rows. -/
def cok (cs : List Int) (n i : Nat) : Bool := inB (cs.getD i 0) 0 256 && (!(decide (i / n = i % n)) || cs.getD i 0 == 0)
def costB (cs : List Int) (n : Nat) : Bool := cs.length == n * n && allI cs.length (cok cs n)
theorem diag {n i : Nat} (h1 : 1 ≤ n) (h6 : n ≤ 6) (hi : i < n * n) : (i % (n + 1) = 0) ↔ (i / n = i % n) := by
  have key : ∀ n, n < 7 → 1 ≤ n → ∀ i, i < 36 → i < n * n → ((i % (n + 1) = 0) ↔ (i / n = i % n)) := by decide +kernel
  exact key n (by omega) h1 i (Nat.lt_of_lt_of_le hi (Nat.mul_le_mul h6 h6)) hi
end Nt
end Go.Proofs.Ytpmlpojefelbbaa
namespace Go.Proofs.Ytpmlpojefelbbaa
open Go.ChangeShapes Go.WideShapes Go.ChangeAt Go.RowKit
set_option linter.unusedVariables false
set_option linter.unusedSimpArgs false
set_option maxRecDepth 100000
attribute [local go_sem ↓] Go.wp_at_zero Go.wp_at_succ
namespace Nt
open W1 Rt
theorem isCost (x : Int) (w : World) : Calls Try.prog 32 #[.int .i64 x] w fun e w' => e = .returned (.bool (inB x 0 256)) ∧ w' = w := by
  go_enter Try.func32, Try.ntmps32
  go_wp2_with (go_at_call 18; refine (within _ _ _ _).mono ?_; rintro e w_ ⟨rfl, rfl⟩)
  go_ret
  exact ⟨rfl, rfl⟩
set_option maxHeartbeats 8000000 in
theorem areCosts (a : Option Addr) (cs : List Int) (cap n : Nat) (w : World) (hm : cs.length ≤ 1048576) (h1 : 1 ≤ n) (h6 : n ≤ 6) (hr : In.RM w a cs) :
    Calls Try.prog 19 #[.slice a cs.length cap, .int .i64 n] w fun e w' => e = .returned (.bool (costB cs n)) ∧ Below w.heap.size w w' := by
  have HR := hide hr
  clear hr
  have E : Hid (costB cs n = (cs.length == n * n && allI cs.length (cok cs n))) := hide rfl
  have HDG := hide (fun i (hi : i < n * n) => diag h1 h6 hi)
  obtain ⟨N2, hN2⟩ : ∃ N2 : Nat, n * n = N2 := ⟨_, rfl⟩
  have hmul : (n : Int) * (n : Int) = (N2 : Int) := by rw [← hN2]; simp
  have hle : N2 ≤ 36 := by rw [← hN2]; exact Nat.mul_le_mul h6 h6
  rw [hN2] at E HDG
  clear hN2
  obtain ⟨C, hC⟩ : ∃ C, cs.length = C := ⟨_, rfl⟩
  rw [hC] at hm E ⊢
  have HC := hide hC
  clear hC
  have hn1 : (1 : Int) ≤ (n : Int) := by omega
  have hn6 : (n : Int) ≤ 6 := by omega
  cases hcn : ((C : Int) != (N2 : Int))
  rotate_left
  · go_enter Try.func19, Try.ntmps19
    go_wp2_with fail
    go_ret
    exact ⟨ret_bool (by rw [unhide E]; have : (C == N2) = false := (by simp at hcn ⊢; omega); rw [this]; rfl), Below.refl _ _⟩
  have hCN : C = N2 := by simp at hcn; omega
  have HCN := hide hCN
  have E2 : Hid (costB cs n = allI C (cok cs n)) := hide (by rw [unhide E, hCN]; simp)
  have HDG2 := hide (fun i (hi : i < C) => unhide HDG i (by omega))
  clear HDG E hCN
  go_enter Try.func19, Try.ntmps19
  go_wp2_with fail
  go_loop [15] (fun i => ∃ j : Nat, j ≤ C ∧ i = .int .i64 j ∧ Hid (∀ i, i < j → cok cs n i = true)) (fun i => C - (intOf i).toNat)
  case atStart => exact ⟨0, by omega, rfl, hide (fun i hi => absurd hi (Nat.not_lt_zero i))⟩
  case round =>
    obtain ⟨j, hj, rfl, hall⟩ := hrel
    by_cases hlt : (j : Int) < (C : Int)
    · have k0 : (0 : Int) ≤ (j : Int) := by omega
      have hlen : j < cs.length := by rw [unhide HC]; omega
      rcases unhide HR with e0 | ⟨g, off, rfl, hc⟩
      · exfalso; rw [e0] at hlen; simp at hlen
      have c0 := hc j hlen
      clear hc
      have HCK : Hid (cok cs n j = (inB (cs.getD j 0) 0 256 && (!(decide (j / n = j % n)) || cs.getD j 0 == 0))) := hide rfl
      have HDJ := hide (unhide HDG2 j (by omega))
      generalize cs.getD j 0 = x at *
      have hr : (j : Int) % ((n : Int) + 1) = ((j % (n + 1) : Nat) : Int) := by simp
      have hr2 : (j : Int).tmod ((n : Int) + 1) = ((j % (n + 1) : Nat) : Int) := by rw [Int.tmod_eq_emod_of_nonneg (by omega)]; simp
      have HE : Hid ((((j % (n + 1) : Nat) : Int) == 0) = decide (j / n = j % n)) := hide (by rw [Bool.eq_iff_iff]; have := unhide HDJ; simp; omega)
      have hrb : ((j % (n + 1) : Nat) : Int) ≤ 7 := by have := Nat.mod_lt j (show 0 < n + 1 by omega); omega
      have hn1p : ¬ ((n : Int) + 1 = 0) := by omega
      generalize j % (n + 1) = Rn at *
      have HNO := hide (fun h => allI_no (p := cok cs n) hlen h)
      have HUP := hide (fun h => up_to (p := cok cs n) (unhide hall) h)
      rw [unhide HC] at HNO
      have KC := hide (fun W => isCost x W)
      clear hlen
      cases hin : inB x 0 256
      · have EB := hide (unhide HNO (by rw [unhide HCK, hin]; rfl))
        rw [hin] at KC
        clear hin HNO HUP
        go_wp2_with (go_at_call 32; refine (unhide KC _).mono ?_; rintro e w_ ⟨rfl, rfl⟩)
        go_ret
        exact ⟨ret_bool (by rw [unhide E2, unhide EB]), Below.refl _ _⟩
      rw [hin] at KC
      have HIN := hide hin
      clear hin
      cases hd : ((Rn : Int) == 0)
      · have OK := hide (unhide HUP (by rw [unhide HCK, unhide HIN, ← unhide HE, hd]; rfl))
        clear HNO HUP
        go_wp2_with (go_at_call 32; refine (unhide KC _).mono ?_; rintro e w_ ⟨rfl, rfl⟩)
        go_round
        case rel => exact ⟨j + 1, by omega, by go_num, OK⟩
        case measure => simp [intOf]; omega
      cases hx : (x != 0)
      · have OK := hide (unhide HUP (by rw [unhide HCK, unhide HIN]; have : (x == 0) = true := (by simpa using hx); rw [this]; simp))
        clear HNO HUP
        go_wp2_with (go_at_call 32; refine (unhide KC _).mono ?_; rintro e w_ ⟨rfl, rfl⟩)
        go_round
        case rel => exact ⟨j + 1, by omega, by go_num, OK⟩
        case measure => simp [intOf]; omega
      · have EB := hide (unhide HNO (by rw [unhide HCK, unhide HIN, ← unhide HE, hd]; have : (x == 0) = false := (by simpa using hx); rw [this]; rfl))
        clear HNO HUP
        go_wp2_with (go_at_call 32; refine (unhide KC _).mono ?_; rintro e w_ ⟨rfl, rfl⟩)
        go_ret
        exact ⟨ret_bool (by rw [unhide E2, unhide EB]), Below.refl _ _⟩
    · obtain rfl : j = C := by omega
      have EA := hide (allI_yes (unhide hall))
      go_wp2_with fail
      go_ret
      exact ⟨ret_bool (by rw [unhide E2, unhide EA]), Below.refl _ _⟩
end Nt
end Go.Proofs.Ytpmlpojefelbbaa
namespace Go.Proofs.Ytpmlpojefelbbaa
open Go.ChangeShapes Go.WideShapes Go.ChangeAt Go.RowKit
set_option linter.unusedVariables false
set_option linter.unusedSimpArgs false
set_option maxRecDepth 100000
attribute [local go_sem ↓] Go.wp_at_zero Go.wp_at_succ
namespace Rt
open W1
end Rt
end Go.Proofs.Ytpmlpojefelbbaa
namespace Go.Proofs.Ytpmlpojefelbbaa
open Go.ChangeShapes Go.WideShapes Go.ChangeAt Go.RowKit
set_option linter.unusedVariables false
set_option linter.unusedSimpArgs false
set_option maxRecDepth 100000
attribute [local go_sem ↓] Go.wp_at_zero Go.wp_at_succ
namespace Nt
open W1 Rt
end Nt
end Go.Proofs.Ytpmlpojefelbbaa
namespace Go.Proofs.Ytpmlpojefelbbaa
open Go.ChangeShapes Go.WideShapes Go.ChangeAt Go.RowKit
set_option linter.unusedVariables false
set_option linter.unusedSimpArgs false
attribute [local go_sem ↓] Go.wp_at_zero Go.wp_at_succ
namespace Ln
open W1 Lk
/-- A link's block that may be written. -/
def LV (w : World) (b : Nat) (m : R) : Prop := w.heap[b]? = some (.cells #[.int .i64 m.ad, .int .i64 m.hd, .int .i64 m.sy, .int .i64 m.ci, .int .i64 m.co, .int .i64 m.wl] 73 (0, 0))
theorem LV.cells {w : World} {b : Nat} {m : R} (h : LV w b m) : At w b 0 m := by
  unfold LV at h; refine ⟨?_, ?_, ?_, ?_, ?_, ?_⟩ <;> simp [World.cell?, h]
theorem LV.free {w : World} {b : Nat} {m : R} (h : LV w b m) (i : Nat) : w.frozen? ⟨b, i, none⟩ = false := by unfold LV at h; simp [World.frozen?, h]
theorem LV.lt {w : World} {b : Nat} {m : R} (h : LV w b m) : b < w.heap.size := by
  rcases Nat.lt_or_ge b w.heap.size with hlt | hge
  · exact hlt
  · unfold LV at h; rw [Array.getElem?_eq_none hge] at h; cases h
theorem LV.below {w w' : World} {b : Nat} {m : R} (h : LV w b m) (hb : Below w.heap.size w w') : LV w' b m := (hb.block b h.lt).trans h
end Ln
end Go.Proofs.Ytpmlpojefelbbaa
namespace Go.Proofs.Ytpmlpojefelbbaa
open Go.ChangeShapes Go.WideShapes Go.ChangeAt Go.RowKit
set_option linter.unusedVariables false
set_option linter.unusedSimpArgs false
attribute [local go_sem ↓] Go.wp_at_zero Go.wp_at_succ
namespace Ln
open W1 Lk
end Ln
end Go.Proofs.Ytpmlpojefelbbaa
namespace Go.Proofs.Ytpmlpojefelbbaa
open Go.ChangeShapes Go.WideShapes Go.ChangeAt Go.RowKit
set_option linter.unusedVariables false
set_option linter.unusedSimpArgs false
set_option maxRecDepth 100000
attribute [local go_sem ↓] Go.wp_at_zero Go.wp_at_succ
namespace Rt
open W1
end Rt
end Go.Proofs.Ytpmlpojefelbbaa
namespace Go.Proofs.Ytpmlpojefelbbaa
open Go.ChangeShapes Go.WideShapes Go.ChangeAt Go.RowKit
set_option linter.unusedVariables false
set_option linter.unusedSimpArgs false
set_option maxRecDepth 100000
attribute [local go_sem ↓] Go.wp_at_zero Go.wp_at_succ
namespace Nt
open W1 Rt
end Nt
end Go.Proofs.Ytpmlpojefelbbaa
namespace Go.Proofs.Ytpmlpojefelbbaa
open Go.ChangeShapes Go.WideShapes Go.ChangeAt Go.RowKit
set_option linter.unusedVariables false
set_option linter.unusedSimpArgs false
set_option maxRecDepth 100000
attribute [local go_sem ↓] Go.wp_at_zero Go.wp_at_succ
namespace Nt
open W1 Rt
theorem execNB {op : Oper} {a : Act} {w : World} (x : Operand) (ho : op.op = .load 26 x) {b : Nat} {v1 v2 v3 : Value} {t : Int} (hx : a.eval x = .pointer (some ⟨b, 0, none⟩)) (h : NB w b v1 v2 v3 t) : (execOp a.eval op).run Try.prog w = .ok (.value (.agg #[v1, v2, v3, .int .i64 t])) w := by
  unfold execOp
  simp only [ho, hx, Instr.loadAt, Instr.sureAddr, Sem.run_bind, Sem.run_pure, Result.andThen_ok, run_loadVar_mid w b 0 26 [v1, v2, v3, .int .i64 t] _ (nb_range h) infoN.1 infoN.2.1 infoN.2.2]
end Nt
end Go.Proofs.Ytpmlpojefelbbaa
namespace Go.Proofs.Ytpmlpojefelbbaa
open Go.ChangeShapes Go.WideShapes Go.ChangeAt Go.RowKit
set_option linter.unusedVariables false
set_option linter.unusedSimpArgs false
set_option maxRecDepth 100000
attribute [local go_sem ↓] Go.wp_at_zero Go.wp_at_succ
namespace Nt
open W1 Rt
/-- Where a way's cost stands. -/
def plc (n : Nat) (x y : Int) : Nat := ((x - 1) * (n : Int) + y - 1).toNat
theorem plc_ok {n : Nat} {x y : Int} (h1 : 1 ≤ n) (h6 : n ≤ 6) (hx : 1 ≤ x) (hx' : x ≤ (n : Int)) (hy : 1 ≤ y) (hy' : y ≤ (n : Int)) : 0 ≤ (x - 1) * (n : Int) ∧ (x - 1) * (n : Int) ≤ 30 ∧ (x - 1) * (n : Int) + y - 1 = (plc n x y : Int) ∧ plc n x y < n * n := by
  have hn : n = 1 ∨ n = 2 ∨ n = 3 ∨ n = 4 ∨ n = 5 ∨ n = 6 := by omega
  unfold plc
  rcases hn with rfl | rfl | rfl | rfl | rfl | rfl <;> refine ⟨?_, ?_, ?_, ?_⟩ <;> omega
end Nt
end Go.Proofs.Ytpmlpojefelbbaa
namespace Go.Proofs.Ytpmlpojefelbbaa
open Go.ChangeShapes Go.WideShapes Go.ChangeAt Go.RowKit
set_option linter.unusedVariables false
set_option linter.unusedSimpArgs false
set_option maxRecDepth 100000
attribute [local go_sem ↓] Go.wp_at_zero Go.wp_at_succ
namespace Nt
open W1 Rt
end Nt
namespace Na
open W1 Rt Nt
def r64 (m : Rm) : Prop := m.ls.length ≤ 64 ∧ m.tw.length ≤ 64 ∧ m.se.length ≤ 64 ∧ m.du.length ≤ 64 ∧ m.ss.length ≤ 64 ∧ m.es.length ≤ 64 ∧ m.la.length ≤ 64
theorem r64_ok {m : Rm} (h : r64 m) : okL m := by unfold r64 at h; unfold okL; omega
theorem r64_sm {m : Rm} (h : r64 m) : Sm m := by unfold r64 at h; unfold Sm; omega
theorem r64_k {m : Rm} (h : r64 m) : mkK m ≤ 2000 := by unfold r64 at h; unfold mkK; omega
/-- A net as small as a right one. -/
def smN (ms : List Rm) (cs : List Int) (fs : List Fm.R) : Prop := ms.length ≤ 6 ∧ (∀ i, i < ms.length → r64 (ms.getD i Rm.zero)) ∧ cs.length ≤ 36 ∧ fs.length ≤ 200
theorem sumK_small {ms : List Rm} (h : ∀ i, i < ms.length → r64 (ms.getD i Rm.zero)) : ∀ j, j ≤ ms.length → sumK ms j ≤ 2000 * (j : Int)
  | 0, _ => by simp [sumK]
  | j + 1, hj => by have := sumK_small h j (by omega); have := r64_k (h j (by omega)); simp only [sumK]; omega
theorem smN_k {ms : List Rm} {cs : List Int} {fs : List Fm.R} (h : smN ms cs fs) : 1 + totK ms cs fs ≤ 99990 := by
  obtain ⟨h1, h2, h3, h4⟩ := h
  have := sumK_small h2 ms.length (Nat.le_refl _)
  unfold totK; omega
theorem smN_nil : smN [] [] [] := ⟨by simp, fun i hi => absurd hi (Nat.not_lt_zero i), by simp, by simp⟩
/-- A net that is answered in memory of its own: by the program, by the model. -/
def GotM (v : Value) (w w' : World) (ms : List Rm) (cs : List Int) (fs : List Fm.R) (t : Int) : Prop := ∃ a b d ca cb cd qs, v = .agg #[.slice a ms.length ca, .slice b cs.length cb, .slice d fs.length cd, .int .i64 t] ∧ MT w' w.heap.size w'.heap.size a b d ms qs cs fs
def GotR (v : Value) (w w' : World) (ms : List Rm) (cs : List Int) (fs : List Fm.R) (t : Int) : Prop := ∃ a b d ca cb cd qs, v = .agg #[.slice a ms.length ca, .slice b cs.length cb, .slice d fs.length cd, .int .i64 t] ∧ RT w' w.heap.size w'.heap.size a b d ms qs cs fs
theorem gotM_nil {w w' : World} (h : w.heap.size ≤ w'.heap.size) : GotM (.agg #[.slice none 0 0, .slice none 0 0, .slice none 0 0, .int .i64 0]) w w' [] [] [] 0 := by
  refine ⟨none, none, none, 0, 0, 0, [], rfl, fun _ => 0, w.heap.size, w.heap.size, w.heap.size, w.heap.size, w.heap.size, w.heap.size, ⟨Nat.le_refl _, h⟩, ⟨Nat.le_refl _, h⟩, ⟨Nat.le_refl _, h⟩, .inl (Nat.le_refl _), .inl (Nat.le_refl _), .inl (Nat.le_refl _), .inl rfl, .inl rfl, .inl rfl⟩
theorem resultsNC {fn : Func} {p q : Tmp} (h : fn.results = #[.cell p 26, .tmp q]) (tmps : Array Value) (w : World) {b : Nat} {v1 v2 v3 : Value} {t : Int} (hp : tmps.getD p undef = .pointer (some ⟨b, 0, none⟩)) (hg : NB w b v1 v2 v3 t) {v : Value} (hv : tmps.getD q undef = v) : (results fn tmps).run Try.prog w = .ok (.tuple #[.agg #[v1, v2, v3, .int .i64 t], v]) w := by
  have hp' : tmps[p]?.getD undef = .pointer (some ⟨b, 0, none⟩) := by simpa using hp
  have hv' : tmps[q]?.getD undef = v := by simpa using hv
  simp only [results, h]
  simp [Sem.run_bind, hp', hv', asAddr, run_loadVar_mid w b 0 26 [v1, v2, v3, .int .i64 t] _ (nb_range hg) infoN.1 infoN.2.1 infoN.2.2, Result.andThen]
end Na
namespace Nt
end Nt
end Go.Proofs.Ytpmlpojefelbbaa
namespace Go.Proofs.Ytpmlpojefelbbaa
open Go.ChangeShapes Go.WideShapes Go.ChangeAt Go.RowKit
set_option linter.unusedVariables false
set_option linter.unusedSimpArgs false
attribute [local go_sem ↓] Go.wp_at_zero Go.wp_at_succ
namespace Rt
open W1
def okN (x y z : Int) : Bool := inB x 1 8 && (inB y 0 7 && inB z 0 65535)
def pickN (x y z v : Int) : Int := if okN x y z = true then v else 0
def codeN (x y z : Int) : Int := if okN x y z = true then 0 else 4
theorem isWillN (n : Int) (w : World) : Calls Try.prog 34 #[.int .i64 n] w fun e w' => e = .returned (.bool (inB n 0 7)) ∧ w' = w := by
  go_enter Try.func34, Try.ntmps34
  go_wp2_with (go_at_call 18; refine (within _ _ _ _).mono ?_; rintro e w' ⟨rfl, rfl⟩)
  go_ret
  exact ⟨rfl, rfl⟩
end Rt
end Go.Proofs.Ytpmlpojefelbbaa
namespace Go.Proofs.Ytpmlpojefelbbaa
open Go.ChangeShapes Go.WideShapes Go.ChangeAt Go.RowKit
set_option linter.unusedVariables false
set_option linter.unusedSimpArgs false
set_option maxRecDepth 100000
attribute [local go_sem ↓] Go.wp_at_zero Go.wp_at_succ
namespace Rt
open W1
/-- A router whose lists are empty. -/
def EV (x y z : Int) (v : Value) : Prop := ∃ a1 a2 a3 a4 a5 a6 a7 : Option Addr, v = .agg (rC x y z 0 0 (.slice a1 0 0) (.slice a2 0 0) (.slice a3 0 0) (.slice a4 0 0) (.slice a5 0 0) (.slice a6 0 0) (.slice a7 0 0) 0).toArray
theorem RA.alloc {w : World} {b : Nat} {cs : List Value} (h : RA w b cs) (ob : Obj) : RA (w.alloc ob) b cs := h.below ((Below.refl _ _).alloc (Nat.le_refl _) ob)
theorem bel_alloc {w w' : World} (h : Below w.heap.size w w') (ob : Obj) : Below w.heap.size w (w'.alloc ob) := h.alloc h.size ob
set_option maxHeartbeats 8000000 in
theorem implNew (x y z : Int) (w : World) : Calls Try.prog 21 #[.int .i64 x, .int .i64 y, .int .i64 z] w fun e w' => ∃ v, e = .returned (.tuple #[v, .int .i64 (codeN x y z)]) ∧ EV (pickN x y z x) (pickN x y z y) (pickN x y z z) v ∧ Below w.heap.size w w' := by
  cases e1 : inB x 1 8
  · have P1 : pickN x y z x = 0 := by unfold pickN okN; simp [*]
    have P2 : pickN x y z y = 0 := by unfold pickN okN; simp [*]
    have P3 : pickN x y z z = 0 := by unfold pickN okN; simp [*]
    have P4 : codeN x y z = 4 := by unfold codeN okN; simp [*]
    rw [P1, P2, P3, P4]
    clear P1 P2 P3 P4
    go_enter Try.func21, Try.ntmps21
    go_wp2_with (first | (go_at_call 33; refine (isAddress _ _).mono ?_; rintro e w' ⟨rfl, rfl⟩) | (go_at_call 34; refine (isWillN _ _).mono ?_; rintro e w' ⟨rfl, rfl⟩) | (go_at_call 35; refine (isSeq _ _).mono ?_; rintro e w' ⟨rfl, rfl⟩))
    refine bodyPost_ret (resultsR2 rfl _ _ rfl (ra_new w _ rfl _) rfl) rfl ⟨_, rfl, ⟨_, _, _, _, _, _, _, rfl⟩, bel_alloc (Below.refl _ _) _⟩
  cases e2 : inB y 0 7
  · have P1 : pickN x y z x = 0 := by unfold pickN okN; simp [*]
    have P2 : pickN x y z y = 0 := by unfold pickN okN; simp [*]
    have P3 : pickN x y z z = 0 := by unfold pickN okN; simp [*]
    have P4 : codeN x y z = 4 := by unfold codeN okN; simp [*]
    rw [P1, P2, P3, P4]
    clear P1 P2 P3 P4
    go_enter Try.func21, Try.ntmps21
    go_wp2_with (first | (go_at_call 33; refine (isAddress _ _).mono ?_; rintro e w' ⟨rfl, rfl⟩) | (go_at_call 34; refine (isWillN _ _).mono ?_; rintro e w' ⟨rfl, rfl⟩) | (go_at_call 35; refine (isSeq _ _).mono ?_; rintro e w' ⟨rfl, rfl⟩))
    refine bodyPost_ret (resultsR2 rfl _ _ rfl (ra_new w _ rfl _) rfl) rfl ⟨_, rfl, ⟨_, _, _, _, _, _, _, rfl⟩, bel_alloc (Below.refl _ _) _⟩
  cases e3 : inB z 0 65535
  · have P1 : pickN x y z x = 0 := by unfold pickN okN; simp [*]
    have P2 : pickN x y z y = 0 := by unfold pickN okN; simp [*]
    have P3 : pickN x y z z = 0 := by unfold pickN okN; simp [*]
    have P4 : codeN x y z = 4 := by unfold codeN okN; simp [*]
    rw [P1, P2, P3, P4]
    clear P1 P2 P3 P4
    go_enter Try.func21, Try.ntmps21
    go_wp2_with (first | (go_at_call 33; refine (isAddress _ _).mono ?_; rintro e w' ⟨rfl, rfl⟩) | (go_at_call 34; refine (isWillN _ _).mono ?_; rintro e w' ⟨rfl, rfl⟩) | (go_at_call 35; refine (isSeq _ _).mono ?_; rintro e w' ⟨rfl, rfl⟩))
    refine bodyPost_ret (resultsR2 rfl _ _ rfl (ra_new w _ rfl _) rfl) rfl ⟨_, rfl, ⟨_, _, _, _, _, _, _, rfl⟩, bel_alloc (Below.refl _ _) _⟩
  · have P1 : pickN x y z x = x := by unfold pickN okN; rw [e1, e2, e3]; rfl
    have P2 : pickN x y z y = y := by unfold pickN okN; rw [e1, e2, e3]; rfl
    have P3 : pickN x y z z = z := by unfold pickN okN; rw [e1, e2, e3]; rfl
    have P4 : codeN x y z = 0 := by unfold codeN okN; rw [e1, e2, e3]; rfl
    rw [P1, P2, P3, P4]
    clear P1 P2 P3 P4
    go_enter Try.func21, Try.ntmps21
    go_wp2_with (first | (go_at_call 33; refine (isAddress _ _).mono ?_; rintro e w' ⟨rfl, rfl⟩) | (go_at_call 34; refine (isWillN _ _).mono ?_; rintro e w' ⟨rfl, rfl⟩) | (go_at_call 35; refine (isSeq _ _).mono ?_; rintro e w' ⟨rfl, rfl⟩))
    refine bodyPost_ret (resultsR2 rfl _ _ rfl (ra_new w _ rfl _) rfl) rfl ⟨_, rfl, ⟨_, _, _, _, _, _, _, rfl⟩, bel_alloc (Below.refl _ _) _⟩
end Rt
end Go.Proofs.Ytpmlpojefelbbaa
namespace Go.Proofs.Ytpmlpojefelbbaa
open Go.ChangeShapes Go.WideShapes Go.ChangeAt Go.RowKit
set_option linter.unusedVariables false
set_option linter.unusedSimpArgs false
set_option maxRecDepth 100000
attribute [local go_sem ↓] Go.wp_at_zero Go.wp_at_succ
namespace Nt
open W1 Rt Na
/-- A router at its beginning, again with a number and a time. -/
def newM (x y z v u : Int) : Rm := ⟨x, y, z, v, u, 0, [], [], [], [], [], [], []⟩
theorem newM_ow {W : World} {lo hi : Nat} {x y z v u : Int} {q : Pl} (h : lo ≤ hi) : Ow W lo hi (newM x y z v u) q := by
  refine ⟨lo, lo, lo, lo, lo, lo, ⟨Nat.le_refl _, Nat.le_refl _, Nat.le_refl _, Nat.le_refl _, Nat.le_refl _, Nat.le_refl _, h⟩, .inl rfl, .inl rfl, .inl rfl, .inl rfl, .inl rfl, .inl rfl, .inl rfl⟩
theorem MT.row {W : World} {lo hi : Nat} {a b d : Option Addr} {ms : List Rm} {qs : List Pl} {cs : List Int} {fs : List Fm.R} (h : MT W lo hi a b d ms qs cs fs) (h0 : 0 < ms.length) : ∃ g, a = some ⟨g, 0, none⟩ ∧ lo ≤ g ∧ g < hi ∧ g < W.heap.size ∧ W.there g 0 (ms.length * 13) ∧ ∀ i, i < ms.length → W.rangeAt g (i * 13) (cl (ms.getD i Rm.zero) (qs.getD i Pl.zero)) := by
  obtain ⟨f, p1, q1, p2, q2, p3, q3, e1, e2, e3, e4, e5, e6, g1, g2, g3⟩ := h
  rcases g1 with g1 | ⟨g, rfl, h1, h2, h3, h4, h5, h6, h7⟩
  · omega
  · exact ⟨g, rfl, by omega, by omega, h3, h7.2.1, h7.1⟩
theorem l12NewA (x y z : Int) (w : World) : Calls Try.prog 31 #[.int .i64 x, .int .i64 y, .int .i64 z] w fun e w' => ∃ q, e = .returned (.agg (cl (newM x y z 0 0) q).toArray) ∧ Below w.heap.size w w' ∧ Hid (Ad q) := by
  go_enter Try.func31, Try.ntmps31
  go_wp2_with fail
  refine bodyPost_ret (resultsR rfl _ _ rfl (RA.alloc (RA.alloc (RA.alloc (RA.alloc (RA.alloc (RA.alloc (RA.alloc (ra_new w _ rfl _) _) _) _) _) _) _) _)) rfl ⟨⟨some ⟨_, 0, none⟩, some ⟨_, 0, none⟩, some ⟨_, 0, none⟩, some ⟨_, 0, none⟩, some ⟨_, 0, none⟩, some ⟨_, 0, none⟩, some ⟨_, 0, none⟩, 0, 0, 0, 0, 0, 0, 0⟩, rfl, ?_, hide ⟨⟨_, rfl⟩, ⟨_, rfl⟩, ⟨_, rfl⟩, ⟨_, rfl⟩, ⟨_, rfl⟩, ⟨_, rfl⟩, ⟨_, rfl⟩⟩⟩
  exact bel_alloc (bel_alloc (bel_alloc (bel_alloc (bel_alloc (bel_alloc (bel_alloc (bel_alloc (Below.refl _ _) _) _) _) _) _) _) _) _
end Nt
end Go.Proofs.Ytpmlpojefelbbaa
namespace Go.Proofs.Ytpmlpojefelbbaa
open Go.ChangeShapes Go.WideShapes Go.ChangeAt Go.RowKit
set_option linter.unusedVariables false
set_option linter.unusedSimpArgs false
set_option maxRecDepth 100000
attribute [local go_sem ↓] Go.wp_at_zero Go.wp_at_succ
namespace Nt
open W1 Rt Na
/-- A new net's code. -/
def willB (ws : List Int) (j : Nat) : Bool := inB (ws.getD j 0) 0 7
def nnE (ws cs : List Int) : Int :=
  if 4096 < ws.length ∨ 4096 < cs.length then 2 else if inB ws.length 1 6 = true then (if costB cs ws.length = true then (if allI ws.length (willB ws) = true then 0 else 4) else 1) else 6
/-- The first n of a new net's routers. -/
def nnR (ws : List Int) (n : Nat) : List Rm := (List.range n).map fun (i : Nat) => newM ((i : Int) + 1) (ws.getD i 0) 0 0 0
theorem nnR_len (ws : List Int) (n : Nat) : (nnR ws n).length = n := by unfold nnR; simp
theorem nnR_get {ws : List Int} {n i : Nat} (h : i < n) : (nnR ws n).getD i Rm.zero = newM ((i : Int) + 1) (ws.getD i 0) 0 0 0 := by
  unfold nnR
  rw [List.getD_eq_getElem?_getD, List.getElem?_map, List.getElem?_range h]; rfl
def nnM (e : Int) (ws : List Int) : List Rm := if e = 0 then nnR ws ws.length else []
def nnC (e : Int) (cs : List Int) : List Int := if e = 0 then cs else []
theorem nn_small {ws cs : List Int} (h : nnE ws cs = 0) : 1 ≤ ws.length ∧ ws.length ≤ 6 ∧ costB cs ws.length = true ∧ allI ws.length (willB ws) = true := by
  unfold nnE at h
  split at h
  · omega
  · split at h
    · rename_i h1
      have : (1 : Int) ≤ (ws.length : Int) ∧ (ws.length : Int) ≤ 6 := by simpa [inB] using h1
      split at h
      · split at h
        · exact ⟨by omega, by omega, by assumption, by assumption⟩
        · omega
      · omega
    · omega
theorem implNewA (x y : Int) (w : World) (hx : inB x 1 8 = true) : Calls Try.prog 21 #[.int .i64 x, .int .i64 y, .int .i64 0] w fun e w' => ∃ q, e = .returned (.tuple #[.agg (cl (if inB y 0 7 = true then newM x y 0 0 0 else newM 0 0 0 0 0) q).toArray, .int .i64 (if inB y 0 7 = true then 0 else 4)]) ∧ Below w.heap.size w w' := by
  refine (implNew x y 0 w).mono ?_
  rintro e w' ⟨v, rfl, ⟨a1, a2, a3, a4, a5, a6, a7, rfl⟩, b⟩
  refine ⟨⟨a1, a2, a3, a4, a5, a6, a7, 0, 0, 0, 0, 0, 0, 0⟩, ?_, b⟩
  have h0 : inB 0 0 65535 = true := rfl
  unfold pickN codeN okN
  rw [hx, h0]
  cases inB y 0 7 <;> rfl
end Nt
end Go.Proofs.Ytpmlpojefelbbaa
namespace Go.Proofs.Ytpmlpojefelbbaa
open Go.ChangeShapes Go.WideShapes Go.ChangeAt Go.RowKit
set_option linter.unusedVariables false
set_option linter.unusedSimpArgs false
set_option maxRecDepth 100000
attribute [local go_sem ↓] Go.wp_at_zero Go.wp_at_succ
namespace Nt
open W1 Rt Na
theorem up_set {w : World} {g n : Nat} {zs : List Int} {p : Nat} {z : Int} (h : In.Upto w g n zs.length zs) (hn : n = zs.length) (hp : p < zs.length) : In.Upto (w.setCell ⟨g, p, none⟩ (.int .i64 z)) g n (zs.set p z).length (zs.set p z) := by
  subst hn
  rw [List.length_set]
  refine ⟨fun i hi => ?_, fun i hi => ?_⟩
  · by_cases e : i = p
    · subst e
      obtain ⟨u, hu⟩ := Option.isSome_iff_exists.1 (h.2 i hi).1
      rw [World.cell?_setCell_same _ _ _ hu]
      rw [List.getD_eq_getElem?_getD, List.getElem?_set_self hp]; rfl
    · rw [World.cell?_setCell_other _ _ _ _ (by intro h; injection h with _ h2 _; exact e h2.symm)]
      rw [h.1 i hi, List.getD_eq_getElem?_getD, List.getD_eq_getElem?_getD, List.getElem?_set_ne (fun h => e h.symm)]
  · obtain ⟨u, hu⟩ := Option.isSome_iff_exists.1 (h.2 i hi).1
    obtain ⟨v, hv⟩ := cell?_setCell_some (p := ⟨g, p, none⟩) (x := .int .i64 z) hu
    exact ⟨by rw [hv]; rfl, by rw [World.frozen?_setCell]; exact (h.2 i hi).2⟩
theorem MT.mono {W : World} {lo hi lo' hi' : Nat} {a b d : Option Addr} {ms : List Rm} {qs : List Pl} {cs : List Int} {fs : List Fm.R} (h : MT W lo hi a b d ms qs cs fs) (h1 : lo' ≤ lo) (h2 : hi ≤ hi') : MT W lo' hi' a b d ms qs cs fs := by
  obtain ⟨f, p1, q1, p2, q2, p3, q3, e1, e2, e3, r⟩ := h
  exact ⟨f, p1, q1, p2, q2, p3, q3, by omega, by omega, by omega, r⟩
theorem MT.costs {W : World} {lo hi : Nat} {a b d : Option Addr} {ms : List Rm} {qs : List Pl} {cs : List Int} {fs : List Fm.R} (h : MT W lo hi a b d ms qs cs fs) (h0 : 0 < cs.length) : ∃ g, b = some ⟨g, 0, none⟩ ∧ lo ≤ g ∧ g < hi ∧ g < W.heap.size ∧ ∀ i, i < cs.length → W.cell? ⟨g, i, none⟩ = some (.int .i64 (cs.getD i 0)) ∧ W.frozen? ⟨g, i, none⟩ = false := by
  obtain ⟨f, p1, q1, p2, q2, p3, q3, e1, e2, e3, e4, e5, e6, g1, g2, g3⟩ := h
  rcases g2 with g2 | ⟨g, rfl, h1, h2, h3, h4⟩
  · rw [g2] at h0; simp at h0
  · exact ⟨g, rfl, by omega, by omega, h3, fun i hi => ⟨h4.1 i hi, (h4.2 i hi).2⟩⟩
set_option maxHeartbeats 32000000 in
theorem l13Set (a b d : Option Addr) (ca cb cd n : Nat) (t : Int) (cs : List Int) (fs : List Fm.R) (x y z : Int) (w : World) (h1 : 1 ≤ n) (h6 : n ≤ 6) (hC : cs.length = n * n) (hc36 : cs.length ≤ 36) (hx : 1 ≤ x) (hx' : x ≤ (n : Int)) (hy : 1 ≤ y) (hy' : y ≤ (n : Int)) (hi : In.RM w b cs) :
    Calls Try.prog 29 #[.agg #[.slice a n ca, .slice b cs.length cb, .slice d fs.length cd, .int .i64 t], .int .i64 x, .int .i64 y, .int .i64 z] w fun e w' => ∃ b' cb', e = .returned (.agg #[.slice a n ca, .slice b' cs.length cb', .slice d fs.length cd, .int .i64 t]) ∧ Below w.heap.size w w' ∧ In.Lst w' b' (cs.set (plc n x y) z) w.heap.size w'.heap.size := by
  obtain ⟨hM0, hM1, hMP, hPl⟩ := plc_ok h1 h6 hx hx' hy hy'
  rw [← hC] at hPl
  clear hC
  obtain ⟨Pn, hPn⟩ : ∃ Pn, plc n x y = Pn := ⟨_, rfl⟩
  rw [hPn] at hMP hPl
  rw [hPn]
  clear hPn
  obtain ⟨M, hM⟩ : ∃ M, (x - 1) * (n : Int) = M := ⟨_, rfl⟩
  rw [hM] at hM0 hM1 hMP
  have hx6 : x ≤ 6 := by omega
  have hy6 : y ≤ 6 := by omega
  have hPb : (Pn : Int) < (cs.length : Int) := by omega
  have hP0 : (0 : Int) ≤ (Pn : Int) := by omega
  have hP36 : (Pn : Int) ≤ 36 := by omega
  have z1 : (w.alloc (.cells #[.slice a n ca, .slice b cs.length cb, .slice d fs.length cd, .int .i64 t] 26)).heap.size = w.heap.size + 1 := by simp
  have hq0 : w.heap.size + 2 ≤ ((w.alloc (.cells #[.slice a n ca, .slice b cs.length cb, .slice d fs.length cd, .int .i64 t] 26)).alloc (.cells #[.slice none 0 0, .slice none 0 0, .slice none 0 0, .int .i64 0] 26)).heap.size := by simp
  have HB0 : Hid (Below w.heap.size w ((w.alloc (.cells #[.slice a n ca, .slice b cs.length cb, .slice d fs.length cd, .int .i64 t] 26)).alloc (.cells #[.slice none 0 0, .slice none 0 0, .slice none 0 0, .int .i64 0] 26))) := hide (((Below.refl _ _).alloc (Nat.le_refl _) _).alloc (by simp) _)
  have c1 : Below (w.alloc (.cells #[.slice a n ca, .slice b cs.length cb, .slice d fs.length cd, .int .i64 t] 26)).heap.size (w.alloc (.cells #[.slice a n ca, .slice b cs.length cb, .slice d fs.length cd, .int .i64 t] 26)) ((w.alloc (.cells #[.slice a n ca, .slice b cs.length cb, .slice d fs.length cd, .int .i64 t] 26)).alloc (.cells #[.slice none 0 0, .slice none 0 0, .slice none 0 0, .int .i64 0] 26)) := bel_new _ _
  have HX0 := hide ((nb_new w (.slice a n ca) (.slice b cs.length cb) (.slice d fs.length cd) t 26).below c1)
  have TX0 : Hid (((w.alloc (.cells #[.slice a n ca, .slice b cs.length cb, .slice d fs.length cd, .int .i64 t] 26)).alloc (.cells #[.slice none 0 0, .slice none 0 0, .slice none 0 0, .int .i64 0] 26)).there w.heap.size 0 4) := hide (there_under (there_new4 w _ _ _ _ _) c1 (by rw [z1]; omega))
  have TZ0 : Hid (((w.alloc (.cells #[.slice a n ca, .slice b cs.length cb, .slice d fs.length cd, .int .i64 t] 26)).alloc (.cells #[.slice none 0 0, .slice none 0 0, .slice none 0 0, .int .i64 0] 26)).there (w.heap.size + 1) 0 4) := hide (by have h := there_new4 (w.alloc (.cells #[.slice a n ca, .slice b cs.length cb, .slice d fs.length cd, .int .i64 t] 26)) (.slice none 0 0) (.slice none 0 0) (.slice none 0 0) (.int .i64 0) 26; rw [z1] at h; exact h)
  have HI := hide hi
  clear z1 c1 hi
  go_enter Try.func29, Try.ntmps29
  obtain ⟨V0, hV0⟩ : ∃ V, ((w.alloc (.cells #[.slice a n ca, .slice b cs.length cb, .slice d fs.length cd, .int .i64 t] 26)).alloc (.cells #[.slice none 0 0, .slice none 0 0, .slice none 0 0, .int .i64 0] 26)) = V := ⟨_, rfl⟩
  rw [hV0] at hq0 HB0 HX0 TX0 TZ0
  have OIn := hide (In.own_empty V0 V0.heap.size (Nat.le_refl _))
  have HIe := hide (((unhide HI).below (unhide HB0)).below (bel_new V0 (.cells #[] 3)))
  have bE : Below V0.heap.size V0 (V0.alloc (.cells #[] 3)) := bel_new _ _
  obtain ⟨x0, x1, x2, x3⟩ := (unhide HX0).below bE
  go_upto_region 2 with (at_builtin; refine apOI (unhide OIn) b cb cs (unhide HIe) (by simp only [List.length_nil]; omega) (by simp) rfl _ _ rfl rfl rfl ?_; intro v_ V1 ho hg; have d1 : Below V0.heap.size V0 V1 := In.below_own bE (unhide OIn) hg (Nat.le_refl _) (by simp); obtain ⟨b', cb', rfl, l1⟩ := In.lst_own (zs := cs) rfl ho; have f1 := free_at (there_under (unhide TX0) d1 (unhide HX0).lt) (k := 1) (by omega); obtain ⟨y0, y1, y2, y3⟩ := (unhide HX0).below d1; clear ho hg)
  clear f1 x0 x1 x2 x3 y0 y1 y2 y3 bE hV0
  have HB1 := hide ((unhide HB0).trans (d1.mono (unhide HB0).size))
  have hq1 := d1.size
  have HX1 := hide ((unhide HX0).below d1)
  have TX1 := hide (there_under (unhide TX0) d1 (unhide HX0).lt)
  have TZ1 := hide (there_under (unhide TZ0) d1 (by have := (unhide HX0).lt; omega))
  have UI1 := hide l1
  clear HX0 TX0 TZ0 l1 d1 HB0 HIe OIn
  obtain ⟨V2, hV2⟩ : ∃ V, (V1.setCell ⟨w.heap.size, 1, none⟩ (.slice b' cs.length cb')) = V := ⟨_, rfl⟩
  have HB2 : Hid (Below w.heap.size w V2) := hide (by rw [← hV2]; exact (unhide HB1).setCell (p := ⟨w.heap.size, 1, none⟩) (Nat.le_refl _) _)
  have HX2 := hide (show NB V2 w.heap.size _ _ _ _ by rw [← hV2]; exact (unhide HX1).set1 (.slice b' cs.length cb'))
  have TX2 : Hid (V2.there w.heap.size 0 4) := hide (by rw [← hV2]; exact there_at (unhide TX1))
  have TZ2 : Hid (V2.there (w.heap.size + 1) 0 4) := hide (by rw [← hV2]; exact there_at (unhide TZ1))
  have hq2 : V2.heap.size = V1.heap.size := by rw [← hV2]; simp [World.setCell]
  have ho2 : ∀ x, x ≠ w.heap.size → V2.heap[x]? = V1.heap[x]? := fun x hx => by rw [← hV2]; exact Below.heap_setCell _ _ _ _ hx
  have UI2 := hide ((unhide UI1).but (p := fun k => k ≠ w.heap.size) (by omega) (fun k hk e => ho2 k e) (fun k h1 h2 => by omega))
  have HV2 := hide hV2
  clear hV2 ho2
  have f1 := free_at (unhide TX1) (k := 1) (by omega)
  obtain ⟨x0, x1, x2, x3⟩ := unhide HX1
  rw [unhide HV2]
  clear f1 x0 x1 x2 x3 HX1 TX1 TZ1 UI1 HB1
  obtain ⟨gb, rfl, g1, g2, g3, hup⟩ : ∃ g, b' = some ⟨g, 0, none⟩ ∧ V0.heap.size ≤ g ∧ g < V1.heap.size ∧ g < V2.heap.size ∧ In.Upto V2 g cs.length cs.length cs := by
    rcases unhide UI2 with e0 | h
    · exfalso; rw [e0] at hPl; simp at hPl
    · exact h
  have c0 := hup.1 Pn hPl
  have f0 := (hup.2 Pn hPl).2
  have HU2 := hide hup
  clear hup UI2
  obtain ⟨p0, p1, p2, p3⟩ := unhide HX2
  have HX3 := hide ((unhide HX2).other (p := ⟨gb, Pn, none⟩) (by show w.heap.size ≠ gb; omega) (.int .i64 z))
  have TZ3 := hide (there_at (p := ⟨gb, Pn, none⟩) (v := .int .i64 z) (unhide TZ2))
  have HB3 := hide ((unhide HB2).setCell (p := ⟨gb, Pn, none⟩) (by show w.heap.size ≤ gb; omega) (.int .i64 z))
  have HU3 := hide (up_set (z := z) (unhide HU2) rfl hPl)
  have hq3 : (V2.setCell ⟨gb, Pn, none⟩ (.int .i64 z)).heap.size = V2.heap.size := by simp [World.setCell]
  obtain ⟨V3, hV3⟩ : ∃ V, V2.setCell ⟨gb, Pn, none⟩ (.int .i64 z) = V := ⟨_, rfl⟩
  rw [hV3] at HX3 TZ3 HB3 HU3 hq3
  have HV3 := hide hV3
  clear hV3 HX2 TZ2 HB2 HU2
  go_upto_region 3 with fail
  rw [unhide HV3]
  clear p0 p1 p2 p3 c0 f0
  obtain ⟨p0, p1, p2, p3⟩ := unhide HX3
  go_wp2_with (refine storeNB _ _ rfl rfl rfl rfl rfl (unhide TZ3) rfl rfl ?_; intro V9 n9 t9 bb9 s9 k9)
  clear p0 p1 p2 p3
  refine bodyPost_ret (v := .agg #[.slice a n ca, .slice (some ⟨gb, 0, none⟩) cs.length cb', .slice d fs.length cd, .int .i64 t]) (resultsN rfl _ _ rfl n9) rfl ⟨some ⟨gb, 0, none⟩, cb', rfl, bb9 _ _ (unhide HB3) (Nat.le_succ _), .inr ⟨gb, rfl, by omega, by omega, by omega, ?_⟩⟩
  have := unhide HU3
  rw [List.length_set] at this ⊢
  exact this.of_block (k9 gb (by omega))
end Nt
end Go.Proofs.Ytpmlpojefelbbaa
