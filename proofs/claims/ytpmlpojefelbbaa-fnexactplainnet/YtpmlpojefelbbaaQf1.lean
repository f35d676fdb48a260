/-
  Of the texts Wire1, RtrV, RecLink, RecTuple, RecSource, RecEdge, NetV, SetM, SetL, SetS, TwoM, Rise, TopM, Mpt, Rg: what this claim needs of them. (put together by mkprune.py)
-/
import Derived.Test.YtpmlpojefelbbaaRows
import Derived.WalkKit
import Derived.ProofKit
import Derived.OpenShut
import Derived.ShutString
import Derived.ChangeOld
import Derived.Below
import Derived.Deep.MidRow
import Derived.Deep.WholeRow
import Derived.Deep.RegionHeld3
import Derived.Deep.DrawnRows
import Derived.Deep.Slices
import Derived.Laws.AppendOwn
import Derived.Maps.OwnSet
import Derived.DeepKeys4
namespace Go.Proofs.Ytpmlpojefelbbaa
open Go.ChangeShapes Go.WideShapes Go.ChangeAt Go.RowKit
set_option linter.unusedVariables false

namespace W1
theorem hide {p : Prop} (h : p) : Hid p := h
theorem unhide {p : Prop} (h : Hid p) : p := h
theorem ret_bool {a b : Bool} (h : a = b) : Ending.returned (.bool a) = .returned (.bool b) := by rw [h]
def inB (n a b : Int) : Bool := decide (a ≤ n) && decide (n ≤ b)
/-- How many of the first N codes stand for less than n. -/
def cnt (f : Nat → Int) (N : Nat) (n : Int) : Nat := ((List.range N).filter fun c => decide (f c < n)).length
/-- Two numbers and a value in a variable's block. -/
def Bx3 (w : World) (b : Nat) (x y : Int) (v : Value) : Prop := w.cell? ⟨b, 0, none⟩ = some (.int .i64 x) ∧ w.cell? ⟨b, 1, none⟩ = some (.int .i64 y) ∧ w.cell? ⟨b, 2, none⟩ = some v
theorem Bx3.under {w w' : World} {B b : Nat} {x y : Int} {v : Value} (h : Bx3 w b x y v) (hb : Below B w w') (hg : b < B) : Bx3 w' b x y v := by
  obtain ⟨h0, h1, h2⟩ := h
  refine ⟨?_, ?_, ?_⟩ <;> (rw [hb.cell hg]; assumption)
theorem Bx3.lt {w : World} {b : Nat} {x y : Int} {v : Value} (h : Bx3 w b x y v) : b < w.heap.size := World.block_lt_of_cell? _ _ h.1
theorem Bx3.below {w w' : World} {b : Nat} {x y : Int} {v : Value} (h : Bx3 w b x y v) (hb : Below w.heap.size w w') : Bx3 w' b x y v := h.under hb h.lt
theorem Bx3.drew {w : World} {b : Nat} {x y : Int} {v : Value} (h : Bx3 w b x y v) : Bx3 w.drew b x y v := h
theorem Bx3.but {w w' : World} {b : Nat} {x y : Int} {v : Value} (h : Bx3 w b x y v) (hb : w'.heap[b]? = w.heap[b]?) : Bx3 w' b x y v :=
  ⟨(World.cell?_of_block (a := ⟨b, 0, none⟩) hb).trans h.1, (World.cell?_of_block (a := ⟨b, 1, none⟩) hb).trans h.2.1, (World.cell?_of_block (a := ⟨b, 2, none⟩) hb).trans h.2.2⟩
set_option maxHeartbeats 400000 in
theorem within (n a b : Int) (w : World) : Calls Try.prog 18 #[.int .i64 n, .int .i64 a, .int .i64 b] w fun e w' => e = .returned (.bool (inB n a b)) ∧ w' = w := by
  by_cases h1 : a ≤ n
  all_goals by_cases h2 : n ≤ b
  all_goals
    go_enter Try.func18, Try.ntmps18
    go_wp2
    go_ret
    exact ⟨ret_bool (by simp [inB, h1, h2]), rfl⟩
theorem isAddress (n : Int) (w : World) : Calls Try.prog 33 #[.int .i64 n] w fun e w' => e = .returned (.bool (inB n 1 8)) ∧ w' = w := by
  go_enter Try.func33, Try.ntmps33
  go_wp2_with (go_at_call 18; refine (within _ _ _ _).mono ?_; rintro e w' ⟨rfl, rfl⟩)
  go_ret
  exact ⟨rfl, rfl⟩

theorem isSeq (n : Int) (w : World) : Calls Try.prog 35 #[.int .i64 n] w fun e w' => e = .returned (.bool (inB n 0 65535)) ∧ w' = w := by
  go_enter Try.func35, Try.ntmps35
  go_wp2_with (go_at_call 18; refine (within _ _ _ _).mono ?_; rintro e w' ⟨rfl, rfl⟩)
  go_ret
  exact ⟨rfl, rfl⟩


end W1
end Go.Proofs.Ytpmlpojefelbbaa
namespace Go.Proofs.Ytpmlpojefelbbaa
open Go.ChangeShapes Go.WideShapes Go.ChangeAt Go.RowKit
set_option linter.unusedVariables false
set_option linter.unusedSimpArgs false
namespace Rt
open W1
/-- A router's cells: five numbers, seven lists, a number. -/
def rC (x1 x2 x3 x4 x5 : Int) (v1 v2 v3 v4 v5 v6 v7 : Value) (x6 : Int) : List Value := [.int .i64 x1, .int .i64 x2, .int .i64 x3, .int .i64 x4, .int .i64 x5, v1, v2, v3, v4, v5, v6, v7, .int .i64 x6]
def ones (cs : List Value) : Prop := cs.length = 13 ∧ ∀ v ∈ cs, v.oneCell' = true
theorem rC_ones {x1 x2 x3 x4 x5 : Int} {v1 v2 v3 v4 v5 v6 v7 : Value} {x6 : Int} (h1 : v1.oneCell' = true) (h2 : v2.oneCell' = true) (h3 : v3.oneCell' = true) (h4 : v4.oneCell' = true) (h5 : v5.oneCell' = true) (h6 : v6.oneCell' = true) (h7 : v7.oneCell' = true) : ones (rC x1 x2 x3 x4 x5 v1 v2 v3 v4 v5 v6 v7 x6) := by
  refine ⟨rfl, ?_⟩
  intro v hv
  unfold rC at hv
  simp only [List.mem_cons, List.not_mem_nil, or_false] at hv
  rcases hv with rfl | rfl | rfl | rfl | rfl | rfl | rfl | rfl | rfl | rfl | rfl | rfl | rfl <;> first | rfl | assumption
def RA (w : World) (b : Nat) (cs : List Value) : Prop := w.rangeAt b 0 cs ∧ w.there b 0 13 ∧ cs.length = 13
theorem RA.at {w : World} {b : Nat} {cs : List Value} (h : RA w b cs) {i : Nat} {v : Value} (hi : cs[i]? = some v) : w.cell? ⟨b, i, none⟩ = some v := by
  have := h.1 i v hi; rwa [Nat.zero_add] at this
theorem RA.lt {w : World} {b : Nat} {cs : List Value} (h : RA w b cs) : b < w.heap.size := by
  obtain ⟨u, hu⟩ := Option.isSome_iff_exists.1 (h.2.1 0 (by omega)).1
  exact World.block_lt_of_cell? _ _ hu
theorem RA.free {w : World} {b : Nat} {cs : List Value} (h : RA w b cs) {i : Nat} (hi : i < 13) : w.frozen? ⟨b, i, none⟩ = false := by
  have := (h.2.1 i hi).2; rwa [Nat.zero_add] at this
theorem RA.under {w w' : World} {B b : Nat} {cs : List Value} (h : RA w b cs) (hb : Below B w w') (hg : b < B) : RA w' b cs :=
  ⟨fun j v hv => (hb.cell (p := ⟨b, 0 + j, none⟩) hg).trans (h.1 j v hv), fun j hj => ⟨by rw [hb.cell (p := ⟨b, 0 + j, none⟩) hg]; exact (h.2.1 j hj).1, by rw [hb.frozen (p := ⟨b, 0 + j, none⟩) hg]; exact (h.2.1 j hj).2⟩, h.2.2⟩
theorem RA.below {w w' : World} {b : Nat} {cs : List Value} (h : RA w b cs) (hb : Below w.heap.size w w') : RA w' b cs := h.under hb h.lt
theorem RA.drew {w : World} {b : Nat} {cs : List Value} (h : RA w b cs) : RA w.drew b cs := h
theorem there_set {w : World} {b o n k : Nat} {v : Value} (h : w.there b o n) : (w.setCell ⟨b, k, none⟩ v).there b o n := fun j hj => by
  refine ⟨?_, by rw [World.frozen?_setCell]; exact (h j hj).2⟩
  obtain ⟨u, hu⟩ := Option.isSome_iff_exists.1 (h j hj).1
  obtain ⟨u', hu'⟩ := cell?_setCell_some (p := ⟨b, k, none⟩) (x := v) hu
  rw [hu']; rfl
theorem range_set {w : World} {b k : Nat} {cs : List Value} {v : Value} (h : w.rangeAt b 0 cs) (hk : k < cs.length) : (w.setCell ⟨b, k, none⟩ v).rangeAt b 0 (cs.set k v) := fun j u hu => by
  rw [Nat.zero_add]
  by_cases e : j = k
  · subst e
    rw [List.getElem?_set_self hk] at hu
    have h0 := h j _ (List.getElem?_eq_getElem hk)
    rw [Nat.zero_add] at h0
    rw [World.cell?_setCell_same _ _ _ h0]; exact hu
  · rw [List.getElem?_set_ne (fun h => e h.symm)] at hu
    have h0 := h j _ hu
    rw [Nat.zero_add] at h0
    rw [World.cell?_setCell_other _ _ _ _ (by intro e'; injection e' with _ e2 _; omega)]; exact h0
theorem RA.set {w : World} {b : Nat} {cs : List Value} (h : RA w b cs) {k : Nat} (hk : k < 13) (v : Value) : RA (w.setCell ⟨b, k, none⟩ v) b (cs.set k v) := ⟨range_set h.1 (by rw [h.2.2]; exact hk), there_set h.2.1, by rw [List.length_set]; exact h.2.2⟩
theorem below_cells {B : Nat} {w0 : World} {b : Nat} (hb : B ≤ b) : ∀ (vs : List Value) (o : Nat) (w : World), Below B w0 w → Below B w0 (w.setCells b o vs)
  | [], _, w, h => h
  | v :: r, o, w, h => below_cells hb r (o + 1) _ (h.setCell (p := ⟨b, o, none⟩) hb v)
theorem size_cells {b : Nat} : ∀ (vs : List Value) (o : Nat) (w : World), (w.setCells b o vs).heap.size = w.heap.size
  | [], _, w => rfl
  | v :: r, o, w => by show ((w.setCell ⟨b, o, none⟩ v).setCells b (o + 1) r).heap.size = _; rw [size_cells r (o + 1)]; simp [World.setCell]
theorem there_cells {b n : Nat} : ∀ (vs : List Value) (o : Nat) (w : World), w.there b 0 n → (w.setCells b o vs).there b 0 n
  | [], _, w, h => h
  | v :: r, o, w, h => there_cells r (o + 1) _ (there_set h)
theorem heap_cells {b k : Nat} (hk : k ≠ b) : ∀ (vs : List Value) (o : Nat) (w : World), (w.setCells b o vs).heap[k]? = w.heap[k]?
  | [], _, w => rfl
  | v :: r, o, w => (heap_cells hk r (o + 1) _).trans (Below.heap_setCell _ _ _ _ hk)
theorem infoR : Try.prog.underlying 46 = some (Try.prog.underlying 46).get! ∧ ((Try.prog.underlying 46).get!).isRow = true ∧ (Try.prog.info? 46).map (·.size) = some 13 := ⟨by kernel_rfl, by kernel_rfl, by kernel_rfl⟩
/-- A router is read whole. -/
theorem wpList_loadR {ops : Array Oper} {rest : List Oper} {op : Oper} {a : Act} {w : World} {Q : Exit → Act → World → Prop} (x : Operand) (hgd : op.guard = none) (ho : op.op = .load 46 x) {b : Nat} {cs : List Value} (hx : a.eval x = .pointer (some ⟨b, 0, none⟩)) (h : RA w b cs)
    (hk : wpList Try.prog ops Q rest (a.put op.dst (.agg cs.toArray)) w) : wpList Try.prog ops Q (op :: rest) a w :=
  wpList_load_mid hgd 46 x ho b 0 hx cs _ h.1 infoR.1 infoR.2.1 (h.2.2 ▸ infoR.2.2) hk
/-- The same, with all other blocks as they were. -/
theorem wpList_storeR2 {ops : Array Oper} {rest : List Oper} {op : Oper} {a : Act} {w : World} {Q : Exit → Act → World → Prop} (x y : Operand) (hgd : op.guard = none) (ho : op.op = .store 46 x y) {b : Nat} (cs : List Value) (h13 : ones cs) (hx : a.eval x = .pointer (some ⟨b, 0, none⟩)) (hy : a.eval y = .agg cs.toArray) (ht : w.there b 0 13)
    (hk : ∀ w', RA w' b cs → (∀ B w0, Below B w0 w → B ≤ b → Below B w0 w') → w'.heap.size = w.heap.size → (∀ k, k ≠ b → w'.heap[k]? = w.heap[k]?) → wpList Try.prog ops Q rest (a.put op.dst undef) w') : wpList Try.prog ops Q (op :: rest) a w := by
  have ht' : w.there b 0 cs.length := h13.1.symm ▸ ht
  exact wpList_store_mid hgd 46 x y ho b 0 cs.toArray hx hy (by simpa using ht') (by simpa [h13.1] using infoR.2.2) (all_oneCell_toArray h13.2) (hk _ ⟨World.rangeAt_setCells_same w b 0 _ ht', there_cells _ _ _ ht, h13.1⟩ (fun B w0 h hb => below_cells hb _ _ _ h) (size_cells _ _ _) (fun k hk => heap_cells hk _ _ _))
/-- A router handed back, alone or with a number. -/
theorem resultsR {fn : Func} {p : Tmp} (h : fn.results = #[.cell p 46]) (tmps : Array Value) (w : World) {b : Nat} {cs : List Value} (hp : tmps.getD p undef = .pointer (some ⟨b, 0, none⟩)) (hg : RA w b cs) : (results fn tmps).run Try.prog w = .ok (.agg cs.toArray) w := by
  have hp' : tmps[p]?.getD undef = .pointer (some ⟨b, 0, none⟩) := by simpa using hp
  simp only [results, h]
  simp [Sem.run_bind, hp', asAddr, run_loadVar_mid w b 0 46 cs _ hg.1 infoR.1 infoR.2.1 (hg.2.2 ▸ infoR.2.2), Result.andThen]
theorem resultsR2 {fn : Func} {p q : Tmp} (h : fn.results = #[.cell p 46, .tmp q]) (tmps : Array Value) (w : World) {b : Nat} {cs : List Value} (hp : tmps.getD p undef = .pointer (some ⟨b, 0, none⟩)) (hg : RA w b cs) {v : Value} (hv : tmps.getD q undef = v) : (results fn tmps).run Try.prog w = .ok (.tuple #[.agg cs.toArray, v]) w := by
  have hp' : tmps[p]?.getD undef = .pointer (some ⟨b, 0, none⟩) := by simpa using hp
  have hv' : tmps[q]?.getD undef = v := by simpa using hv
  simp only [results, h]
  simp [Sem.run_bind, hp', hv', asAddr, run_loadVar_mid w b 0 46 cs _ hg.1 infoR.1 infoR.2.1 (hg.2.2 ▸ infoR.2.2), Result.andThen]
theorem ra_new (w : World) (cs : List Value) (h13 : cs.length = 13) (t : Nat) : RA (w.alloc (.cells cs.toArray t)) w.heap.size cs := by
  have hb : (w.alloc (.cells cs.toArray t)).heap[w.heap.size]? = some (.cells cs.toArray t) := heap_alloc_last w _
  refine ⟨fun j v hv => ?_, fun j hj => ⟨?_, ?_⟩, h13⟩
  · rw [Nat.zero_add]
    unfold World.cell?
    simp only [hb]
    simpa using hv
  · rw [Nat.zero_add]
    unfold World.cell?
    simp only [hb]
    simp [h13, hj]
  · unfold World.frozen?
    simp only [hb]
    simp
end Rt
end Go.Proofs.Ytpmlpojefelbbaa
namespace Go.Proofs.Ytpmlpojefelbbaa
open Go.ChangeShapes Go.WideShapes Go.ChangeAt Go.RowKit
set_option linter.unusedVariables false
set_option maxRecDepth 100000
set_option linter.unusedSimpArgs false
attribute [local go_sem ↓] Go.wp_at_zero Go.wp_at_succ
namespace Lk
open W1
structure R where
  ad : Int
  hd : Int
  sy : Int
  ci : Int
  co : Int
  wl : Int
def R.zero : R := ⟨0, 0, 0, 0, 0, 0⟩
/-- The value of one. -/
def R.value (m : R) : Value := .agg #[.int .i64 m.ad, .int .i64 m.hd, .int .i64 m.sy, .int .i64 m.ci, .int .i64 m.co, .int .i64 m.wl]
/-- The cells of one, of a list of them. -/
def R.cells (m : R) : List Value := [.int .i64 m.ad, .int .i64 m.hd, .int .i64 m.sy, .int .i64 m.ci, .int .i64 m.co, .int .i64 m.wl]
def flat (ms : List R) : List Value := ms.flatMap R.cells
/-- The cells of one that lies at an address. -/
def At (w : World) (g o : Nat) (m : R) : Prop :=
  w.cell? ⟨g, o, none⟩ = some (.int .i64 m.ad) ∧ w.cell? ⟨g, o + 1, none⟩ = some (.int .i64 m.hd) ∧ w.cell? ⟨g, o + 2, none⟩ = some (.int .i64 m.sy) ∧ w.cell? ⟨g, o + 3, none⟩ = some (.int .i64 m.ci) ∧ w.cell? ⟨g, o + 4, none⟩ = some (.int .i64 m.co) ∧ w.cell? ⟨g, o + 5, none⟩ = some (.int .i64 m.wl)
/-- The slice at a reads as these. -/
def RM (w : World) (a : Option Addr) (ms : List R) : Prop :=
  ms = [] ∨ ∃ g off, a = some ⟨g, off, none⟩ ∧ ∀ i, i < ms.length → At w g (off + i * 6) (ms.getD i R.zero)
theorem At.below {w w' : World} {g o : Nat} {m : R} (h : At w g o m) (hb : Below w.heap.size w w') : At w' g o m := by
  have hg : g < w.heap.size := World.block_lt_of_cell? _ _ h.1
  obtain ⟨h0, h1, h2, h3, h4, h5⟩ := h
  refine ⟨?_, ?_, ?_, ?_, ?_, ?_⟩ <;> (rw [hb.cell hg]; assumption)
theorem At.drew {w : World} {g o : Nat} {m : R} (h : At w g o m) : At w.drew g o m := h
theorem RM.below {w w' : World} {a : Option Addr} {ms : List R} (h : RM w a ms) (hb : Below w.heap.size w w') : RM w' a ms := by
  rcases h with h | ⟨g, off, rfl, hc⟩
  · exact .inl h
  · exact .inr ⟨g, off, rfl, fun i hi => (hc i hi).below hb⟩
theorem RM.drew {w : World} {a : Option Addr} {ms : List R} (h : RM w a ms) : RM w.drew a ms := h
theorem RM.at {w : World} {g off : Nat} {ms : List R} {i : Nat} (h : RM w (some ⟨g, off, none⟩) ms) (hi : i < ms.length) : At w g (off + i * 6) (ms.getD i R.zero) := by
  rcases h with rfl | ⟨g', off', e, hc⟩
  · simp at hi
  · cases e; exact hc i hi
theorem RM.form {w : World} {a : Option Addr} {ms : List R} (h : RM w a ms) (h0 : 0 < ms.length) : ∃ g off, a = some ⟨g, off, none⟩ := by
  rcases h with rfl | ⟨g, off, e, _⟩
  · simp at h0
  · exact ⟨g, off, e⟩
theorem R.len (m : R) : m.cells.length = 6 := rfl
theorem flat_len (ms : List R) : (flat ms).length = ms.length * 6 := by
  unfold flat
  induction ms with
  | nil => rfl
  | cons m t ih => rw [List.flatMap_cons, List.length_append, ih, R.len, List.length_cons]; omega
theorem flat_append (xs ys : List R) : flat (xs ++ ys) = flat xs ++ flat ys := by unfold flat; rw [List.flatMap_append]
theorem flat_get : ∀ (ms : List R) (i j : Nat), j < 6 → i < ms.length → (flat ms)[i * 6 + j]? = (ms.getD i R.zero).cells[j]?
  | [], i, j, hj, hi => by simp at hi
  | m :: t, 0, j, hj, hi => by
    unfold flat
    rw [List.flatMap_cons, Nat.zero_mul, Nat.zero_add, List.getElem?_append_left (by rw [R.len]; exact hj)]; rfl
  | m :: t, i + 1, j, hj, hi => by
    have ih := flat_get t i j hj (by simpa using hi)
    unfold flat at ih ⊢
    rw [List.flatMap_cons, show (i + 1) * 6 + j = m.cells.length + (i * 6 + j) by rw [R.len]; omega, List.getElem?_append_right (by omega), Nat.add_sub_cancel_left, ih]; rfl
theorem cell_one {m : R} {u : Value} (h : u ∈ m.cells) : u.oneCell' = true := by
  unfold R.cells at h; simp only [List.mem_cons, List.not_mem_nil, or_false] at h
  rcases h with rfl | rfl | rfl | rfl | rfl | rfl <;> rfl
theorem flat_one_cell {ms : List R} {u : Value} (h : u ∈ flat ms) : u.oneCell' = true := by
  obtain ⟨m, _, hu⟩ := List.mem_flatMap.1 h; exact cell_one hu
theorem at_cells {w : World} {g o : Nat} {m : R} (h : At w g o m) : ∀ j u, m.cells[j]? = some u → w.cell? ⟨g, o + j, none⟩ = some u := by
  intro j u hj
  match j, hj with
  | 0, hj => simp [R.cells] at hj; subst hj; exact h.1
  | 1, hj => simp [R.cells] at hj; subst hj; exact h.2.1
  | 2, hj => simp [R.cells] at hj; subst hj; exact h.2.2.1
  | 3, hj => simp [R.cells] at hj; subst hj; exact h.2.2.2.1
  | 4, hj => simp [R.cells] at hj; subst hj; exact h.2.2.2.2.1
  | 5, hj => simp [R.cells] at hj; subst hj; exact h.2.2.2.2.2
  | n + 6, hj => simp [R.cells] at hj
theorem plain_add (b off k : Nat) : (⟨b, off, none⟩ : Addr).add k = ⟨b, off + k, none⟩ := by unfold Addr.add; split <;> simp_all
/-- A list that is read, cell by cell. -/
theorem RM.cells {w : World} {g off : Nat} {ms : List R} (h : RM w (some ⟨g, off, none⟩) ms) : ∀ j u, (flat ms)[j]? = some u → w.cell? ((⟨g, off, none⟩ : Addr).add j) = some u := by
  intro j u hj
  have hl : j < ms.length * 6 := by
    rw [← flat_len]; exact (List.getElem?_eq_some_iff.1 hj).1
  have hi : j / 6 < ms.length := by omega
  have e : j / 6 * 6 + j % 6 = j := by omega
  rw [← e, flat_get ms _ _ (by omega) hi] at hj
  rw [plain_add, ← e, ← Nat.add_assoc]
  exact at_cells (h.at hi) _ _ hj
/-- A row of one's own that holds a list. -/
theorem at_own {w : World} {base g n cap : Nat} {ms : List R} (hn : n = ms.length) (h : w.ownsRow base 73 6 (.slice (some ⟨g, 0, none⟩) n cap) n (flat ms)) (i : Nat) (hi : i < ms.length) : At w g (i * 6) (ms.getD i R.zero) := by
  have hc : ∀ j, j < 6 → ∀ u, (ms.getD i R.zero).cells[j]? = some u → w.cell? ⟨g, i * 6 + j, none⟩ = some u := by
    intro j hj u hu
    have := h.cells (g := g) rfl (i * 6 + j) u (by rw [flat_get ms i j hj hi]; exact hu)
    rw [plain_add, Nat.zero_add] at this
    exact this
  exact ⟨hc 0 (by omega) _ rfl, hc 1 (by omega) _ rfl, hc 2 (by omega) _ rfl, hc 3 (by omega) _ rfl, hc 4 (by omega) _ rfl, hc 5 (by omega) _ rfl⟩

/-- One laid at an address. -/
def put (w : World) (g o : Nat) (m : R) : World := (((((w.setCell ⟨g, o, none⟩ (.int .i64 m.ad)).setCell ⟨g, o + 1, none⟩ (.int .i64 m.hd)).setCell ⟨g, o + 2, none⟩ (.int .i64 m.sy)).setCell ⟨g, o + 3, none⟩ (.int .i64 m.ci)).setCell ⟨g, o + 4, none⟩ (.int .i64 m.co)).setCell ⟨g, o + 5, none⟩ (.int .i64 m.wl)
theorem put_frozen (w : World) (g o : Nat) (m : R) (a : Addr) : (put w g o m).frozen? a = w.frozen? a := by
  unfold put; rw [World.frozen?_setCell, World.frozen?_setCell, World.frozen?_setCell, World.frozen?_setCell, World.frozen?_setCell, World.frozen?_setCell]
theorem put_far (w : World) (g o : Nat) (m : R) {b q : Nat} (h : b ≠ g ∨ q < o ∨ o + 6 ≤ q) : (put w g o m).cell? ⟨b, q, none⟩ = w.cell? ⟨b, q, none⟩ := by
  unfold put
  rw [World.cell?_setCell_other _ _ _ _ (by intro e; cases e <;> omega), World.cell?_setCell_other _ _ _ _ (by intro e; cases e <;> omega), World.cell?_setCell_other _ _ _ _ (by intro e; cases e <;> omega), World.cell?_setCell_other _ _ _ _ (by intro e; cases e <;> omega), World.cell?_setCell_other _ _ _ _ (by intro e; cases e <;> omega), World.cell?_setCell_other _ _ _ _ (by intro e; cases e <;> omega)]
theorem put_at (w : World) (g o : Nat) (m : R) (h : ∀ k, k < 6 → (w.cell? ⟨g, o + k, none⟩).isSome = true) : At (put w g o m) g o m := by
  obtain ⟨v0, h0⟩ := Option.isSome_iff_exists.1 (h 0 (by omega))
  obtain ⟨v1, h1⟩ := Option.isSome_iff_exists.1 (h 1 (by omega))
  obtain ⟨v2, h2⟩ := Option.isSome_iff_exists.1 (h 2 (by omega))
  obtain ⟨v3, h3⟩ := Option.isSome_iff_exists.1 (h 3 (by omega))
  obtain ⟨v4, h4⟩ := Option.isSome_iff_exists.1 (h 4 (by omega))
  obtain ⟨v5, h5⟩ := Option.isSome_iff_exists.1 (h 5 (by omega))
  rw [Nat.add_zero] at h0
  have n : ∀ {w : World} {v : Value} {a b : Nat}, a ≠ b → (w.setCell ⟨g, a, none⟩ v).cell? ⟨g, b, none⟩ = w.cell? ⟨g, b, none⟩ := fun {w v a b} e => World.cell?_setCell_other _ _ _ _ (by intro h; cases h; exact e rfl)
  unfold put
  refine ⟨?_, ?_, ?_, ?_, ?_, ?_⟩
  · rw [n (by omega), n (by omega), n (by omega), n (by omega), n (by omega), World.cell?_setCell_same _ _ _ h0]
  · rw [n (by omega), n (by omega), n (by omega), n (by omega), World.cell?_setCell_same _ _ _ ((n (by omega)).trans h1)]
  · rw [n (by omega), n (by omega), n (by omega), World.cell?_setCell_same _ _ _ ((n (by omega)).trans ((n (by omega)).trans h2))]
  · rw [n (by omega), n (by omega), World.cell?_setCell_same _ _ _ ((n (by omega)).trans ((n (by omega)).trans ((n (by omega)).trans h3)))]
  · rw [n (by omega), World.cell?_setCell_same _ _ _ ((n (by omega)).trans ((n (by omega)).trans ((n (by omega)).trans ((n (by omega)).trans h4))))]
  · rw [World.cell?_setCell_same _ _ _ ((n (by omega)).trans ((n (by omega)).trans ((n (by omega)).trans ((n (by omega)).trans ((n (by omega)).trans h5)))))]
theorem put_some (w : World) (g o : Nat) (m : R) (b q : Nat) (h : (w.cell? ⟨b, q, none⟩).isSome = true) : ((put w g o m).cell? ⟨b, q, none⟩).isSome = true := by
  obtain ⟨v, y0⟩ := Option.isSome_iff_exists.1 h
  unfold put
  obtain ⟨v1, y1⟩ := cell?_setCell_some (p := ⟨g, o, none⟩) (x := .int .i64 m.ad) y0
  obtain ⟨v2, y2⟩ := cell?_setCell_some (p := ⟨g, o + 1, none⟩) (x := .int .i64 m.hd) y1
  obtain ⟨v3, y3⟩ := cell?_setCell_some (p := ⟨g, o + 2, none⟩) (x := .int .i64 m.sy) y2
  obtain ⟨v4, y4⟩ := cell?_setCell_some (p := ⟨g, o + 3, none⟩) (x := .int .i64 m.ci) y3
  obtain ⟨v5, y5⟩ := cell?_setCell_some (p := ⟨g, o + 4, none⟩) (x := .int .i64 m.co) y4
  obtain ⟨v6, y6⟩ := cell?_setCell_some (p := ⟨g, o + 5, none⟩) (x := .int .i64 m.wl) y5
  rw [y6]; rfl
/-- The first j stand at the head of block g, whose n times 6 cells may be written. -/
def Upto (w : World) (g n j : Nat) (ms : List R) : Prop :=
  (∀ i, i < j → At w g (i * 6) (ms.getD i R.zero)) ∧ ∀ i, i < n * 6 → (w.cell? ⟨g, i, none⟩).isSome = true ∧ w.frozen? ⟨g, i, none⟩ = false
theorem Upto.step {w : World} {g n j : Nat} {ms : List R} (h : Upto w g n j ms) (hj : j < n) : Upto (put w g (j * 6) (ms.getD j R.zero)) g n (j + 1) ms := by
  refine ⟨fun i hi => ?_, fun i hi => ⟨put_some _ _ _ _ _ _ (h.2 i hi).1, by rw [put_frozen]; exact (h.2 i hi).2⟩⟩
  by_cases e : i = j
  · subst e
    exact put_at _ _ _ _ (fun k hk => (h.2 _ (by omega)).1)
  · obtain ⟨h0, h1, h2, h3, h4, h5⟩ := h.1 i (by omega)
    exact ⟨(put_far _ _ _ _ (by omega)).trans h0, (put_far _ _ _ _ (by omega)).trans h1, (put_far _ _ _ _ (by omega)).trans h2, (put_far _ _ _ _ (by omega)).trans h3, (put_far _ _ _ _ (by omega)).trans h4, (put_far _ _ _ _ (by omega)).trans h5⟩
theorem Upto.below {w w' : World} {g n j : Nat} {ms : List R} (h : Upto w g n j ms) (hb : Below w.heap.size w w') (hg : g < w.heap.size) : Upto w' g n j ms :=
  ⟨fun i hi => (h.1 i hi).below hb, fun i hi => ⟨by rw [hb.cell (p := ⟨g, i, none⟩) hg]; exact (h.2 i hi).1, by rw [hb.frozen (p := ⟨g, i, none⟩) hg]; exact (h.2 i hi).2⟩⟩
theorem Upto.of_block {w w' : World} {g n j : Nat} {ms : List R} (h : Upto w g n j ms) (hb : w'.heap[g]? = w.heap[g]?) : Upto w' g n j ms := by
  have c : ∀ q, w'.cell? ⟨g, q, none⟩ = w.cell? ⟨g, q, none⟩ := fun q => World.cell?_of_block (a := ⟨g, q, none⟩) hb
  have f : ∀ q, w'.frozen? ⟨g, q, none⟩ = w.frozen? ⟨g, q, none⟩ := fun q => World.frozen?_of_block (a := ⟨g, q, none⟩) hb
  refine ⟨fun i hi => ?_, fun i hi => ⟨by rw [c]; exact (h.2 i hi).1, by rw [f]; exact (h.2 i hi).2⟩⟩
  obtain ⟨h0, h1, h2, h3, h4, h5⟩ := h.1 i hi
  exact ⟨(c _).trans h0, (c _).trans h1, (c _).trans h2, (c _).trans h3, (c _).trans h4, (c _).trans h5⟩
theorem rm_of {w : World} {g n : Nat} {ms : List R} (h : Upto w g n ms.length ms) : RM w (some ⟨g, 0, none⟩) ms := .inr ⟨g, 0, rfl, fun i hi => by rw [Nat.zero_add]; exact h.1 i hi⟩
theorem upto_own {w : World} {base g cap n : Nat} {ms : List R} (hn : n = ms.length) (h : w.ownsRow base 73 6 (.slice (some ⟨g, 0, none⟩) n cap) n (flat ms)) : Upto w g n n ms := by
  subst hn
  refine ⟨fun i hi => at_own rfl h i hi, fun i hi => ?_⟩
  obtain ⟨_, ⟨e, _⟩ | ⟨g', cap', cur, e, _, hg, h1, _, h3, _⟩⟩ := h
  · cases e
  · cases e
    have hlt : i < cur.size := by rw [h3]; exact Nat.lt_of_lt_of_le hi (Nat.mul_le_mul_right _ h1)
    refine ⟨?_, ?_⟩
    · simp [World.cell?, hg, hlt]
    · simp [World.frozen?, hg]
/-- A list between two bounds of the heap, in memory that may be written. -/
def Lst (W : World) (a : Option Addr) (ms : List R) (lo hi : Nat) : Prop := ms = [] ∨ ∃ g, a = some ⟨g, 0, none⟩ ∧ lo ≤ g ∧ g < hi ∧ g < W.heap.size ∧ Upto W g ms.length ms.length ms
theorem Lst.rm {W : World} {a : Option Addr} {ms : List R} {lo hi : Nat} (h : Lst W a ms lo hi) : RM W a ms := by
  rcases h with rfl | ⟨g, rfl, _, _, _, hu⟩
  · exact .inl rfl
  · exact rm_of hu
theorem Lst.below {W W' : World} {a : Option Addr} {ms : List R} {lo hi : Nat} (h : Lst W a ms lo hi) (hb : Below W.heap.size W W') : Lst W' a ms lo hi := by
  rcases h with rfl | ⟨g, rfl, h1, h2, h3, hu⟩
  · exact .inl rfl
  · exact .inr ⟨g, rfl, h1, h2, Nat.lt_of_lt_of_le h3 hb.size, hu.below hb h3⟩
theorem Lst.mono {W : World} {a : Option Addr} {ms : List R} {lo hi lo' hi' : Nat} (h : Lst W a ms lo hi) (h1 : lo' ≤ lo) (h2 : hi ≤ hi') : Lst W a ms lo' hi' := by
  rcases h with rfl | ⟨g, rfl, h3, h4, h5, hu⟩
  · exact .inl rfl
  · exact .inr ⟨g, rfl, by omega, by omega, h5, hu⟩
theorem Lst.but {W W' : World} {a : Option Addr} {ms : List R} {lo hi : Nat} {p : Nat → Prop} (h : Lst W a ms lo hi) (hs : W.heap.size ≤ W'.heap.size) (hb : ∀ k, k < W.heap.size → p k → W'.heap[k]? = W.heap[k]?) (hp : ∀ k, lo ≤ k → k < hi → p k) : Lst W' a ms lo hi := by
  rcases h with rfl | ⟨g, rfl, h1, h2, h3, hu⟩
  · exact .inl rfl
  · exact .inr ⟨g, rfl, h1, h2, Nat.lt_of_lt_of_le h3 hs, hu.of_block (hb g h3 (hp g h1 h2))⟩
/-- The same of a value. -/
def LstV (W : World) (v : Value) (ms : List R) (lo hi : Nat) : Prop := ∃ a c, v = .slice a ms.length c ∧ Lst W a ms lo hi
theorem LstV.below {W W' : World} {v : Value} {ms : List R} {lo hi : Nat} (h : LstV W v ms lo hi) (hb : Below W.heap.size W W') : LstV W' v ms lo hi := by
  obtain ⟨a, c, e, hl⟩ := h; exact ⟨a, c, e, hl.below hb⟩
theorem LstV.mono {W : World} {v : Value} {ms : List R} {lo hi lo' hi' : Nat} (h : LstV W v ms lo hi) (h1 : lo' ≤ lo) (h2 : hi ≤ hi') : LstV W v ms lo' hi' := by
  obtain ⟨a, c, e, hl⟩ := h; exact ⟨a, c, e, hl.mono h1 h2⟩
theorem lstV_nil (W : World) (a : Option Addr) (c lo hi : Nat) : LstV W (.slice a 0 c) [] lo hi := ⟨a, c, rfl, .inl rfl⟩
/-- A row of one's own as such a list. -/
theorem lst_own {w : World} {base n : Nat} {v : Value} {ms : List R} (hn : n = ms.length) (h : w.ownsRow base 73 6 v n (flat ms)) : LstV w v ms base w.heap.size := by
  unfold LstV
  have h' := h
  obtain ⟨hl, ⟨rfl, h0⟩ | ⟨g, cap, cur, rfl, hb, hg, _, _, _, _⟩⟩ := h
  · exact ⟨none, 0, by rw [← hn, h0], .inl (List.eq_nil_of_length_eq_zero (by omega))⟩
  · have hlt : g < w.heap.size := by
      rcases Nat.lt_or_ge g w.heap.size with h | h
      · exact h
      · rw [Array.getElem?_eq_none h] at hg; cases hg
    refine ⟨_, cap, by rw [hn], .inr ⟨g, rfl, hb, hlt, hlt, ?_⟩⟩
    have := upto_own hn h'
    rw [hn] at this; exact this


theorem infoR : ∃ i, Try.prog.info? 73 = some i ∧ i.zero = some (Value.agg #[.int .i64 0, .int .i64 0, .int .i64 0, .int .i64 0, .int .i64 0, .int .i64 0]) ∧ i.size = 6 ∧ i.bytes = 48 := by
  have h : (Try.prog.info? 73).map (fun i => (i.zero, i.size, i.bytes)) = some (some (Value.agg #[.int .i64 0, .int .i64 0, .int .i64 0, .int .i64 0, .int .i64 0, .int .i64 0]), 6, 48) := by kernel_rfl
  obtain ⟨i, hi, he⟩ := Option.map_eq_some_iff.1 h
  simp only [Prod.mk.injEq] at he
  exact ⟨i, hi, he.1, he.2.1, he.2.2⟩

/-- append of a list to a row of one's own, as a walk meets it. -/
theorem wpList_apS {ops : Array Oper} {rest : List Oper} {o : Oper} {a : Act} {Q : Exit → Act → World → Prop} {w : World} {base : Nat} {v : Value} {xs : List R} (hown : w.ownsRow base 73 6 v xs.length (flat xs)) (g off m c : Nat) (ms : List R) (hm : ms.length = m) (hr : RM w (some ⟨g, off, none⟩) ms) (hlen : xs.length + ms.length ≤ 4194304) (hbase : base ≤ w.heap.size)
    (hgd : o.guard = none) (s x : Operand) (ho : o.op = .call { callee := .builtin .append, args := #[s, x], argTypes := #[39, 39] }) (hs : a.eval s = v) (hx : a.eval x = .slice (some ⟨g, off, none⟩) m c)
    (h : ∀ v' w', w'.ownsRow base 73 6 v' (xs ++ ms).length (flat (xs ++ ms)) → w.grownBy w' v.ownBlock → wpList Try.prog ops Q rest (a.put o.dst v') w') : wpList Try.prog ops Q (o :: rest) a w := by
  subst hm
  obtain ⟨i0, hi, hz0, hz1, hz2⟩ := infoR
  refine wpList_append_own w hgd s x _ ho base 73 i0 _ 6 48 Try.underlying39 hi hz0 hz1 hz2 rfl (by decide) v xs.length (flat xs) hs hown ⟨g, off, none⟩ ms.length c (flat ms) hx (flat_len ms) hr.cells (fun u hu => flat_one_cell hu) (by unfold maxLen; omega) (by omega) hbase (fun v' w' h1 h2 _ => ?_)
  refine h v' w' ?_ h2
  rw [List.length_append, flat_append]; exact h1
theorem own_empty (w : World) (base : Nat) (hb : base ≤ w.heap.size) : (w.alloc (.cells #[] 73)).ownsRow base 73 6 (.slice (some ⟨w.heap.size, 0, none⟩) 0 0) ([] : List R).length (flat []) := World.ownsRow_made w #[] 0 hb (Nat.zero_le _) (by simp)
theorem own_nil (w : World) (base : Nat) : w.ownsRow base 73 6 (.slice none 0 0) ([] : List R).length (flat []) := World.ownsRow_nil w base _ _
theorem below_own {B : Nat} {w0 w w' : World} {base : Nat} {v : Value} {n : Nat} {xs : List Value} (h : Below B w0 w) (ho : w.ownsRow base 73 6 v n xs) (hg : w.grownBy w' v.ownBlock) (hb : B ≤ base) (hB : B ≤ w.heap.size) : Below B w0 w' :=
  h.grown hg hB (fun k hk => Nat.le_trans hb (ho.lt k hk).1)


set_option maxHeartbeats 1000000 in
theorem eqR (ad : Int) (hd : Int) (sy : Int) (ci : Int) (co : Int) (wl : Int) (w : World) :
    Calls Try.prog 55 #[.agg #[.int .i64 ad, .int .i64 hd, .int .i64 sy, .int .i64 ci, .int .i64 co, .int .i64 wl], .agg #[.int .i64 ad, .int .i64 hd, .int .i64 sy, .int .i64 ci, .int .i64 co, .int .i64 wl]] w
      fun e w' => e = .returned (.bool true) ∧ Below w.heap.size w w' := by
  go_enter Try.func55, Try.ntmps55
  go_wp2
  go_ret
  repeat (first | exact ⟨rfl, Below.refl _ _⟩ | refine ⟨rfl, ?_⟩ | exact Below.refl _ _ | refine Below.alloc ?_ (by simp <;> omega) _)

theorem sAt {w : World} {g g' o o' : Nat} {ad hd sy ci co wl : Int}  (h : At w g o ⟨ad, hd, sy, ci, co, wl⟩) (h' : At w g' o' ⟨ad, hd, sy, ci, co, wl⟩) :
    (At w g o ⟨ad, hd, sy, ci, co, wl⟩ ∧ At w g' o' ⟨ad, hd, sy, ci, co, wl⟩) ∧ w.cell? ⟨g, o, none⟩ = some (.int .i64 ad) ∧ w.cell? ⟨g, o + 1, none⟩ = some (.int .i64 hd) ∧ w.cell? ⟨g, o + 2, none⟩ = some (.int .i64 sy) ∧ w.cell? ⟨g, o + 3, none⟩ = some (.int .i64 ci) ∧ w.cell? ⟨g, o + 4, none⟩ = some (.int .i64 co) ∧ w.cell? ⟨g, o + 5, none⟩ = some (.int .i64 wl) ∧ w.cell? ⟨g', o', none⟩ = some (.int .i64 ad) ∧ w.cell? ⟨g', o' + 1, none⟩ = some (.int .i64 hd) ∧ w.cell? ⟨g', o' + 2, none⟩ = some (.int .i64 sy) ∧ w.cell? ⟨g', o' + 3, none⟩ = some (.int .i64 ci) ∧ w.cell? ⟨g', o' + 4, none⟩ = some (.int .i64 co) ∧ w.cell? ⟨g', o' + 5, none⟩ = some (.int .i64 wl) := ⟨⟨h, h'⟩, h.1, h.2.1, h.2.2.1, h.2.2.2.1, h.2.2.2.2.1, h.2.2.2.2.2, h'⟩

set_option maxRecDepth 100000 in
set_option maxHeartbeats 4000000 in
theorem eqS (a b : Option Addr) (ms : List R) (ca cb : Nat) (w : World) (hm : ms.length ≤ 1048576) (hr : RM w a ms) (hr' : RM w b ms) :
    Calls Try.prog 48 #[.slice a ms.length ca, .slice b ms.length cb] w fun e w' => e = .returned (.bool true) ∧ Below w.heap.size w w' := by
  have HR := hide hr
  have HR' := hide hr'
  clear hr hr'
  generalize hN : ms.length = n at *
  have HN := hide hN
  clear hN
  go_enter Try.func48, Try.ntmps48
  go_wp2
  go_loopw [5] (fun i wr => ∃ j : Nat, j ≤ n ∧ i = .int .i64 j ∧ Hid (Below w.heap.size w wr)) (fun i _ => n - (intOf i).toNat)
  case atStart => exact ⟨0, by omega, rfl, hide (Below.refl _ _)⟩
  case round =>
    obtain ⟨j, hj, rfl, hbl⟩ := hrel
    by_cases hlt : (j : Int) < (n : Int)
    · have k0 : (0 : Int) ≤ (j : Int) := by omega
      have hlen : j < ms.length := by rw [unhide HN]; omega
      rcases (unhide HR).below (by exact (unhide hbl)) with e0 | ⟨g, off, rfl, hc⟩
      · exfalso; rw [e0] at hlen; simp at hlen
      rcases (unhide HR').below (by exact (unhide hbl)) with e0 | ⟨g', off', rfl, hc'⟩
      · exfalso; rw [e0] at hlen; simp at hlen
      have hA := hc j hlen
      have hA' := hc' j hlen
      clear hc hc'
      generalize ms.getD j R.zero = m at *
      obtain ⟨ad, hd, sy, ci, co, wl⟩ := m
      go_wp2_with fail
      go_region_held3 (fun w' => (At w' g (off + j * 6) ⟨ad, hd, sy, ci, co, wl⟩ ∧ At w' g' (off' + j * 6) ⟨ad, hd, sy, ci, co, wl⟩) ∧ w'.cell? ⟨g, off + j * 6, none⟩ = some (.int .i64 ad) ∧ w'.cell? ⟨g, off + j * 6 + 1, none⟩ = some (.int .i64 hd) ∧ w'.cell? ⟨g, off + j * 6 + 2, none⟩ = some (.int .i64 sy) ∧ w'.cell? ⟨g, off + j * 6 + 3, none⟩ = some (.int .i64 ci) ∧ w'.cell? ⟨g, off + j * 6 + 4, none⟩ = some (.int .i64 co) ∧ w'.cell? ⟨g, off + j * 6 + 5, none⟩ = some (.int .i64 wl) ∧ w'.cell? ⟨g', off' + j * 6, none⟩ = some (.int .i64 ad) ∧ w'.cell? ⟨g', off' + j * 6 + 1, none⟩ = some (.int .i64 hd) ∧ w'.cell? ⟨g', off' + j * 6 + 2, none⟩ = some (.int .i64 sy) ∧ w'.cell? ⟨g', off' + j * 6 + 3, none⟩ = some (.int .i64 ci) ∧ w'.cell? ⟨g', off' + j * 6 + 4, none⟩ = some (.int .i64 co) ∧ w'.cell? ⟨g', off' + j * 6 + 5, none⟩ = some (.int .i64 wl))
        ((go_split_ands; exact sAt (by first | with_reducible assumption | (with_reducible refine At.drew ?_; with_reducible assumption) | (exact At.below (by with_reducible assumption) b1)) (by first | with_reducible assumption | (with_reducible refine At.drew ?_; with_reducible assumption) | (exact At.below (by with_reducible assumption) b1))))
        (first | (go_at_call 55; refine (eqR ad hd sy ci co wl _).mono ?_; rintro e w1 ⟨rfl, b1⟩))
      have hb1 := hide ((unhide hbl).drew.trans (b1.mono (by show w.heap.size ≤ wr.heap.size; exact (unhide hbl).size)))
      go_wp2_with fail
      go_roundw
      case rel => exact ⟨j + 1, by omega, by go_num, hb1⟩
      case measure => simp [intOf]; omega
    · go_wp2
      go_ret
      exact ⟨rfl, unhide hbl⟩

/-- The marks from K on. -/
def markR (K : Int) : R := ⟨K, K + 1, K + 1 + 1, K + 1 + 1 + 1, K + 1 + 1 + 1 + 1, K + 1 + 1 + 1 + 1 + 1⟩
def marks (K : Int) (n : Nat) : List R := (List.range n).map fun t : Nat => markR (K + 6 * (t : Int))
theorem marks_len (K : Int) (n : Nat) : (marks K n).length = n := by simp [marks]
theorem marks_at (K : Int) (n t : Nat) (h : t < n) : (marks K n).getD t R.zero = markR (K + 6 * (t : Int)) := by
  unfold marks
  rw [List.getD_eq_getElem?_getD, List.getElem?_map, List.getElem?_range h]; rfl
theorem grown_set {w w1 : World} {g o : Nat} {v : Value} (h : w.grownBy w1 (some g)) : w.grownBy (w1.setCell ⟨g, o, none⟩ v) (some g) :=
  ⟨h.os, h.tape, h.output, by have := h.size; simp [World.setCell]; exact this, fun k hk hne => (Below.heap_setCell _ _ _ _ (fun e => hne (by rw [e]))).trans (h.block k hk hne)⟩
theorem grown_put {w w1 : World} {g o : Nat} {m : R} (h : w.grownBy w1 (some g)) : w.grownBy (put w1 g o m) (some g) := grown_set (grown_set (grown_set (grown_set (grown_set (grown_set (h))))))

set_option maxHeartbeats 4000000 in
theorem markS (g n c : Nat) (K : Int) (ms : List R) (w : World) (hK : 0 ≤ K) (hK1 : K ≤ 1073741824) (hn : n ≤ 1048576) (hg : g < w.heap.size) (hU : Upto w g n n ms) :
    Calls Try.prog 38 #[.slice (some ⟨g, 0, none⟩) n c, .int .i64 K] w fun e w' => e = .returned (.int .i64 (K + 6 * (n : Int))) ∧ w.grownBy w' (some g) ∧ Upto w' g n n (marks K n) := by
  have hU0 : Hid (Upto w g n 0 (marks K n)) := hide ⟨fun i hi => by omega, hU.2⟩
  clear hU
  go_enter Try.func38, Try.ntmps38
  go_wp2
  go_loopw [1, 5] (fun q i wr => ∃ j : Nat, j ≤ n ∧ i = .int .i64 j ∧ q = .int .i64 (K + 6 * (j : Int)) ∧ Hid (w.grownBy wr (some g)) ∧ Hid (Upto wr g n j (marks K n))) (fun _ i _ => n - (intOf i).toNat)
  case atStart => exact ⟨0, by omega, rfl, by simp, hide ⟨rfl, rfl, rfl, Nat.le_refl _, fun _ _ _ => rfl⟩, hU0⟩
  case round =>
    obtain ⟨j, hj, rfl, rfl, hgr, hu⟩ := hrel
    by_cases hlt : (j : Int) < (n : Int)
    · have k0 : (0 : Int) ≤ (j : Int) := by omega
      obtain ⟨v0, x0⟩ := Option.isSome_iff_exists.1 ((unhide hu).2 (j * 6) (by omega)).1
      obtain ⟨v1, x1⟩ := Option.isSome_iff_exists.1 ((unhide hu).2 (j * 6 + 1) (by omega)).1
      obtain ⟨v2, x2⟩ := Option.isSome_iff_exists.1 ((unhide hu).2 (j * 6 + 2) (by omega)).1
      obtain ⟨v3, x3⟩ := Option.isSome_iff_exists.1 ((unhide hu).2 (j * 6 + 3) (by omega)).1
      obtain ⟨v4, x4⟩ := Option.isSome_iff_exists.1 ((unhide hu).2 (j * 6 + 4) (by omega)).1
      obtain ⟨v5, x5⟩ := Option.isSome_iff_exists.1 ((unhide hu).2 (j * 6 + 5) (by omega)).1
      have y0 := ((unhide hu).2 (j * 6) (by omega)).2
      have y1 := ((unhide hu).2 (j * 6 + 1) (by omega)).2
      have y2 := ((unhide hu).2 (j * 6 + 2) (by omega)).2
      have y3 := ((unhide hu).2 (j * 6 + 3) (by omega)).2
      have y4 := ((unhide hu).2 (j * 6 + 4) (by omega)).2
      have y5 := ((unhide hu).2 (j * 6 + 5) (by omega)).2
      have hst := (unhide hu).step (by omega)
      rw [marks_at K n j (by omega)] at hst
      have HST := hide hst
      have HGN := hide (grown_put (o := j * 6) (m := markR (K + 6 * (j : Int))) (unhide hgr))
      clear hst
      generalize hq : K + 6 * (j : Int) = q at *
      have hq0 : 0 ≤ q := by omega
      have hq1 : q ≤ 1109393408 := by omega
      go_wp2_with fail
      exact ⟨⟨j + 1, by omega, by go_num, by go_num, HGN, HST⟩, by simp [intOf]; omega⟩
    · obtain rfl : j = n := by omega
      go_wp2
      go_ret
      exact ⟨rfl, unhide hgr, unhide hu⟩
theorem markS0 (a : Option Addr) (c : Nat) (K : Int) (w : World) :
    Calls Try.prog 38 #[.slice a 0 c, .int .i64 K] w fun e w' => e = .returned (.int .i64 K) ∧ w' = w := by
  go_enter Try.func38, Try.ntmps38
  go_wp2
  go_loop [1, 5] (fun q i => q = .int .i64 K ∧ i = .int .i64 0) (fun _ i => 0)
  case atStart => exact ⟨rfl, rfl⟩
  case round =>
    obtain ⟨rfl, rfl⟩ := hrel
    go_wp2
    go_ret
    exact ⟨rfl, rfl⟩
theorem heldS0 (a : Option Addr) (c : Nat) (K : Int) (w : World) :
    Calls Try.prog 43 #[.slice a 0 c, .int .i64 K] w fun e w' => e = .returned (.int .i64 K) ∧ w' = w := by
  go_enter Try.func43, Try.ntmps43
  go_wp2
  go_loop [1, 5] (fun q i => q = .int .i64 K ∧ i = .int .i64 0) (fun _ i => 0)
  case atStart => exact ⟨rfl, rfl⟩
  case round =>
    obtain ⟨rfl, rfl⟩ := hrel
    go_wp2
    go_ret
    exact ⟨rfl, rfl⟩

set_option maxHeartbeats 4000000 in
theorem heldS (g n c : Nat) (K : Int) (w : World) (hK : 0 ≤ K) (hK1 : K ≤ 1073741824) (hn : n ≤ 1048576) (hU : Upto w g n n (marks K n)) :
    Calls Try.prog 43 #[.slice (some ⟨g, 0, none⟩) n c, .int .i64 K] w fun e w' => e = .returned (.int .i64 (K + 6 * (n : Int))) ∧ w' = w := by
  have HU := hide hU
  clear hU
  go_enter Try.func43, Try.ntmps43
  go_wp2
  go_loopw [1, 5] (fun q i wr => wr = w ∧ ∃ j : Nat, j ≤ n ∧ i = .int .i64 j ∧ q = .int .i64 (K + 6 * (j : Int))) (fun _ i _ => n - (intOf i).toNat)
  case atStart => exact ⟨rfl, 0, by omega, rfl, by simp⟩
  case round =>
    obtain ⟨rfl, j, hj, rfl, rfl⟩ := hrel
    by_cases hlt : (j : Int) < (n : Int)
    · have k0 : (0 : Int) ≤ (j : Int) := by omega
      have hA := (unhide HU).1 j (by omega)
      rw [marks_at K n j (by omega)] at hA
      obtain ⟨c0, c1, c2, c3, c4, c5⟩ := hA
      unfold markR at c0 c1 c2 c3 c4 c5
      dsimp only at c0 c1 c2 c3 c4 c5
      generalize hq : K + 6 * (j : Int) = q at *
      have hq0 : 0 ≤ q := by omega
      have hq1 : q ≤ 1109393408 := by omega
      go_wp2_with fail
      go_roundw
      case rel => exact ⟨by first | trivial | rfl, j + 1, by omega, by go_num, by go_num⟩
      case measure => simp [intOf]; omega
    · obtain rfl : j = n := by omega
      go_wp2
      go_ret
      exact ⟨by first | trivial | rfl, rfl⟩
/-- Marks on a list that may be written, whether it has any or not. -/
theorem markF (a : Option Addr) (c lo hi : Nat) (K : Int) (ms : List R) (w : World) (hK : 0 ≤ K) (hK1 : K ≤ 1073741824) (hn : ms.length ≤ 1048576) (h : Lst w a ms lo hi) :
    Calls Try.prog 38 #[.slice a ms.length c, .int .i64 K] w fun e w' => e = .returned (.int .i64 (K + 6 * (ms.length : Int))) ∧ w.heap.size ≤ w'.heap.size ∧ Below (min lo w.heap.size) w w' ∧ Lst w' a (marks K ms.length) lo hi ∧ ∀ k, k < w.heap.size → (k < lo ∨ hi ≤ k) → w'.heap[k]? = w.heap[k]? := by
  have hnil : ∀ w', w' = w → w.heap.size ≤ w'.heap.size ∧ Below (min lo w.heap.size) w w' ∧ ∀ k, k < w.heap.size → (k < lo ∨ hi ≤ k) → w'.heap[k]? = w.heap[k]? := by
    rintro w' rfl
    exact ⟨Nat.le_refl _, Below.refl _ _, fun _ _ _ => rfl⟩
  by_cases h0 : ms.length = 0
  · obtain rfl : ms = [] := List.eq_nil_of_length_eq_zero h0
    refine (markS0 a c K w).mono ?_
    rintro e w' ⟨rfl, hw⟩
    obtain ⟨q1, q2, q3⟩ := hnil w' hw
    exact ⟨by simp, q1, q2, .inl rfl, q3⟩
  rcases h with rfl | ⟨g, rfl, h1, h2, h3, hu⟩
  · simp at h0
  refine (markS g ms.length c K ms w hK hK1 hn h3 hu).mono ?_
  rintro e w' ⟨rfl, gr, hu'⟩
  exact ⟨rfl, gr.size, ⟨gr.os, gr.tape, gr.output, gr.size, fun k hk => gr.block k (by omega) (fun e => by cases e; omega)⟩, .inr ⟨g, rfl, h1, h2, Nat.lt_of_lt_of_le h3 gr.size, by rw [marks_len]; exact hu'⟩, fun k hk hne => gr.block k hk (fun e => by cases e; omega)⟩
theorem heldF (a : Option Addr) (c n lo hi : Nat) (K : Int) (w : World) (hK : 0 ≤ K) (hK1 : K ≤ 1073741824) (hn : n ≤ 1048576) (h : Lst w a (marks K n) lo hi) :
    Calls Try.prog 43 #[.slice a n c, .int .i64 K] w fun e w' => e = .returned (.int .i64 (K + 6 * (n : Int))) ∧ w' = w := by
  by_cases h0 : n = 0
  · subst h0
    refine (heldS0 a c K w).mono ?_
    rintro e w' ⟨rfl, rfl⟩
    exact ⟨by simp, rfl⟩
  rcases h with h | ⟨g, rfl, _, _, _, hu⟩
  · have := marks_len K n; rw [h] at this; simp at this; omega
  · rw [marks_len] at hu
    exact heldS g n c K w hK hK1 hn hu
end Lk
end Go.Proofs.Ytpmlpojefelbbaa
namespace Go.Proofs.Ytpmlpojefelbbaa
open Go.ChangeShapes Go.WideShapes Go.ChangeAt Go.RowKit
set_option linter.unusedVariables false
set_option maxRecDepth 100000
set_option linter.unusedSimpArgs false
attribute [local go_sem ↓] Go.wp_at_zero Go.wp_at_succ
namespace Tu
open W1
structure R where
  key : Int
  til : Int
  val : Int
def R.zero : R := ⟨0, 0, 0⟩
/-- The value of one. -/
def R.value (m : R) : Value := .agg #[.int .i64 m.key, .int .i64 m.til, .int .i64 m.val]
/-- The cells of one, of a list of them. -/
def R.cells (m : R) : List Value := [.int .i64 m.key, .int .i64 m.til, .int .i64 m.val]
def flat (ms : List R) : List Value := ms.flatMap R.cells
/-- The cells of one that lies at an address. -/
def At (w : World) (g o : Nat) (m : R) : Prop :=
  w.cell? ⟨g, o, none⟩ = some (.int .i64 m.key) ∧ w.cell? ⟨g, o + 1, none⟩ = some (.int .i64 m.til) ∧ w.cell? ⟨g, o + 2, none⟩ = some (.int .i64 m.val)
/-- The slice at a reads as these. -/
def RM (w : World) (a : Option Addr) (ms : List R) : Prop :=
  ms = [] ∨ ∃ g off, a = some ⟨g, off, none⟩ ∧ ∀ i, i < ms.length → At w g (off + i * 3) (ms.getD i R.zero)
theorem At.below {w w' : World} {g o : Nat} {m : R} (h : At w g o m) (hb : Below w.heap.size w w') : At w' g o m := by
  have hg : g < w.heap.size := World.block_lt_of_cell? _ _ h.1
  obtain ⟨h0, h1, h2⟩ := h
  refine ⟨?_, ?_, ?_⟩ <;> (rw [hb.cell hg]; assumption)
theorem At.drew {w : World} {g o : Nat} {m : R} (h : At w g o m) : At w.drew g o m := h
theorem RM.below {w w' : World} {a : Option Addr} {ms : List R} (h : RM w a ms) (hb : Below w.heap.size w w') : RM w' a ms := by
  rcases h with h | ⟨g, off, rfl, hc⟩
  · exact .inl h
  · exact .inr ⟨g, off, rfl, fun i hi => (hc i hi).below hb⟩
theorem RM.drew {w : World} {a : Option Addr} {ms : List R} (h : RM w a ms) : RM w.drew a ms := h
theorem RM.at {w : World} {g off : Nat} {ms : List R} {i : Nat} (h : RM w (some ⟨g, off, none⟩) ms) (hi : i < ms.length) : At w g (off + i * 3) (ms.getD i R.zero) := by
  rcases h with rfl | ⟨g', off', e, hc⟩
  · simp at hi
  · cases e; exact hc i hi
theorem RM.form {w : World} {a : Option Addr} {ms : List R} (h : RM w a ms) (h0 : 0 < ms.length) : ∃ g off, a = some ⟨g, off, none⟩ := by
  rcases h with rfl | ⟨g, off, e, _⟩
  · simp at h0
  · exact ⟨g, off, e⟩
theorem R.len (m : R) : m.cells.length = 3 := rfl
theorem flat_len (ms : List R) : (flat ms).length = ms.length * 3 := by
  unfold flat
  induction ms with
  | nil => rfl
  | cons m t ih => rw [List.flatMap_cons, List.length_append, ih, R.len, List.length_cons]; omega
theorem flat_append (xs ys : List R) : flat (xs ++ ys) = flat xs ++ flat ys := by unfold flat; rw [List.flatMap_append]
theorem flat_get : ∀ (ms : List R) (i j : Nat), j < 3 → i < ms.length → (flat ms)[i * 3 + j]? = (ms.getD i R.zero).cells[j]?
  | [], i, j, hj, hi => by simp at hi
  | m :: t, 0, j, hj, hi => by
    unfold flat
    rw [List.flatMap_cons, Nat.zero_mul, Nat.zero_add, List.getElem?_append_left (by rw [R.len]; exact hj)]; rfl
  | m :: t, i + 1, j, hj, hi => by
    have ih := flat_get t i j hj (by simpa using hi)
    unfold flat at ih ⊢
    rw [List.flatMap_cons, show (i + 1) * 3 + j = m.cells.length + (i * 3 + j) by rw [R.len]; omega, List.getElem?_append_right (by omega), Nat.add_sub_cancel_left, ih]; rfl
theorem cell_one {m : R} {u : Value} (h : u ∈ m.cells) : u.oneCell' = true := by
  unfold R.cells at h; simp only [List.mem_cons, List.not_mem_nil, or_false] at h
  rcases h with rfl | rfl | rfl <;> rfl
theorem flat_one_cell {ms : List R} {u : Value} (h : u ∈ flat ms) : u.oneCell' = true := by
  obtain ⟨m, _, hu⟩ := List.mem_flatMap.1 h; exact cell_one hu
theorem at_cells {w : World} {g o : Nat} {m : R} (h : At w g o m) : ∀ j u, m.cells[j]? = some u → w.cell? ⟨g, o + j, none⟩ = some u := by
  intro j u hj
  match j, hj with
  | 0, hj => simp [R.cells] at hj; subst hj; exact h.1
  | 1, hj => simp [R.cells] at hj; subst hj; exact h.2.1
  | 2, hj => simp [R.cells] at hj; subst hj; exact h.2.2
  | n + 3, hj => simp [R.cells] at hj
theorem plain_add (b off k : Nat) : (⟨b, off, none⟩ : Addr).add k = ⟨b, off + k, none⟩ := by unfold Addr.add; split <;> simp_all
/-- A list that is read, cell by cell. -/
theorem RM.cells {w : World} {g off : Nat} {ms : List R} (h : RM w (some ⟨g, off, none⟩) ms) : ∀ j u, (flat ms)[j]? = some u → w.cell? ((⟨g, off, none⟩ : Addr).add j) = some u := by
  intro j u hj
  have hl : j < ms.length * 3 := by
    rw [← flat_len]; exact (List.getElem?_eq_some_iff.1 hj).1
  have hi : j / 3 < ms.length := by omega
  have e : j / 3 * 3 + j % 3 = j := by omega
  rw [← e, flat_get ms _ _ (by omega) hi] at hj
  rw [plain_add, ← e, ← Nat.add_assoc]
  exact at_cells (h.at hi) _ _ hj
/-- A row of one's own that holds a list. -/
theorem at_own {w : World} {base g n cap : Nat} {ms : List R} (hn : n = ms.length) (h : w.ownsRow base 75 3 (.slice (some ⟨g, 0, none⟩) n cap) n (flat ms)) (i : Nat) (hi : i < ms.length) : At w g (i * 3) (ms.getD i R.zero) := by
  have hc : ∀ j, j < 3 → ∀ u, (ms.getD i R.zero).cells[j]? = some u → w.cell? ⟨g, i * 3 + j, none⟩ = some u := by
    intro j hj u hu
    have := h.cells (g := g) rfl (i * 3 + j) u (by rw [flat_get ms i j hj hi]; exact hu)
    rw [plain_add, Nat.zero_add] at this
    exact this
  exact ⟨hc 0 (by omega) _ rfl, hc 1 (by omega) _ rfl, hc 2 (by omega) _ rfl⟩

/-- One laid at an address. -/
def put (w : World) (g o : Nat) (m : R) : World := ((w.setCell ⟨g, o, none⟩ (.int .i64 m.key)).setCell ⟨g, o + 1, none⟩ (.int .i64 m.til)).setCell ⟨g, o + 2, none⟩ (.int .i64 m.val)
theorem put_frozen (w : World) (g o : Nat) (m : R) (a : Addr) : (put w g o m).frozen? a = w.frozen? a := by
  unfold put; rw [World.frozen?_setCell, World.frozen?_setCell, World.frozen?_setCell]
theorem put_far (w : World) (g o : Nat) (m : R) {b q : Nat} (h : b ≠ g ∨ q < o ∨ o + 3 ≤ q) : (put w g o m).cell? ⟨b, q, none⟩ = w.cell? ⟨b, q, none⟩ := by
  unfold put
  rw [World.cell?_setCell_other _ _ _ _ (by intro e; cases e <;> omega), World.cell?_setCell_other _ _ _ _ (by intro e; cases e <;> omega), World.cell?_setCell_other _ _ _ _ (by intro e; cases e <;> omega)]
theorem put_at (w : World) (g o : Nat) (m : R) (h : ∀ k, k < 3 → (w.cell? ⟨g, o + k, none⟩).isSome = true) : At (put w g o m) g o m := by
  obtain ⟨v0, h0⟩ := Option.isSome_iff_exists.1 (h 0 (by omega))
  obtain ⟨v1, h1⟩ := Option.isSome_iff_exists.1 (h 1 (by omega))
  obtain ⟨v2, h2⟩ := Option.isSome_iff_exists.1 (h 2 (by omega))
  rw [Nat.add_zero] at h0
  have n : ∀ {w : World} {v : Value} {a b : Nat}, a ≠ b → (w.setCell ⟨g, a, none⟩ v).cell? ⟨g, b, none⟩ = w.cell? ⟨g, b, none⟩ := fun {w v a b} e => World.cell?_setCell_other _ _ _ _ (by intro h; cases h; exact e rfl)
  unfold put
  refine ⟨?_, ?_, ?_⟩
  · rw [n (by omega), n (by omega), World.cell?_setCell_same _ _ _ h0]
  · rw [n (by omega), World.cell?_setCell_same _ _ _ ((n (by omega)).trans h1)]
  · rw [World.cell?_setCell_same _ _ _ ((n (by omega)).trans ((n (by omega)).trans h2))]
theorem put_some (w : World) (g o : Nat) (m : R) (b q : Nat) (h : (w.cell? ⟨b, q, none⟩).isSome = true) : ((put w g o m).cell? ⟨b, q, none⟩).isSome = true := by
  obtain ⟨v, y0⟩ := Option.isSome_iff_exists.1 h
  unfold put
  obtain ⟨v1, y1⟩ := cell?_setCell_some (p := ⟨g, o, none⟩) (x := .int .i64 m.key) y0
  obtain ⟨v2, y2⟩ := cell?_setCell_some (p := ⟨g, o + 1, none⟩) (x := .int .i64 m.til) y1
  obtain ⟨v3, y3⟩ := cell?_setCell_some (p := ⟨g, o + 2, none⟩) (x := .int .i64 m.val) y2
  rw [y3]; rfl
/-- The first j stand at the head of block g, whose n times 3 cells may be written. -/
def Upto (w : World) (g n j : Nat) (ms : List R) : Prop :=
  (∀ i, i < j → At w g (i * 3) (ms.getD i R.zero)) ∧ ∀ i, i < n * 3 → (w.cell? ⟨g, i, none⟩).isSome = true ∧ w.frozen? ⟨g, i, none⟩ = false
theorem Upto.step {w : World} {g n j : Nat} {ms : List R} (h : Upto w g n j ms) (hj : j < n) : Upto (put w g (j * 3) (ms.getD j R.zero)) g n (j + 1) ms := by
  refine ⟨fun i hi => ?_, fun i hi => ⟨put_some _ _ _ _ _ _ (h.2 i hi).1, by rw [put_frozen]; exact (h.2 i hi).2⟩⟩
  by_cases e : i = j
  · subst e
    exact put_at _ _ _ _ (fun k hk => (h.2 _ (by omega)).1)
  · obtain ⟨h0, h1, h2⟩ := h.1 i (by omega)
    exact ⟨(put_far _ _ _ _ (by omega)).trans h0, (put_far _ _ _ _ (by omega)).trans h1, (put_far _ _ _ _ (by omega)).trans h2⟩
theorem Upto.below {w w' : World} {g n j : Nat} {ms : List R} (h : Upto w g n j ms) (hb : Below w.heap.size w w') (hg : g < w.heap.size) : Upto w' g n j ms :=
  ⟨fun i hi => (h.1 i hi).below hb, fun i hi => ⟨by rw [hb.cell (p := ⟨g, i, none⟩) hg]; exact (h.2 i hi).1, by rw [hb.frozen (p := ⟨g, i, none⟩) hg]; exact (h.2 i hi).2⟩⟩
theorem Upto.of_block {w w' : World} {g n j : Nat} {ms : List R} (h : Upto w g n j ms) (hb : w'.heap[g]? = w.heap[g]?) : Upto w' g n j ms := by
  have c : ∀ q, w'.cell? ⟨g, q, none⟩ = w.cell? ⟨g, q, none⟩ := fun q => World.cell?_of_block (a := ⟨g, q, none⟩) hb
  have f : ∀ q, w'.frozen? ⟨g, q, none⟩ = w.frozen? ⟨g, q, none⟩ := fun q => World.frozen?_of_block (a := ⟨g, q, none⟩) hb
  refine ⟨fun i hi => ?_, fun i hi => ⟨by rw [c]; exact (h.2 i hi).1, by rw [f]; exact (h.2 i hi).2⟩⟩
  obtain ⟨h0, h1, h2⟩ := h.1 i hi
  exact ⟨(c _).trans h0, (c _).trans h1, (c _).trans h2⟩
theorem rm_of {w : World} {g n : Nat} {ms : List R} (h : Upto w g n ms.length ms) : RM w (some ⟨g, 0, none⟩) ms := .inr ⟨g, 0, rfl, fun i hi => by rw [Nat.zero_add]; exact h.1 i hi⟩
theorem upto_own {w : World} {base g cap n : Nat} {ms : List R} (hn : n = ms.length) (h : w.ownsRow base 75 3 (.slice (some ⟨g, 0, none⟩) n cap) n (flat ms)) : Upto w g n n ms := by
  subst hn
  refine ⟨fun i hi => at_own rfl h i hi, fun i hi => ?_⟩
  obtain ⟨_, ⟨e, _⟩ | ⟨g', cap', cur, e, _, hg, h1, _, h3, _⟩⟩ := h
  · cases e
  · cases e
    have hlt : i < cur.size := by rw [h3]; exact Nat.lt_of_lt_of_le hi (Nat.mul_le_mul_right _ h1)
    refine ⟨?_, ?_⟩
    · simp [World.cell?, hg, hlt]
    · simp [World.frozen?, hg]
/-- A list between two bounds of the heap, in memory that may be written. -/
def Lst (W : World) (a : Option Addr) (ms : List R) (lo hi : Nat) : Prop := ms = [] ∨ ∃ g, a = some ⟨g, 0, none⟩ ∧ lo ≤ g ∧ g < hi ∧ g < W.heap.size ∧ Upto W g ms.length ms.length ms
theorem Lst.rm {W : World} {a : Option Addr} {ms : List R} {lo hi : Nat} (h : Lst W a ms lo hi) : RM W a ms := by
  rcases h with rfl | ⟨g, rfl, _, _, _, hu⟩
  · exact .inl rfl
  · exact rm_of hu
theorem Lst.below {W W' : World} {a : Option Addr} {ms : List R} {lo hi : Nat} (h : Lst W a ms lo hi) (hb : Below W.heap.size W W') : Lst W' a ms lo hi := by
  rcases h with rfl | ⟨g, rfl, h1, h2, h3, hu⟩
  · exact .inl rfl
  · exact .inr ⟨g, rfl, h1, h2, Nat.lt_of_lt_of_le h3 hb.size, hu.below hb h3⟩
theorem Lst.mono {W : World} {a : Option Addr} {ms : List R} {lo hi lo' hi' : Nat} (h : Lst W a ms lo hi) (h1 : lo' ≤ lo) (h2 : hi ≤ hi') : Lst W a ms lo' hi' := by
  rcases h with rfl | ⟨g, rfl, h3, h4, h5, hu⟩
  · exact .inl rfl
  · exact .inr ⟨g, rfl, by omega, by omega, h5, hu⟩
theorem Lst.but {W W' : World} {a : Option Addr} {ms : List R} {lo hi : Nat} {p : Nat → Prop} (h : Lst W a ms lo hi) (hs : W.heap.size ≤ W'.heap.size) (hb : ∀ k, k < W.heap.size → p k → W'.heap[k]? = W.heap[k]?) (hp : ∀ k, lo ≤ k → k < hi → p k) : Lst W' a ms lo hi := by
  rcases h with rfl | ⟨g, rfl, h1, h2, h3, hu⟩
  · exact .inl rfl
  · exact .inr ⟨g, rfl, h1, h2, Nat.lt_of_lt_of_le h3 hs, hu.of_block (hb g h3 (hp g h1 h2))⟩
/-- The same of a value. -/
def LstV (W : World) (v : Value) (ms : List R) (lo hi : Nat) : Prop := ∃ a c, v = .slice a ms.length c ∧ Lst W a ms lo hi
theorem LstV.below {W W' : World} {v : Value} {ms : List R} {lo hi : Nat} (h : LstV W v ms lo hi) (hb : Below W.heap.size W W') : LstV W' v ms lo hi := by
  obtain ⟨a, c, e, hl⟩ := h; exact ⟨a, c, e, hl.below hb⟩
theorem LstV.mono {W : World} {v : Value} {ms : List R} {lo hi lo' hi' : Nat} (h : LstV W v ms lo hi) (h1 : lo' ≤ lo) (h2 : hi ≤ hi') : LstV W v ms lo' hi' := by
  obtain ⟨a, c, e, hl⟩ := h; exact ⟨a, c, e, hl.mono h1 h2⟩
theorem lstV_nil (W : World) (a : Option Addr) (c lo hi : Nat) : LstV W (.slice a 0 c) [] lo hi := ⟨a, c, rfl, .inl rfl⟩
/-- A row of one's own as such a list. -/
theorem lst_own {w : World} {base n : Nat} {v : Value} {ms : List R} (hn : n = ms.length) (h : w.ownsRow base 75 3 v n (flat ms)) : LstV w v ms base w.heap.size := by
  unfold LstV
  have h' := h
  obtain ⟨hl, ⟨rfl, h0⟩ | ⟨g, cap, cur, rfl, hb, hg, _, _, _, _⟩⟩ := h
  · exact ⟨none, 0, by rw [← hn, h0], .inl (List.eq_nil_of_length_eq_zero (by omega))⟩
  · have hlt : g < w.heap.size := by
      rcases Nat.lt_or_ge g w.heap.size with h | h
      · exact h
      · rw [Array.getElem?_eq_none h] at hg; cases hg
    refine ⟨_, cap, by rw [hn], .inr ⟨g, rfl, hb, hlt, hlt, ?_⟩⟩
    have := upto_own hn h'
    rw [hn] at this; exact this


theorem infoR : ∃ i, Try.prog.info? 75 = some i ∧ i.zero = some (Value.agg #[.int .i64 0, .int .i64 0, .int .i64 0]) ∧ i.size = 3 ∧ i.bytes = 24 := by
  have h : (Try.prog.info? 75).map (fun i => (i.zero, i.size, i.bytes)) = some (some (Value.agg #[.int .i64 0, .int .i64 0, .int .i64 0]), 3, 24) := by kernel_rfl
  obtain ⟨i, hi, he⟩ := Option.map_eq_some_iff.1 h
  simp only [Prod.mk.injEq] at he
  exact ⟨i, hi, he.1, he.2.1, he.2.2⟩

/-- append of a list to a row of one's own, as a walk meets it. -/
theorem wpList_apS {ops : Array Oper} {rest : List Oper} {o : Oper} {a : Act} {Q : Exit → Act → World → Prop} {w : World} {base : Nat} {v : Value} {xs : List R} (hown : w.ownsRow base 75 3 v xs.length (flat xs)) (g off m c : Nat) (ms : List R) (hm : ms.length = m) (hr : RM w (some ⟨g, off, none⟩) ms) (hlen : xs.length + ms.length ≤ 4194304) (hbase : base ≤ w.heap.size)
    (hgd : o.guard = none) (s x : Operand) (ho : o.op = .call { callee := .builtin .append, args := #[s, x], argTypes := #[40, 40] }) (hs : a.eval s = v) (hx : a.eval x = .slice (some ⟨g, off, none⟩) m c)
    (h : ∀ v' w', w'.ownsRow base 75 3 v' (xs ++ ms).length (flat (xs ++ ms)) → w.grownBy w' v.ownBlock → wpList Try.prog ops Q rest (a.put o.dst v') w') : wpList Try.prog ops Q (o :: rest) a w := by
  subst hm
  obtain ⟨i0, hi, hz0, hz1, hz2⟩ := infoR
  refine wpList_append_own w hgd s x _ ho base 75 i0 _ 3 24 Try.underlying40 hi hz0 hz1 hz2 rfl (by decide) v xs.length (flat xs) hs hown ⟨g, off, none⟩ ms.length c (flat ms) hx (flat_len ms) hr.cells (fun u hu => flat_one_cell hu) (by unfold maxLen; omega) (by omega) hbase (fun v' w' h1 h2 _ => ?_)
  refine h v' w' ?_ h2
  rw [List.length_append, flat_append]; exact h1
theorem own_empty (w : World) (base : Nat) (hb : base ≤ w.heap.size) : (w.alloc (.cells #[] 75)).ownsRow base 75 3 (.slice (some ⟨w.heap.size, 0, none⟩) 0 0) ([] : List R).length (flat []) := World.ownsRow_made w #[] 0 hb (Nat.zero_le _) (by simp)
theorem own_nil (w : World) (base : Nat) : w.ownsRow base 75 3 (.slice none 0 0) ([] : List R).length (flat []) := World.ownsRow_nil w base _ _
theorem below_own {B : Nat} {w0 w w' : World} {base : Nat} {v : Value} {n : Nat} {xs : List Value} (h : Below B w0 w) (ho : w.ownsRow base 75 3 v n xs) (hg : w.grownBy w' v.ownBlock) (hb : B ≤ base) (hB : B ≤ w.heap.size) : Below B w0 w' :=
  h.grown hg hB (fun k hk => Nat.le_trans hb (ho.lt k hk).1)


set_option maxHeartbeats 1000000 in
theorem eqR (key : Int) (til : Int) (val : Int) (w : World) :
    Calls Try.prog 56 #[.agg #[.int .i64 key, .int .i64 til, .int .i64 val], .agg #[.int .i64 key, .int .i64 til, .int .i64 val]] w
      fun e w' => e = .returned (.bool true) ∧ Below w.heap.size w w' := by
  go_enter Try.func56, Try.ntmps56
  go_wp2
  go_ret
  repeat (first | exact ⟨rfl, Below.refl _ _⟩ | refine ⟨rfl, ?_⟩ | exact Below.refl _ _ | refine Below.alloc ?_ (by simp <;> omega) _)

theorem sAt {w : World} {g g' o o' : Nat} {key til val : Int}  (h : At w g o ⟨key, til, val⟩) (h' : At w g' o' ⟨key, til, val⟩) :
    (At w g o ⟨key, til, val⟩ ∧ At w g' o' ⟨key, til, val⟩) ∧ w.cell? ⟨g, o, none⟩ = some (.int .i64 key) ∧ w.cell? ⟨g, o + 1, none⟩ = some (.int .i64 til) ∧ w.cell? ⟨g, o + 2, none⟩ = some (.int .i64 val) ∧ w.cell? ⟨g', o', none⟩ = some (.int .i64 key) ∧ w.cell? ⟨g', o' + 1, none⟩ = some (.int .i64 til) ∧ w.cell? ⟨g', o' + 2, none⟩ = some (.int .i64 val) := ⟨⟨h, h'⟩, h.1, h.2.1, h.2.2, h'⟩

set_option maxRecDepth 100000 in
set_option maxHeartbeats 4000000 in
theorem eqS (a b : Option Addr) (ms : List R) (ca cb : Nat) (w : World) (hm : ms.length ≤ 1048576) (hr : RM w a ms) (hr' : RM w b ms) :
    Calls Try.prog 49 #[.slice a ms.length ca, .slice b ms.length cb] w fun e w' => e = .returned (.bool true) ∧ Below w.heap.size w w' := by
  have HR := hide hr
  have HR' := hide hr'
  clear hr hr'
  generalize hN : ms.length = n at *
  have HN := hide hN
  clear hN
  go_enter Try.func49, Try.ntmps49
  go_wp2
  go_loopw [5] (fun i wr => ∃ j : Nat, j ≤ n ∧ i = .int .i64 j ∧ Hid (Below w.heap.size w wr)) (fun i _ => n - (intOf i).toNat)
  case atStart => exact ⟨0, by omega, rfl, hide (Below.refl _ _)⟩
  case round =>
    obtain ⟨j, hj, rfl, hbl⟩ := hrel
    by_cases hlt : (j : Int) < (n : Int)
    · have k0 : (0 : Int) ≤ (j : Int) := by omega
      have hlen : j < ms.length := by rw [unhide HN]; omega
      rcases (unhide HR).below (by exact (unhide hbl)) with e0 | ⟨g, off, rfl, hc⟩
      · exfalso; rw [e0] at hlen; simp at hlen
      rcases (unhide HR').below (by exact (unhide hbl)) with e0 | ⟨g', off', rfl, hc'⟩
      · exfalso; rw [e0] at hlen; simp at hlen
      have hA := hc j hlen
      have hA' := hc' j hlen
      clear hc hc'
      generalize ms.getD j R.zero = m at *
      obtain ⟨key, til, val⟩ := m
      go_wp2_with fail
      go_region_held3 (fun w' => (At w' g (off + j * 3) ⟨key, til, val⟩ ∧ At w' g' (off' + j * 3) ⟨key, til, val⟩) ∧ w'.cell? ⟨g, off + j * 3, none⟩ = some (.int .i64 key) ∧ w'.cell? ⟨g, off + j * 3 + 1, none⟩ = some (.int .i64 til) ∧ w'.cell? ⟨g, off + j * 3 + 2, none⟩ = some (.int .i64 val) ∧ w'.cell? ⟨g', off' + j * 3, none⟩ = some (.int .i64 key) ∧ w'.cell? ⟨g', off' + j * 3 + 1, none⟩ = some (.int .i64 til) ∧ w'.cell? ⟨g', off' + j * 3 + 2, none⟩ = some (.int .i64 val))
        ((go_split_ands; exact sAt (by first | with_reducible assumption | (with_reducible refine At.drew ?_; with_reducible assumption) | (exact At.below (by with_reducible assumption) b1)) (by first | with_reducible assumption | (with_reducible refine At.drew ?_; with_reducible assumption) | (exact At.below (by with_reducible assumption) b1))))
        (first | (go_at_call 56; refine (eqR key til val _).mono ?_; rintro e w1 ⟨rfl, b1⟩))
      have hb1 := hide ((unhide hbl).drew.trans (b1.mono (by show w.heap.size ≤ wr.heap.size; exact (unhide hbl).size)))
      go_wp2_with fail
      go_roundw
      case rel => exact ⟨j + 1, by omega, by go_num, hb1⟩
      case measure => simp [intOf]; omega
    · go_wp2
      go_ret
      exact ⟨rfl, unhide hbl⟩

/-- The marks from K on. -/
def markR (K : Int) : R := ⟨K, K + 1, K + 1 + 1⟩
def marks (K : Int) (n : Nat) : List R := (List.range n).map fun t : Nat => markR (K + 3 * (t : Int))
theorem marks_len (K : Int) (n : Nat) : (marks K n).length = n := by simp [marks]
theorem marks_at (K : Int) (n t : Nat) (h : t < n) : (marks K n).getD t R.zero = markR (K + 3 * (t : Int)) := by
  unfold marks
  rw [List.getD_eq_getElem?_getD, List.getElem?_map, List.getElem?_range h]; rfl
theorem grown_set {w w1 : World} {g o : Nat} {v : Value} (h : w.grownBy w1 (some g)) : w.grownBy (w1.setCell ⟨g, o, none⟩ v) (some g) :=
  ⟨h.os, h.tape, h.output, by have := h.size; simp [World.setCell]; exact this, fun k hk hne => (Below.heap_setCell _ _ _ _ (fun e => hne (by rw [e]))).trans (h.block k hk hne)⟩
theorem grown_put {w w1 : World} {g o : Nat} {m : R} (h : w.grownBy w1 (some g)) : w.grownBy (put w1 g o m) (some g) := grown_set (grown_set (grown_set (h)))

set_option maxHeartbeats 4000000 in
theorem markS (g n c : Nat) (K : Int) (ms : List R) (w : World) (hK : 0 ≤ K) (hK1 : K ≤ 1073741824) (hn : n ≤ 1048576) (hg : g < w.heap.size) (hU : Upto w g n n ms) :
    Calls Try.prog 39 #[.slice (some ⟨g, 0, none⟩) n c, .int .i64 K] w fun e w' => e = .returned (.int .i64 (K + 3 * (n : Int))) ∧ w.grownBy w' (some g) ∧ Upto w' g n n (marks K n) := by
  have hU0 : Hid (Upto w g n 0 (marks K n)) := hide ⟨fun i hi => by omega, hU.2⟩
  clear hU
  go_enter Try.func39, Try.ntmps39
  go_wp2
  go_loopw [1, 5] (fun q i wr => ∃ j : Nat, j ≤ n ∧ i = .int .i64 j ∧ q = .int .i64 (K + 3 * (j : Int)) ∧ Hid (w.grownBy wr (some g)) ∧ Hid (Upto wr g n j (marks K n))) (fun _ i _ => n - (intOf i).toNat)
  case atStart => exact ⟨0, by omega, rfl, by simp, hide ⟨rfl, rfl, rfl, Nat.le_refl _, fun _ _ _ => rfl⟩, hU0⟩
  case round =>
    obtain ⟨j, hj, rfl, rfl, hgr, hu⟩ := hrel
    by_cases hlt : (j : Int) < (n : Int)
    · have k0 : (0 : Int) ≤ (j : Int) := by omega
      obtain ⟨v0, x0⟩ := Option.isSome_iff_exists.1 ((unhide hu).2 (j * 3) (by omega)).1
      obtain ⟨v1, x1⟩ := Option.isSome_iff_exists.1 ((unhide hu).2 (j * 3 + 1) (by omega)).1
      obtain ⟨v2, x2⟩ := Option.isSome_iff_exists.1 ((unhide hu).2 (j * 3 + 2) (by omega)).1
      have y0 := ((unhide hu).2 (j * 3) (by omega)).2
      have y1 := ((unhide hu).2 (j * 3 + 1) (by omega)).2
      have y2 := ((unhide hu).2 (j * 3 + 2) (by omega)).2
      have hst := (unhide hu).step (by omega)
      rw [marks_at K n j (by omega)] at hst
      have HST := hide hst
      have HGN := hide (grown_put (o := j * 3) (m := markR (K + 3 * (j : Int))) (unhide hgr))
      clear hst
      generalize hq : K + 3 * (j : Int) = q at *
      have hq0 : 0 ≤ q := by omega
      have hq1 : q ≤ 1109393408 := by omega
      go_wp2_with fail
      exact ⟨⟨j + 1, by omega, by go_num, by go_num, HGN, HST⟩, by simp [intOf]; omega⟩
    · obtain rfl : j = n := by omega
      go_wp2
      go_ret
      exact ⟨rfl, unhide hgr, unhide hu⟩
theorem markS0 (a : Option Addr) (c : Nat) (K : Int) (w : World) :
    Calls Try.prog 39 #[.slice a 0 c, .int .i64 K] w fun e w' => e = .returned (.int .i64 K) ∧ w' = w := by
  go_enter Try.func39, Try.ntmps39
  go_wp2
  go_loop [1, 5] (fun q i => q = .int .i64 K ∧ i = .int .i64 0) (fun _ i => 0)
  case atStart => exact ⟨rfl, rfl⟩
  case round =>
    obtain ⟨rfl, rfl⟩ := hrel
    go_wp2
    go_ret
    exact ⟨rfl, rfl⟩
theorem heldS0 (a : Option Addr) (c : Nat) (K : Int) (w : World) :
    Calls Try.prog 44 #[.slice a 0 c, .int .i64 K] w fun e w' => e = .returned (.int .i64 K) ∧ w' = w := by
  go_enter Try.func44, Try.ntmps44
  go_wp2
  go_loop [1, 5] (fun q i => q = .int .i64 K ∧ i = .int .i64 0) (fun _ i => 0)
  case atStart => exact ⟨rfl, rfl⟩
  case round =>
    obtain ⟨rfl, rfl⟩ := hrel
    go_wp2
    go_ret
    exact ⟨rfl, rfl⟩

set_option maxHeartbeats 4000000 in
theorem heldS (g n c : Nat) (K : Int) (w : World) (hK : 0 ≤ K) (hK1 : K ≤ 1073741824) (hn : n ≤ 1048576) (hU : Upto w g n n (marks K n)) :
    Calls Try.prog 44 #[.slice (some ⟨g, 0, none⟩) n c, .int .i64 K] w fun e w' => e = .returned (.int .i64 (K + 3 * (n : Int))) ∧ w' = w := by
  have HU := hide hU
  clear hU
  go_enter Try.func44, Try.ntmps44
  go_wp2
  go_loopw [1, 5] (fun q i wr => wr = w ∧ ∃ j : Nat, j ≤ n ∧ i = .int .i64 j ∧ q = .int .i64 (K + 3 * (j : Int))) (fun _ i _ => n - (intOf i).toNat)
  case atStart => exact ⟨rfl, 0, by omega, rfl, by simp⟩
  case round =>
    obtain ⟨rfl, j, hj, rfl, rfl⟩ := hrel
    by_cases hlt : (j : Int) < (n : Int)
    · have k0 : (0 : Int) ≤ (j : Int) := by omega
      have hA := (unhide HU).1 j (by omega)
      rw [marks_at K n j (by omega)] at hA
      obtain ⟨c0, c1, c2⟩ := hA
      unfold markR at c0 c1 c2
      dsimp only at c0 c1 c2
      generalize hq : K + 3 * (j : Int) = q at *
      have hq0 : 0 ≤ q := by omega
      have hq1 : q ≤ 1109393408 := by omega
      go_wp2_with fail
      go_roundw
      case rel => exact ⟨by first | trivial | rfl, j + 1, by omega, by go_num, by go_num⟩
      case measure => simp [intOf]; omega
    · obtain rfl : j = n := by omega
      go_wp2
      go_ret
      exact ⟨by first | trivial | rfl, rfl⟩
/-- Marks on a list that may be written, whether it has any or not. -/
theorem markF (a : Option Addr) (c lo hi : Nat) (K : Int) (ms : List R) (w : World) (hK : 0 ≤ K) (hK1 : K ≤ 1073741824) (hn : ms.length ≤ 1048576) (h : Lst w a ms lo hi) :
    Calls Try.prog 39 #[.slice a ms.length c, .int .i64 K] w fun e w' => e = .returned (.int .i64 (K + 3 * (ms.length : Int))) ∧ w.heap.size ≤ w'.heap.size ∧ Below (min lo w.heap.size) w w' ∧ Lst w' a (marks K ms.length) lo hi ∧ ∀ k, k < w.heap.size → (k < lo ∨ hi ≤ k) → w'.heap[k]? = w.heap[k]? := by
  have hnil : ∀ w', w' = w → w.heap.size ≤ w'.heap.size ∧ Below (min lo w.heap.size) w w' ∧ ∀ k, k < w.heap.size → (k < lo ∨ hi ≤ k) → w'.heap[k]? = w.heap[k]? := by
    rintro w' rfl
    exact ⟨Nat.le_refl _, Below.refl _ _, fun _ _ _ => rfl⟩
  by_cases h0 : ms.length = 0
  · obtain rfl : ms = [] := List.eq_nil_of_length_eq_zero h0
    refine (markS0 a c K w).mono ?_
    rintro e w' ⟨rfl, hw⟩
    obtain ⟨q1, q2, q3⟩ := hnil w' hw
    exact ⟨by simp, q1, q2, .inl rfl, q3⟩
  rcases h with rfl | ⟨g, rfl, h1, h2, h3, hu⟩
  · simp at h0
  refine (markS g ms.length c K ms w hK hK1 hn h3 hu).mono ?_
  rintro e w' ⟨rfl, gr, hu'⟩
  exact ⟨rfl, gr.size, ⟨gr.os, gr.tape, gr.output, gr.size, fun k hk => gr.block k (by omega) (fun e => by cases e; omega)⟩, .inr ⟨g, rfl, h1, h2, Nat.lt_of_lt_of_le h3 gr.size, by rw [marks_len]; exact hu'⟩, fun k hk hne => gr.block k hk (fun e => by cases e; omega)⟩
theorem heldF (a : Option Addr) (c n lo hi : Nat) (K : Int) (w : World) (hK : 0 ≤ K) (hK1 : K ≤ 1073741824) (hn : n ≤ 1048576) (h : Lst w a (marks K n) lo hi) :
    Calls Try.prog 44 #[.slice a n c, .int .i64 K] w fun e w' => e = .returned (.int .i64 (K + 3 * (n : Int))) ∧ w' = w := by
  by_cases h0 : n = 0
  · subst h0
    refine (heldS0 a c K w).mono ?_
    rintro e w' ⟨rfl, rfl⟩
    exact ⟨by simp, rfl⟩
  rcases h with h | ⟨g, rfl, _, _, _, hu⟩
  · have := marks_len K n; rw [h] at this; simp at this; omega
  · rw [marks_len] at hu
    exact heldS g n c K w hK hK1 hn hu
end Tu
end Go.Proofs.Ytpmlpojefelbbaa
namespace Go.Proofs.Ytpmlpojefelbbaa
open Go.ChangeShapes Go.WideShapes Go.ChangeAt Go.RowKit
set_option linter.unusedVariables false
set_option maxRecDepth 100000
set_option linter.unusedSimpArgs false
attribute [local go_sem ↓] Go.wp_at_zero Go.wp_at_succ
namespace So
open W1
structure R where
  ad : Int
  an : Int
  til : Int
def R.zero : R := ⟨0, 0, 0⟩
/-- The value of one. -/
def R.value (m : R) : Value := .agg #[.int .i64 m.ad, .int .i64 m.an, .int .i64 m.til]
/-- The cells of one, of a list of them. -/
def R.cells (m : R) : List Value := [.int .i64 m.ad, .int .i64 m.an, .int .i64 m.til]
def flat (ms : List R) : List Value := ms.flatMap R.cells
/-- The cells of one that lies at an address. -/
def At (w : World) (g o : Nat) (m : R) : Prop :=
  w.cell? ⟨g, o, none⟩ = some (.int .i64 m.ad) ∧ w.cell? ⟨g, o + 1, none⟩ = some (.int .i64 m.an) ∧ w.cell? ⟨g, o + 2, none⟩ = some (.int .i64 m.til)
/-- The slice at a reads as these. -/
def RM (w : World) (a : Option Addr) (ms : List R) : Prop :=
  ms = [] ∨ ∃ g off, a = some ⟨g, off, none⟩ ∧ ∀ i, i < ms.length → At w g (off + i * 3) (ms.getD i R.zero)
theorem At.below {w w' : World} {g o : Nat} {m : R} (h : At w g o m) (hb : Below w.heap.size w w') : At w' g o m := by
  have hg : g < w.heap.size := World.block_lt_of_cell? _ _ h.1
  obtain ⟨h0, h1, h2⟩ := h
  refine ⟨?_, ?_, ?_⟩ <;> (rw [hb.cell hg]; assumption)
theorem At.drew {w : World} {g o : Nat} {m : R} (h : At w g o m) : At w.drew g o m := h
theorem RM.below {w w' : World} {a : Option Addr} {ms : List R} (h : RM w a ms) (hb : Below w.heap.size w w') : RM w' a ms := by
  rcases h with h | ⟨g, off, rfl, hc⟩
  · exact .inl h
  · exact .inr ⟨g, off, rfl, fun i hi => (hc i hi).below hb⟩
theorem RM.drew {w : World} {a : Option Addr} {ms : List R} (h : RM w a ms) : RM w.drew a ms := h
theorem RM.at {w : World} {g off : Nat} {ms : List R} {i : Nat} (h : RM w (some ⟨g, off, none⟩) ms) (hi : i < ms.length) : At w g (off + i * 3) (ms.getD i R.zero) := by
  rcases h with rfl | ⟨g', off', e, hc⟩
  · simp at hi
  · cases e; exact hc i hi
theorem RM.form {w : World} {a : Option Addr} {ms : List R} (h : RM w a ms) (h0 : 0 < ms.length) : ∃ g off, a = some ⟨g, off, none⟩ := by
  rcases h with rfl | ⟨g, off, e, _⟩
  · simp at h0
  · exact ⟨g, off, e⟩
theorem R.len (m : R) : m.cells.length = 3 := rfl
theorem flat_len (ms : List R) : (flat ms).length = ms.length * 3 := by
  unfold flat
  induction ms with
  | nil => rfl
  | cons m t ih => rw [List.flatMap_cons, List.length_append, ih, R.len, List.length_cons]; omega
theorem flat_append (xs ys : List R) : flat (xs ++ ys) = flat xs ++ flat ys := by unfold flat; rw [List.flatMap_append]
theorem flat_get : ∀ (ms : List R) (i j : Nat), j < 3 → i < ms.length → (flat ms)[i * 3 + j]? = (ms.getD i R.zero).cells[j]?
  | [], i, j, hj, hi => by simp at hi
  | m :: t, 0, j, hj, hi => by
    unfold flat
    rw [List.flatMap_cons, Nat.zero_mul, Nat.zero_add, List.getElem?_append_left (by rw [R.len]; exact hj)]; rfl
  | m :: t, i + 1, j, hj, hi => by
    have ih := flat_get t i j hj (by simpa using hi)
    unfold flat at ih ⊢
    rw [List.flatMap_cons, show (i + 1) * 3 + j = m.cells.length + (i * 3 + j) by rw [R.len]; omega, List.getElem?_append_right (by omega), Nat.add_sub_cancel_left, ih]; rfl
theorem cell_one {m : R} {u : Value} (h : u ∈ m.cells) : u.oneCell' = true := by
  unfold R.cells at h; simp only [List.mem_cons, List.not_mem_nil, or_false] at h
  rcases h with rfl | rfl | rfl <;> rfl
theorem flat_one_cell {ms : List R} {u : Value} (h : u ∈ flat ms) : u.oneCell' = true := by
  obtain ⟨m, _, hu⟩ := List.mem_flatMap.1 h; exact cell_one hu
theorem at_cells {w : World} {g o : Nat} {m : R} (h : At w g o m) : ∀ j u, m.cells[j]? = some u → w.cell? ⟨g, o + j, none⟩ = some u := by
  intro j u hj
  match j, hj with
  | 0, hj => simp [R.cells] at hj; subst hj; exact h.1
  | 1, hj => simp [R.cells] at hj; subst hj; exact h.2.1
  | 2, hj => simp [R.cells] at hj; subst hj; exact h.2.2
  | n + 3, hj => simp [R.cells] at hj
theorem plain_add (b off k : Nat) : (⟨b, off, none⟩ : Addr).add k = ⟨b, off + k, none⟩ := by unfold Addr.add; split <;> simp_all
/-- A list that is read, cell by cell. -/
theorem RM.cells {w : World} {g off : Nat} {ms : List R} (h : RM w (some ⟨g, off, none⟩) ms) : ∀ j u, (flat ms)[j]? = some u → w.cell? ((⟨g, off, none⟩ : Addr).add j) = some u := by
  intro j u hj
  have hl : j < ms.length * 3 := by
    rw [← flat_len]; exact (List.getElem?_eq_some_iff.1 hj).1
  have hi : j / 3 < ms.length := by omega
  have e : j / 3 * 3 + j % 3 = j := by omega
  rw [← e, flat_get ms _ _ (by omega) hi] at hj
  rw [plain_add, ← e, ← Nat.add_assoc]
  exact at_cells (h.at hi) _ _ hj
/-- A row of one's own that holds a list. -/
theorem at_own {w : World} {base g n cap : Nat} {ms : List R} (hn : n = ms.length) (h : w.ownsRow base 77 3 (.slice (some ⟨g, 0, none⟩) n cap) n (flat ms)) (i : Nat) (hi : i < ms.length) : At w g (i * 3) (ms.getD i R.zero) := by
  have hc : ∀ j, j < 3 → ∀ u, (ms.getD i R.zero).cells[j]? = some u → w.cell? ⟨g, i * 3 + j, none⟩ = some u := by
    intro j hj u hu
    have := h.cells (g := g) rfl (i * 3 + j) u (by rw [flat_get ms i j hj hi]; exact hu)
    rw [plain_add, Nat.zero_add] at this
    exact this
  exact ⟨hc 0 (by omega) _ rfl, hc 1 (by omega) _ rfl, hc 2 (by omega) _ rfl⟩

/-- One laid at an address. -/
def put (w : World) (g o : Nat) (m : R) : World := ((w.setCell ⟨g, o, none⟩ (.int .i64 m.ad)).setCell ⟨g, o + 1, none⟩ (.int .i64 m.an)).setCell ⟨g, o + 2, none⟩ (.int .i64 m.til)
theorem put_frozen (w : World) (g o : Nat) (m : R) (a : Addr) : (put w g o m).frozen? a = w.frozen? a := by
  unfold put; rw [World.frozen?_setCell, World.frozen?_setCell, World.frozen?_setCell]
theorem put_far (w : World) (g o : Nat) (m : R) {b q : Nat} (h : b ≠ g ∨ q < o ∨ o + 3 ≤ q) : (put w g o m).cell? ⟨b, q, none⟩ = w.cell? ⟨b, q, none⟩ := by
  unfold put
  rw [World.cell?_setCell_other _ _ _ _ (by intro e; cases e <;> omega), World.cell?_setCell_other _ _ _ _ (by intro e; cases e <;> omega), World.cell?_setCell_other _ _ _ _ (by intro e; cases e <;> omega)]
theorem put_at (w : World) (g o : Nat) (m : R) (h : ∀ k, k < 3 → (w.cell? ⟨g, o + k, none⟩).isSome = true) : At (put w g o m) g o m := by
  obtain ⟨v0, h0⟩ := Option.isSome_iff_exists.1 (h 0 (by omega))
  obtain ⟨v1, h1⟩ := Option.isSome_iff_exists.1 (h 1 (by omega))
  obtain ⟨v2, h2⟩ := Option.isSome_iff_exists.1 (h 2 (by omega))
  rw [Nat.add_zero] at h0
  have n : ∀ {w : World} {v : Value} {a b : Nat}, a ≠ b → (w.setCell ⟨g, a, none⟩ v).cell? ⟨g, b, none⟩ = w.cell? ⟨g, b, none⟩ := fun {w v a b} e => World.cell?_setCell_other _ _ _ _ (by intro h; cases h; exact e rfl)
  unfold put
  refine ⟨?_, ?_, ?_⟩
  · rw [n (by omega), n (by omega), World.cell?_setCell_same _ _ _ h0]
  · rw [n (by omega), World.cell?_setCell_same _ _ _ ((n (by omega)).trans h1)]
  · rw [World.cell?_setCell_same _ _ _ ((n (by omega)).trans ((n (by omega)).trans h2))]
theorem put_some (w : World) (g o : Nat) (m : R) (b q : Nat) (h : (w.cell? ⟨b, q, none⟩).isSome = true) : ((put w g o m).cell? ⟨b, q, none⟩).isSome = true := by
  obtain ⟨v, y0⟩ := Option.isSome_iff_exists.1 h
  unfold put
  obtain ⟨v1, y1⟩ := cell?_setCell_some (p := ⟨g, o, none⟩) (x := .int .i64 m.ad) y0
  obtain ⟨v2, y2⟩ := cell?_setCell_some (p := ⟨g, o + 1, none⟩) (x := .int .i64 m.an) y1
  obtain ⟨v3, y3⟩ := cell?_setCell_some (p := ⟨g, o + 2, none⟩) (x := .int .i64 m.til) y2
  rw [y3]; rfl
/-- The first j stand at the head of block g, whose n times 3 cells may be written. -/
def Upto (w : World) (g n j : Nat) (ms : List R) : Prop :=
  (∀ i, i < j → At w g (i * 3) (ms.getD i R.zero)) ∧ ∀ i, i < n * 3 → (w.cell? ⟨g, i, none⟩).isSome = true ∧ w.frozen? ⟨g, i, none⟩ = false
theorem Upto.step {w : World} {g n j : Nat} {ms : List R} (h : Upto w g n j ms) (hj : j < n) : Upto (put w g (j * 3) (ms.getD j R.zero)) g n (j + 1) ms := by
  refine ⟨fun i hi => ?_, fun i hi => ⟨put_some _ _ _ _ _ _ (h.2 i hi).1, by rw [put_frozen]; exact (h.2 i hi).2⟩⟩
  by_cases e : i = j
  · subst e
    exact put_at _ _ _ _ (fun k hk => (h.2 _ (by omega)).1)
  · obtain ⟨h0, h1, h2⟩ := h.1 i (by omega)
    exact ⟨(put_far _ _ _ _ (by omega)).trans h0, (put_far _ _ _ _ (by omega)).trans h1, (put_far _ _ _ _ (by omega)).trans h2⟩
theorem Upto.below {w w' : World} {g n j : Nat} {ms : List R} (h : Upto w g n j ms) (hb : Below w.heap.size w w') (hg : g < w.heap.size) : Upto w' g n j ms :=
  ⟨fun i hi => (h.1 i hi).below hb, fun i hi => ⟨by rw [hb.cell (p := ⟨g, i, none⟩) hg]; exact (h.2 i hi).1, by rw [hb.frozen (p := ⟨g, i, none⟩) hg]; exact (h.2 i hi).2⟩⟩
theorem Upto.of_block {w w' : World} {g n j : Nat} {ms : List R} (h : Upto w g n j ms) (hb : w'.heap[g]? = w.heap[g]?) : Upto w' g n j ms := by
  have c : ∀ q, w'.cell? ⟨g, q, none⟩ = w.cell? ⟨g, q, none⟩ := fun q => World.cell?_of_block (a := ⟨g, q, none⟩) hb
  have f : ∀ q, w'.frozen? ⟨g, q, none⟩ = w.frozen? ⟨g, q, none⟩ := fun q => World.frozen?_of_block (a := ⟨g, q, none⟩) hb
  refine ⟨fun i hi => ?_, fun i hi => ⟨by rw [c]; exact (h.2 i hi).1, by rw [f]; exact (h.2 i hi).2⟩⟩
  obtain ⟨h0, h1, h2⟩ := h.1 i hi
  exact ⟨(c _).trans h0, (c _).trans h1, (c _).trans h2⟩
theorem rm_of {w : World} {g n : Nat} {ms : List R} (h : Upto w g n ms.length ms) : RM w (some ⟨g, 0, none⟩) ms := .inr ⟨g, 0, rfl, fun i hi => by rw [Nat.zero_add]; exact h.1 i hi⟩
theorem upto_own {w : World} {base g cap n : Nat} {ms : List R} (hn : n = ms.length) (h : w.ownsRow base 77 3 (.slice (some ⟨g, 0, none⟩) n cap) n (flat ms)) : Upto w g n n ms := by
  subst hn
  refine ⟨fun i hi => at_own rfl h i hi, fun i hi => ?_⟩
  obtain ⟨_, ⟨e, _⟩ | ⟨g', cap', cur, e, _, hg, h1, _, h3, _⟩⟩ := h
  · cases e
  · cases e
    have hlt : i < cur.size := by rw [h3]; exact Nat.lt_of_lt_of_le hi (Nat.mul_le_mul_right _ h1)
    refine ⟨?_, ?_⟩
    · simp [World.cell?, hg, hlt]
    · simp [World.frozen?, hg]
/-- A list between two bounds of the heap, in memory that may be written. -/
def Lst (W : World) (a : Option Addr) (ms : List R) (lo hi : Nat) : Prop := ms = [] ∨ ∃ g, a = some ⟨g, 0, none⟩ ∧ lo ≤ g ∧ g < hi ∧ g < W.heap.size ∧ Upto W g ms.length ms.length ms
theorem Lst.rm {W : World} {a : Option Addr} {ms : List R} {lo hi : Nat} (h : Lst W a ms lo hi) : RM W a ms := by
  rcases h with rfl | ⟨g, rfl, _, _, _, hu⟩
  · exact .inl rfl
  · exact rm_of hu
theorem Lst.below {W W' : World} {a : Option Addr} {ms : List R} {lo hi : Nat} (h : Lst W a ms lo hi) (hb : Below W.heap.size W W') : Lst W' a ms lo hi := by
  rcases h with rfl | ⟨g, rfl, h1, h2, h3, hu⟩
  · exact .inl rfl
  · exact .inr ⟨g, rfl, h1, h2, Nat.lt_of_lt_of_le h3 hb.size, hu.below hb h3⟩
theorem Lst.mono {W : World} {a : Option Addr} {ms : List R} {lo hi lo' hi' : Nat} (h : Lst W a ms lo hi) (h1 : lo' ≤ lo) (h2 : hi ≤ hi') : Lst W a ms lo' hi' := by
  rcases h with rfl | ⟨g, rfl, h3, h4, h5, hu⟩
  · exact .inl rfl
  · exact .inr ⟨g, rfl, by omega, by omega, h5, hu⟩
theorem Lst.but {W W' : World} {a : Option Addr} {ms : List R} {lo hi : Nat} {p : Nat → Prop} (h : Lst W a ms lo hi) (hs : W.heap.size ≤ W'.heap.size) (hb : ∀ k, k < W.heap.size → p k → W'.heap[k]? = W.heap[k]?) (hp : ∀ k, lo ≤ k → k < hi → p k) : Lst W' a ms lo hi := by
  rcases h with rfl | ⟨g, rfl, h1, h2, h3, hu⟩
  · exact .inl rfl
  · exact .inr ⟨g, rfl, h1, h2, Nat.lt_of_lt_of_le h3 hs, hu.of_block (hb g h3 (hp g h1 h2))⟩
/-- The same of a value. -/
def LstV (W : World) (v : Value) (ms : List R) (lo hi : Nat) : Prop := ∃ a c, v = .slice a ms.length c ∧ Lst W a ms lo hi
theorem LstV.below {W W' : World} {v : Value} {ms : List R} {lo hi : Nat} (h : LstV W v ms lo hi) (hb : Below W.heap.size W W') : LstV W' v ms lo hi := by
  obtain ⟨a, c, e, hl⟩ := h; exact ⟨a, c, e, hl.below hb⟩
theorem LstV.mono {W : World} {v : Value} {ms : List R} {lo hi lo' hi' : Nat} (h : LstV W v ms lo hi) (h1 : lo' ≤ lo) (h2 : hi ≤ hi') : LstV W v ms lo' hi' := by
  obtain ⟨a, c, e, hl⟩ := h; exact ⟨a, c, e, hl.mono h1 h2⟩
theorem lstV_nil (W : World) (a : Option Addr) (c lo hi : Nat) : LstV W (.slice a 0 c) [] lo hi := ⟨a, c, rfl, .inl rfl⟩
/-- A row of one's own as such a list. -/
theorem lst_own {w : World} {base n : Nat} {v : Value} {ms : List R} (hn : n = ms.length) (h : w.ownsRow base 77 3 v n (flat ms)) : LstV w v ms base w.heap.size := by
  unfold LstV
  have h' := h
  obtain ⟨hl, ⟨rfl, h0⟩ | ⟨g, cap, cur, rfl, hb, hg, _, _, _, _⟩⟩ := h
  · exact ⟨none, 0, by rw [← hn, h0], .inl (List.eq_nil_of_length_eq_zero (by omega))⟩
  · have hlt : g < w.heap.size := by
      rcases Nat.lt_or_ge g w.heap.size with h | h
      · exact h
      · rw [Array.getElem?_eq_none h] at hg; cases hg
    refine ⟨_, cap, by rw [hn], .inr ⟨g, rfl, hb, hlt, hlt, ?_⟩⟩
    have := upto_own hn h'
    rw [hn] at this; exact this


theorem infoR : ∃ i, Try.prog.info? 77 = some i ∧ i.zero = some (Value.agg #[.int .i64 0, .int .i64 0, .int .i64 0]) ∧ i.size = 3 ∧ i.bytes = 24 := by
  have h : (Try.prog.info? 77).map (fun i => (i.zero, i.size, i.bytes)) = some (some (Value.agg #[.int .i64 0, .int .i64 0, .int .i64 0]), 3, 24) := by kernel_rfl
  obtain ⟨i, hi, he⟩ := Option.map_eq_some_iff.1 h
  simp only [Prod.mk.injEq] at he
  exact ⟨i, hi, he.1, he.2.1, he.2.2⟩

/-- append of a list to a row of one's own, as a walk meets it. -/
theorem wpList_apS {ops : Array Oper} {rest : List Oper} {o : Oper} {a : Act} {Q : Exit → Act → World → Prop} {w : World} {base : Nat} {v : Value} {xs : List R} (hown : w.ownsRow base 77 3 v xs.length (flat xs)) (g off m c : Nat) (ms : List R) (hm : ms.length = m) (hr : RM w (some ⟨g, off, none⟩) ms) (hlen : xs.length + ms.length ≤ 4194304) (hbase : base ≤ w.heap.size)
    (hgd : o.guard = none) (s x : Operand) (ho : o.op = .call { callee := .builtin .append, args := #[s, x], argTypes := #[41, 41] }) (hs : a.eval s = v) (hx : a.eval x = .slice (some ⟨g, off, none⟩) m c)
    (h : ∀ v' w', w'.ownsRow base 77 3 v' (xs ++ ms).length (flat (xs ++ ms)) → w.grownBy w' v.ownBlock → wpList Try.prog ops Q rest (a.put o.dst v') w') : wpList Try.prog ops Q (o :: rest) a w := by
  subst hm
  obtain ⟨i0, hi, hz0, hz1, hz2⟩ := infoR
  refine wpList_append_own w hgd s x _ ho base 77 i0 _ 3 24 Try.underlying41 hi hz0 hz1 hz2 rfl (by decide) v xs.length (flat xs) hs hown ⟨g, off, none⟩ ms.length c (flat ms) hx (flat_len ms) hr.cells (fun u hu => flat_one_cell hu) (by unfold maxLen; omega) (by omega) hbase (fun v' w' h1 h2 _ => ?_)
  refine h v' w' ?_ h2
  rw [List.length_append, flat_append]; exact h1
theorem own_empty (w : World) (base : Nat) (hb : base ≤ w.heap.size) : (w.alloc (.cells #[] 77)).ownsRow base 77 3 (.slice (some ⟨w.heap.size, 0, none⟩) 0 0) ([] : List R).length (flat []) := World.ownsRow_made w #[] 0 hb (Nat.zero_le _) (by simp)
theorem own_nil (w : World) (base : Nat) : w.ownsRow base 77 3 (.slice none 0 0) ([] : List R).length (flat []) := World.ownsRow_nil w base _ _
theorem below_own {B : Nat} {w0 w w' : World} {base : Nat} {v : Value} {n : Nat} {xs : List Value} (h : Below B w0 w) (ho : w.ownsRow base 77 3 v n xs) (hg : w.grownBy w' v.ownBlock) (hb : B ≤ base) (hB : B ≤ w.heap.size) : Below B w0 w' :=
  h.grown hg hB (fun k hk => Nat.le_trans hb (ho.lt k hk).1)


set_option maxHeartbeats 1000000 in
theorem eqR (ad : Int) (an : Int) (til : Int) (w : World) :
    Calls Try.prog 59 #[.agg #[.int .i64 ad, .int .i64 an, .int .i64 til], .agg #[.int .i64 ad, .int .i64 an, .int .i64 til]] w
      fun e w' => e = .returned (.bool true) ∧ Below w.heap.size w w' := by
  go_enter Try.func59, Try.ntmps59
  go_wp2
  go_ret
  repeat (first | exact ⟨rfl, Below.refl _ _⟩ | refine ⟨rfl, ?_⟩ | exact Below.refl _ _ | refine Below.alloc ?_ (by simp <;> omega) _)

theorem sAt {w : World} {g g' o o' : Nat} {ad an til : Int}  (h : At w g o ⟨ad, an, til⟩) (h' : At w g' o' ⟨ad, an, til⟩) :
    (At w g o ⟨ad, an, til⟩ ∧ At w g' o' ⟨ad, an, til⟩) ∧ w.cell? ⟨g, o, none⟩ = some (.int .i64 ad) ∧ w.cell? ⟨g, o + 1, none⟩ = some (.int .i64 an) ∧ w.cell? ⟨g, o + 2, none⟩ = some (.int .i64 til) ∧ w.cell? ⟨g', o', none⟩ = some (.int .i64 ad) ∧ w.cell? ⟨g', o' + 1, none⟩ = some (.int .i64 an) ∧ w.cell? ⟨g', o' + 2, none⟩ = some (.int .i64 til) := ⟨⟨h, h'⟩, h.1, h.2.1, h.2.2, h'⟩

set_option maxRecDepth 100000 in
set_option maxHeartbeats 4000000 in
theorem eqS (a b : Option Addr) (ms : List R) (ca cb : Nat) (w : World) (hm : ms.length ≤ 1048576) (hr : RM w a ms) (hr' : RM w b ms) :
    Calls Try.prog 57 #[.slice a ms.length ca, .slice b ms.length cb] w fun e w' => e = .returned (.bool true) ∧ Below w.heap.size w w' := by
  have HR := hide hr
  have HR' := hide hr'
  clear hr hr'
  generalize hN : ms.length = n at *
  have HN := hide hN
  clear hN
  go_enter Try.func57, Try.ntmps57
  go_wp2
  go_loopw [5] (fun i wr => ∃ j : Nat, j ≤ n ∧ i = .int .i64 j ∧ Hid (Below w.heap.size w wr)) (fun i _ => n - (intOf i).toNat)
  case atStart => exact ⟨0, by omega, rfl, hide (Below.refl _ _)⟩
  case round =>
    obtain ⟨j, hj, rfl, hbl⟩ := hrel
    by_cases hlt : (j : Int) < (n : Int)
    · have k0 : (0 : Int) ≤ (j : Int) := by omega
      have hlen : j < ms.length := by rw [unhide HN]; omega
      rcases (unhide HR).below (by exact (unhide hbl)) with e0 | ⟨g, off, rfl, hc⟩
      · exfalso; rw [e0] at hlen; simp at hlen
      rcases (unhide HR').below (by exact (unhide hbl)) with e0 | ⟨g', off', rfl, hc'⟩
      · exfalso; rw [e0] at hlen; simp at hlen
      have hA := hc j hlen
      have hA' := hc' j hlen
      clear hc hc'
      generalize ms.getD j R.zero = m at *
      obtain ⟨ad, an, til⟩ := m
      go_wp2_with fail
      go_region_held3 (fun w' => (At w' g (off + j * 3) ⟨ad, an, til⟩ ∧ At w' g' (off' + j * 3) ⟨ad, an, til⟩) ∧ w'.cell? ⟨g, off + j * 3, none⟩ = some (.int .i64 ad) ∧ w'.cell? ⟨g, off + j * 3 + 1, none⟩ = some (.int .i64 an) ∧ w'.cell? ⟨g, off + j * 3 + 2, none⟩ = some (.int .i64 til) ∧ w'.cell? ⟨g', off' + j * 3, none⟩ = some (.int .i64 ad) ∧ w'.cell? ⟨g', off' + j * 3 + 1, none⟩ = some (.int .i64 an) ∧ w'.cell? ⟨g', off' + j * 3 + 2, none⟩ = some (.int .i64 til))
        ((go_split_ands; exact sAt (by first | with_reducible assumption | (with_reducible refine At.drew ?_; with_reducible assumption) | (exact At.below (by with_reducible assumption) b1)) (by first | with_reducible assumption | (with_reducible refine At.drew ?_; with_reducible assumption) | (exact At.below (by with_reducible assumption) b1))))
        (first | (go_at_call 59; refine (eqR ad an til _).mono ?_; rintro e w1 ⟨rfl, b1⟩))
      have hb1 := hide ((unhide hbl).drew.trans (b1.mono (by show w.heap.size ≤ wr.heap.size; exact (unhide hbl).size)))
      go_wp2_with fail
      go_roundw
      case rel => exact ⟨j + 1, by omega, by go_num, hb1⟩
      case measure => simp [intOf]; omega
    · go_wp2
      go_ret
      exact ⟨rfl, unhide hbl⟩

/-- The marks from K on. -/
def markR (K : Int) : R := ⟨K, K + 1, K + 1 + 1⟩
def marks (K : Int) (n : Nat) : List R := (List.range n).map fun t : Nat => markR (K + 3 * (t : Int))
theorem marks_len (K : Int) (n : Nat) : (marks K n).length = n := by simp [marks]
theorem marks_at (K : Int) (n t : Nat) (h : t < n) : (marks K n).getD t R.zero = markR (K + 3 * (t : Int)) := by
  unfold marks
  rw [List.getD_eq_getElem?_getD, List.getElem?_map, List.getElem?_range h]; rfl
theorem grown_set {w w1 : World} {g o : Nat} {v : Value} (h : w.grownBy w1 (some g)) : w.grownBy (w1.setCell ⟨g, o, none⟩ v) (some g) :=
  ⟨h.os, h.tape, h.output, by have := h.size; simp [World.setCell]; exact this, fun k hk hne => (Below.heap_setCell _ _ _ _ (fun e => hne (by rw [e]))).trans (h.block k hk hne)⟩
theorem grown_put {w w1 : World} {g o : Nat} {m : R} (h : w.grownBy w1 (some g)) : w.grownBy (put w1 g o m) (some g) := grown_set (grown_set (grown_set (h)))

set_option maxHeartbeats 4000000 in
theorem markS (g n c : Nat) (K : Int) (ms : List R) (w : World) (hK : 0 ≤ K) (hK1 : K ≤ 1073741824) (hn : n ≤ 1048576) (hg : g < w.heap.size) (hU : Upto w g n n ms) :
    Calls Try.prog 40 #[.slice (some ⟨g, 0, none⟩) n c, .int .i64 K] w fun e w' => e = .returned (.int .i64 (K + 3 * (n : Int))) ∧ w.grownBy w' (some g) ∧ Upto w' g n n (marks K n) := by
  have hU0 : Hid (Upto w g n 0 (marks K n)) := hide ⟨fun i hi => by omega, hU.2⟩
  clear hU
  go_enter Try.func40, Try.ntmps40
  go_wp2
  go_loopw [1, 5] (fun q i wr => ∃ j : Nat, j ≤ n ∧ i = .int .i64 j ∧ q = .int .i64 (K + 3 * (j : Int)) ∧ Hid (w.grownBy wr (some g)) ∧ Hid (Upto wr g n j (marks K n))) (fun _ i _ => n - (intOf i).toNat)
  case atStart => exact ⟨0, by omega, rfl, by simp, hide ⟨rfl, rfl, rfl, Nat.le_refl _, fun _ _ _ => rfl⟩, hU0⟩
  case round =>
    obtain ⟨j, hj, rfl, rfl, hgr, hu⟩ := hrel
    by_cases hlt : (j : Int) < (n : Int)
    · have k0 : (0 : Int) ≤ (j : Int) := by omega
      obtain ⟨v0, x0⟩ := Option.isSome_iff_exists.1 ((unhide hu).2 (j * 3) (by omega)).1
      obtain ⟨v1, x1⟩ := Option.isSome_iff_exists.1 ((unhide hu).2 (j * 3 + 1) (by omega)).1
      obtain ⟨v2, x2⟩ := Option.isSome_iff_exists.1 ((unhide hu).2 (j * 3 + 2) (by omega)).1
      have y0 := ((unhide hu).2 (j * 3) (by omega)).2
      have y1 := ((unhide hu).2 (j * 3 + 1) (by omega)).2
      have y2 := ((unhide hu).2 (j * 3 + 2) (by omega)).2
      have hst := (unhide hu).step (by omega)
      rw [marks_at K n j (by omega)] at hst
      have HST := hide hst
      have HGN := hide (grown_put (o := j * 3) (m := markR (K + 3 * (j : Int))) (unhide hgr))
      clear hst
      generalize hq : K + 3 * (j : Int) = q at *
      have hq0 : 0 ≤ q := by omega
      have hq1 : q ≤ 1109393408 := by omega
      go_wp2_with fail
      exact ⟨⟨j + 1, by omega, by go_num, by go_num, HGN, HST⟩, by simp [intOf]; omega⟩
    · obtain rfl : j = n := by omega
      go_wp2
      go_ret
      exact ⟨rfl, unhide hgr, unhide hu⟩
theorem markS0 (a : Option Addr) (c : Nat) (K : Int) (w : World) :
    Calls Try.prog 40 #[.slice a 0 c, .int .i64 K] w fun e w' => e = .returned (.int .i64 K) ∧ w' = w := by
  go_enter Try.func40, Try.ntmps40
  go_wp2
  go_loop [1, 5] (fun q i => q = .int .i64 K ∧ i = .int .i64 0) (fun _ i => 0)
  case atStart => exact ⟨rfl, rfl⟩
  case round =>
    obtain ⟨rfl, rfl⟩ := hrel
    go_wp2
    go_ret
    exact ⟨rfl, rfl⟩
theorem heldS0 (a : Option Addr) (c : Nat) (K : Int) (w : World) :
    Calls Try.prog 45 #[.slice a 0 c, .int .i64 K] w fun e w' => e = .returned (.int .i64 K) ∧ w' = w := by
  go_enter Try.func45, Try.ntmps45
  go_wp2
  go_loop [1, 5] (fun q i => q = .int .i64 K ∧ i = .int .i64 0) (fun _ i => 0)
  case atStart => exact ⟨rfl, rfl⟩
  case round =>
    obtain ⟨rfl, rfl⟩ := hrel
    go_wp2
    go_ret
    exact ⟨rfl, rfl⟩

set_option maxHeartbeats 4000000 in
theorem heldS (g n c : Nat) (K : Int) (w : World) (hK : 0 ≤ K) (hK1 : K ≤ 1073741824) (hn : n ≤ 1048576) (hU : Upto w g n n (marks K n)) :
    Calls Try.prog 45 #[.slice (some ⟨g, 0, none⟩) n c, .int .i64 K] w fun e w' => e = .returned (.int .i64 (K + 3 * (n : Int))) ∧ w' = w := by
  have HU := hide hU
  clear hU
  go_enter Try.func45, Try.ntmps45
  go_wp2
  go_loopw [1, 5] (fun q i wr => wr = w ∧ ∃ j : Nat, j ≤ n ∧ i = .int .i64 j ∧ q = .int .i64 (K + 3 * (j : Int))) (fun _ i _ => n - (intOf i).toNat)
  case atStart => exact ⟨rfl, 0, by omega, rfl, by simp⟩
  case round =>
    obtain ⟨rfl, j, hj, rfl, rfl⟩ := hrel
    by_cases hlt : (j : Int) < (n : Int)
    · have k0 : (0 : Int) ≤ (j : Int) := by omega
      have hA := (unhide HU).1 j (by omega)
      rw [marks_at K n j (by omega)] at hA
      obtain ⟨c0, c1, c2⟩ := hA
      unfold markR at c0 c1 c2
      dsimp only at c0 c1 c2
      generalize hq : K + 3 * (j : Int) = q at *
      have hq0 : 0 ≤ q := by omega
      have hq1 : q ≤ 1109393408 := by omega
      go_wp2_with fail
      go_roundw
      case rel => exact ⟨by first | trivial | rfl, j + 1, by omega, by go_num, by go_num⟩
      case measure => simp [intOf]; omega
    · obtain rfl : j = n := by omega
      go_wp2
      go_ret
      exact ⟨by first | trivial | rfl, rfl⟩
/-- Marks on a list that may be written, whether it has any or not. -/
theorem markF (a : Option Addr) (c lo hi : Nat) (K : Int) (ms : List R) (w : World) (hK : 0 ≤ K) (hK1 : K ≤ 1073741824) (hn : ms.length ≤ 1048576) (h : Lst w a ms lo hi) :
    Calls Try.prog 40 #[.slice a ms.length c, .int .i64 K] w fun e w' => e = .returned (.int .i64 (K + 3 * (ms.length : Int))) ∧ w.heap.size ≤ w'.heap.size ∧ Below (min lo w.heap.size) w w' ∧ Lst w' a (marks K ms.length) lo hi ∧ ∀ k, k < w.heap.size → (k < lo ∨ hi ≤ k) → w'.heap[k]? = w.heap[k]? := by
  have hnil : ∀ w', w' = w → w.heap.size ≤ w'.heap.size ∧ Below (min lo w.heap.size) w w' ∧ ∀ k, k < w.heap.size → (k < lo ∨ hi ≤ k) → w'.heap[k]? = w.heap[k]? := by
    rintro w' rfl
    exact ⟨Nat.le_refl _, Below.refl _ _, fun _ _ _ => rfl⟩
  by_cases h0 : ms.length = 0
  · obtain rfl : ms = [] := List.eq_nil_of_length_eq_zero h0
    refine (markS0 a c K w).mono ?_
    rintro e w' ⟨rfl, hw⟩
    obtain ⟨q1, q2, q3⟩ := hnil w' hw
    exact ⟨by simp, q1, q2, .inl rfl, q3⟩
  rcases h with rfl | ⟨g, rfl, h1, h2, h3, hu⟩
  · simp at h0
  refine (markS g ms.length c K ms w hK hK1 hn h3 hu).mono ?_
  rintro e w' ⟨rfl, gr, hu'⟩
  exact ⟨rfl, gr.size, ⟨gr.os, gr.tape, gr.output, gr.size, fun k hk => gr.block k (by omega) (fun e => by cases e; omega)⟩, .inr ⟨g, rfl, h1, h2, Nat.lt_of_lt_of_le h3 gr.size, by rw [marks_len]; exact hu'⟩, fun k hk hne => gr.block k hk (fun e => by cases e; omega)⟩
theorem heldF (a : Option Addr) (c n lo hi : Nat) (K : Int) (w : World) (hK : 0 ≤ K) (hK1 : K ≤ 1073741824) (hn : n ≤ 1048576) (h : Lst w a (marks K n) lo hi) :
    Calls Try.prog 45 #[.slice a n c, .int .i64 K] w fun e w' => e = .returned (.int .i64 (K + 3 * (n : Int))) ∧ w' = w := by
  by_cases h0 : n = 0
  · subst h0
    refine (heldS0 a c K w).mono ?_
    rintro e w' ⟨rfl, rfl⟩
    exact ⟨by simp, rfl⟩
  rcases h with h | ⟨g, rfl, _, _, _, hu⟩
  · have := marks_len K n; rw [h] at this; simp at this; omega
  · rw [marks_len] at hu
    exact heldS g n c K w hK hK1 hn hu
end So
end Go.Proofs.Ytpmlpojefelbbaa
namespace Go.Proofs.Ytpmlpojefelbbaa
open Go.ChangeShapes Go.WideShapes Go.ChangeAt Go.RowKit
set_option linter.unusedVariables false
set_option maxRecDepth 100000
set_option linter.unusedSimpArgs false
attribute [local go_sem ↓] Go.wp_at_zero Go.wp_at_succ
namespace Ed
open W1
structure R where
  ad : Int
  mt : Int
def R.zero : R := ⟨0, 0⟩
/-- The value of one. -/
def R.value (m : R) : Value := .agg #[.int .i64 m.ad, .int .i64 m.mt]
/-- The cells of one, of a list of them. -/
def R.cells (m : R) : List Value := [.int .i64 m.ad, .int .i64 m.mt]
def flat (ms : List R) : List Value := ms.flatMap R.cells
/-- The cells of one that lies at an address. -/
def At (w : World) (g o : Nat) (m : R) : Prop :=
  w.cell? ⟨g, o, none⟩ = some (.int .i64 m.ad) ∧ w.cell? ⟨g, o + 1, none⟩ = some (.int .i64 m.mt)
/-- The slice at a reads as these. -/
def RM (w : World) (a : Option Addr) (ms : List R) : Prop :=
  ms = [] ∨ ∃ g off, a = some ⟨g, off, none⟩ ∧ ∀ i, i < ms.length → At w g (off + i * 2) (ms.getD i R.zero)
theorem At.below {w w' : World} {g o : Nat} {m : R} (h : At w g o m) (hb : Below w.heap.size w w') : At w' g o m := by
  have hg : g < w.heap.size := World.block_lt_of_cell? _ _ h.1
  obtain ⟨h0, h1⟩ := h
  refine ⟨?_, ?_⟩ <;> (rw [hb.cell hg]; assumption)
theorem At.drew {w : World} {g o : Nat} {m : R} (h : At w g o m) : At w.drew g o m := h
theorem RM.below {w w' : World} {a : Option Addr} {ms : List R} (h : RM w a ms) (hb : Below w.heap.size w w') : RM w' a ms := by
  rcases h with h | ⟨g, off, rfl, hc⟩
  · exact .inl h
  · exact .inr ⟨g, off, rfl, fun i hi => (hc i hi).below hb⟩
theorem RM.drew {w : World} {a : Option Addr} {ms : List R} (h : RM w a ms) : RM w.drew a ms := h
theorem RM.at {w : World} {g off : Nat} {ms : List R} {i : Nat} (h : RM w (some ⟨g, off, none⟩) ms) (hi : i < ms.length) : At w g (off + i * 2) (ms.getD i R.zero) := by
  rcases h with rfl | ⟨g', off', e, hc⟩
  · simp at hi
  · cases e; exact hc i hi
theorem RM.form {w : World} {a : Option Addr} {ms : List R} (h : RM w a ms) (h0 : 0 < ms.length) : ∃ g off, a = some ⟨g, off, none⟩ := by
  rcases h with rfl | ⟨g, off, e, _⟩
  · simp at h0
  · exact ⟨g, off, e⟩
theorem R.len (m : R) : m.cells.length = 2 := rfl
theorem flat_len (ms : List R) : (flat ms).length = ms.length * 2 := by
  unfold flat
  induction ms with
  | nil => rfl
  | cons m t ih => rw [List.flatMap_cons, List.length_append, ih, R.len, List.length_cons]; omega
theorem flat_append (xs ys : List R) : flat (xs ++ ys) = flat xs ++ flat ys := by unfold flat; rw [List.flatMap_append]
theorem flat_get : ∀ (ms : List R) (i j : Nat), j < 2 → i < ms.length → (flat ms)[i * 2 + j]? = (ms.getD i R.zero).cells[j]?
  | [], i, j, hj, hi => by simp at hi
  | m :: t, 0, j, hj, hi => by
    unfold flat
    rw [List.flatMap_cons, Nat.zero_mul, Nat.zero_add, List.getElem?_append_left (by rw [R.len]; exact hj)]; rfl
  | m :: t, i + 1, j, hj, hi => by
    have ih := flat_get t i j hj (by simpa using hi)
    unfold flat at ih ⊢
    rw [List.flatMap_cons, show (i + 1) * 2 + j = m.cells.length + (i * 2 + j) by rw [R.len]; omega, List.getElem?_append_right (by omega), Nat.add_sub_cancel_left, ih]; rfl
theorem cell_one {m : R} {u : Value} (h : u ∈ m.cells) : u.oneCell' = true := by
  unfold R.cells at h; simp only [List.mem_cons, List.not_mem_nil, or_false] at h
  rcases h with rfl | rfl <;> rfl
theorem flat_one_cell {ms : List R} {u : Value} (h : u ∈ flat ms) : u.oneCell' = true := by
  obtain ⟨m, _, hu⟩ := List.mem_flatMap.1 h; exact cell_one hu
theorem at_cells {w : World} {g o : Nat} {m : R} (h : At w g o m) : ∀ j u, m.cells[j]? = some u → w.cell? ⟨g, o + j, none⟩ = some u := by
  intro j u hj
  match j, hj with
  | 0, hj => simp [R.cells] at hj; subst hj; exact h.1
  | 1, hj => simp [R.cells] at hj; subst hj; exact h.2
  | n + 2, hj => simp [R.cells] at hj
theorem plain_add (b off k : Nat) : (⟨b, off, none⟩ : Addr).add k = ⟨b, off + k, none⟩ := by unfold Addr.add; split <;> simp_all
/-- A list that is read, cell by cell. -/
theorem RM.cells {w : World} {g off : Nat} {ms : List R} (h : RM w (some ⟨g, off, none⟩) ms) : ∀ j u, (flat ms)[j]? = some u → w.cell? ((⟨g, off, none⟩ : Addr).add j) = some u := by
  intro j u hj
  have hl : j < ms.length * 2 := by
    rw [← flat_len]; exact (List.getElem?_eq_some_iff.1 hj).1
  have hi : j / 2 < ms.length := by omega
  have e : j / 2 * 2 + j % 2 = j := by omega
  rw [← e, flat_get ms _ _ (by omega) hi] at hj
  rw [plain_add, ← e, ← Nat.add_assoc]
  exact at_cells (h.at hi) _ _ hj
/-- A row of one's own that holds a list. -/
theorem at_own {w : World} {base g n cap : Nat} {ms : List R} (hn : n = ms.length) (h : w.ownsRow base 79 2 (.slice (some ⟨g, 0, none⟩) n cap) n (flat ms)) (i : Nat) (hi : i < ms.length) : At w g (i * 2) (ms.getD i R.zero) := by
  have hc : ∀ j, j < 2 → ∀ u, (ms.getD i R.zero).cells[j]? = some u → w.cell? ⟨g, i * 2 + j, none⟩ = some u := by
    intro j hj u hu
    have := h.cells (g := g) rfl (i * 2 + j) u (by rw [flat_get ms i j hj hi]; exact hu)
    rw [plain_add, Nat.zero_add] at this
    exact this
  exact ⟨hc 0 (by omega) _ rfl, hc 1 (by omega) _ rfl⟩

/-- One laid at an address. -/
def put (w : World) (g o : Nat) (m : R) : World := (w.setCell ⟨g, o, none⟩ (.int .i64 m.ad)).setCell ⟨g, o + 1, none⟩ (.int .i64 m.mt)
theorem put_frozen (w : World) (g o : Nat) (m : R) (a : Addr) : (put w g o m).frozen? a = w.frozen? a := by
  unfold put; rw [World.frozen?_setCell, World.frozen?_setCell]
theorem put_far (w : World) (g o : Nat) (m : R) {b q : Nat} (h : b ≠ g ∨ q < o ∨ o + 2 ≤ q) : (put w g o m).cell? ⟨b, q, none⟩ = w.cell? ⟨b, q, none⟩ := by
  unfold put
  rw [World.cell?_setCell_other _ _ _ _ (by intro e; cases e <;> omega), World.cell?_setCell_other _ _ _ _ (by intro e; cases e <;> omega)]
theorem put_at (w : World) (g o : Nat) (m : R) (h : ∀ k, k < 2 → (w.cell? ⟨g, o + k, none⟩).isSome = true) : At (put w g o m) g o m := by
  obtain ⟨v0, h0⟩ := Option.isSome_iff_exists.1 (h 0 (by omega))
  obtain ⟨v1, h1⟩ := Option.isSome_iff_exists.1 (h 1 (by omega))
  rw [Nat.add_zero] at h0
  have n : ∀ {w : World} {v : Value} {a b : Nat}, a ≠ b → (w.setCell ⟨g, a, none⟩ v).cell? ⟨g, b, none⟩ = w.cell? ⟨g, b, none⟩ := fun {w v a b} e => World.cell?_setCell_other _ _ _ _ (by intro h; cases h; exact e rfl)
  unfold put
  refine ⟨?_, ?_⟩
  · rw [n (by omega), World.cell?_setCell_same _ _ _ h0]
  · rw [World.cell?_setCell_same _ _ _ ((n (by omega)).trans h1)]
theorem put_some (w : World) (g o : Nat) (m : R) (b q : Nat) (h : (w.cell? ⟨b, q, none⟩).isSome = true) : ((put w g o m).cell? ⟨b, q, none⟩).isSome = true := by
  obtain ⟨v, y0⟩ := Option.isSome_iff_exists.1 h
  unfold put
  obtain ⟨v1, y1⟩ := cell?_setCell_some (p := ⟨g, o, none⟩) (x := .int .i64 m.ad) y0
  obtain ⟨v2, y2⟩ := cell?_setCell_some (p := ⟨g, o + 1, none⟩) (x := .int .i64 m.mt) y1
  rw [y2]; rfl
/-- The first j stand at the head of block g, whose n times 2 cells may be written. -/
def Upto (w : World) (g n j : Nat) (ms : List R) : Prop :=
  (∀ i, i < j → At w g (i * 2) (ms.getD i R.zero)) ∧ ∀ i, i < n * 2 → (w.cell? ⟨g, i, none⟩).isSome = true ∧ w.frozen? ⟨g, i, none⟩ = false
theorem Upto.step {w : World} {g n j : Nat} {ms : List R} (h : Upto w g n j ms) (hj : j < n) : Upto (put w g (j * 2) (ms.getD j R.zero)) g n (j + 1) ms := by
  refine ⟨fun i hi => ?_, fun i hi => ⟨put_some _ _ _ _ _ _ (h.2 i hi).1, by rw [put_frozen]; exact (h.2 i hi).2⟩⟩
  by_cases e : i = j
  · subst e
    exact put_at _ _ _ _ (fun k hk => (h.2 _ (by omega)).1)
  · obtain ⟨h0, h1⟩ := h.1 i (by omega)
    exact ⟨(put_far _ _ _ _ (by omega)).trans h0, (put_far _ _ _ _ (by omega)).trans h1⟩
theorem Upto.below {w w' : World} {g n j : Nat} {ms : List R} (h : Upto w g n j ms) (hb : Below w.heap.size w w') (hg : g < w.heap.size) : Upto w' g n j ms :=
  ⟨fun i hi => (h.1 i hi).below hb, fun i hi => ⟨by rw [hb.cell (p := ⟨g, i, none⟩) hg]; exact (h.2 i hi).1, by rw [hb.frozen (p := ⟨g, i, none⟩) hg]; exact (h.2 i hi).2⟩⟩
theorem Upto.of_block {w w' : World} {g n j : Nat} {ms : List R} (h : Upto w g n j ms) (hb : w'.heap[g]? = w.heap[g]?) : Upto w' g n j ms := by
  have c : ∀ q, w'.cell? ⟨g, q, none⟩ = w.cell? ⟨g, q, none⟩ := fun q => World.cell?_of_block (a := ⟨g, q, none⟩) hb
  have f : ∀ q, w'.frozen? ⟨g, q, none⟩ = w.frozen? ⟨g, q, none⟩ := fun q => World.frozen?_of_block (a := ⟨g, q, none⟩) hb
  refine ⟨fun i hi => ?_, fun i hi => ⟨by rw [c]; exact (h.2 i hi).1, by rw [f]; exact (h.2 i hi).2⟩⟩
  obtain ⟨h0, h1⟩ := h.1 i hi
  exact ⟨(c _).trans h0, (c _).trans h1⟩
theorem rm_of {w : World} {g n : Nat} {ms : List R} (h : Upto w g n ms.length ms) : RM w (some ⟨g, 0, none⟩) ms := .inr ⟨g, 0, rfl, fun i hi => by rw [Nat.zero_add]; exact h.1 i hi⟩
theorem upto_own {w : World} {base g cap n : Nat} {ms : List R} (hn : n = ms.length) (h : w.ownsRow base 79 2 (.slice (some ⟨g, 0, none⟩) n cap) n (flat ms)) : Upto w g n n ms := by
  subst hn
  refine ⟨fun i hi => at_own rfl h i hi, fun i hi => ?_⟩
  obtain ⟨_, ⟨e, _⟩ | ⟨g', cap', cur, e, _, hg, h1, _, h3, _⟩⟩ := h
  · cases e
  · cases e
    have hlt : i < cur.size := by rw [h3]; exact Nat.lt_of_lt_of_le hi (Nat.mul_le_mul_right _ h1)
    refine ⟨?_, ?_⟩
    · simp [World.cell?, hg, hlt]
    · simp [World.frozen?, hg]
/-- A list between two bounds of the heap, in memory that may be written. -/
def Lst (W : World) (a : Option Addr) (ms : List R) (lo hi : Nat) : Prop := ms = [] ∨ ∃ g, a = some ⟨g, 0, none⟩ ∧ lo ≤ g ∧ g < hi ∧ g < W.heap.size ∧ Upto W g ms.length ms.length ms
theorem Lst.rm {W : World} {a : Option Addr} {ms : List R} {lo hi : Nat} (h : Lst W a ms lo hi) : RM W a ms := by
  rcases h with rfl | ⟨g, rfl, _, _, _, hu⟩
  · exact .inl rfl
  · exact rm_of hu
theorem Lst.below {W W' : World} {a : Option Addr} {ms : List R} {lo hi : Nat} (h : Lst W a ms lo hi) (hb : Below W.heap.size W W') : Lst W' a ms lo hi := by
  rcases h with rfl | ⟨g, rfl, h1, h2, h3, hu⟩
  · exact .inl rfl
  · exact .inr ⟨g, rfl, h1, h2, Nat.lt_of_lt_of_le h3 hb.size, hu.below hb h3⟩
theorem Lst.mono {W : World} {a : Option Addr} {ms : List R} {lo hi lo' hi' : Nat} (h : Lst W a ms lo hi) (h1 : lo' ≤ lo) (h2 : hi ≤ hi') : Lst W a ms lo' hi' := by
  rcases h with rfl | ⟨g, rfl, h3, h4, h5, hu⟩
  · exact .inl rfl
  · exact .inr ⟨g, rfl, by omega, by omega, h5, hu⟩
theorem Lst.but {W W' : World} {a : Option Addr} {ms : List R} {lo hi : Nat} {p : Nat → Prop} (h : Lst W a ms lo hi) (hs : W.heap.size ≤ W'.heap.size) (hb : ∀ k, k < W.heap.size → p k → W'.heap[k]? = W.heap[k]?) (hp : ∀ k, lo ≤ k → k < hi → p k) : Lst W' a ms lo hi := by
  rcases h with rfl | ⟨g, rfl, h1, h2, h3, hu⟩
  · exact .inl rfl
  · exact .inr ⟨g, rfl, h1, h2, Nat.lt_of_lt_of_le h3 hs, hu.of_block (hb g h3 (hp g h1 h2))⟩
/-- The same of a value. -/
def LstV (W : World) (v : Value) (ms : List R) (lo hi : Nat) : Prop := ∃ a c, v = .slice a ms.length c ∧ Lst W a ms lo hi
theorem LstV.below {W W' : World} {v : Value} {ms : List R} {lo hi : Nat} (h : LstV W v ms lo hi) (hb : Below W.heap.size W W') : LstV W' v ms lo hi := by
  obtain ⟨a, c, e, hl⟩ := h; exact ⟨a, c, e, hl.below hb⟩
theorem LstV.mono {W : World} {v : Value} {ms : List R} {lo hi lo' hi' : Nat} (h : LstV W v ms lo hi) (h1 : lo' ≤ lo) (h2 : hi ≤ hi') : LstV W v ms lo' hi' := by
  obtain ⟨a, c, e, hl⟩ := h; exact ⟨a, c, e, hl.mono h1 h2⟩
theorem lstV_nil (W : World) (a : Option Addr) (c lo hi : Nat) : LstV W (.slice a 0 c) [] lo hi := ⟨a, c, rfl, .inl rfl⟩
/-- A row of one's own as such a list. -/
theorem lst_own {w : World} {base n : Nat} {v : Value} {ms : List R} (hn : n = ms.length) (h : w.ownsRow base 79 2 v n (flat ms)) : LstV w v ms base w.heap.size := by
  unfold LstV
  have h' := h
  obtain ⟨hl, ⟨rfl, h0⟩ | ⟨g, cap, cur, rfl, hb, hg, _, _, _, _⟩⟩ := h
  · exact ⟨none, 0, by rw [← hn, h0], .inl (List.eq_nil_of_length_eq_zero (by omega))⟩
  · have hlt : g < w.heap.size := by
      rcases Nat.lt_or_ge g w.heap.size with h | h
      · exact h
      · rw [Array.getElem?_eq_none h] at hg; cases hg
    refine ⟨_, cap, by rw [hn], .inr ⟨g, rfl, hb, hlt, hlt, ?_⟩⟩
    have := upto_own hn h'
    rw [hn] at this; exact this


theorem infoR : ∃ i, Try.prog.info? 79 = some i ∧ i.zero = some (Value.agg #[.int .i64 0, .int .i64 0]) ∧ i.size = 2 ∧ i.bytes = 16 := by
  have h : (Try.prog.info? 79).map (fun i => (i.zero, i.size, i.bytes)) = some (some (Value.agg #[.int .i64 0, .int .i64 0]), 2, 16) := by kernel_rfl
  obtain ⟨i, hi, he⟩ := Option.map_eq_some_iff.1 h
  simp only [Prod.mk.injEq] at he
  exact ⟨i, hi, he.1, he.2.1, he.2.2⟩

/-- append of a list to a row of one's own, as a walk meets it. -/
theorem wpList_apS {ops : Array Oper} {rest : List Oper} {o : Oper} {a : Act} {Q : Exit → Act → World → Prop} {w : World} {base : Nat} {v : Value} {xs : List R} (hown : w.ownsRow base 79 2 v xs.length (flat xs)) (g off m c : Nat) (ms : List R) (hm : ms.length = m) (hr : RM w (some ⟨g, off, none⟩) ms) (hlen : xs.length + ms.length ≤ 4194304) (hbase : base ≤ w.heap.size)
    (hgd : o.guard = none) (s x : Operand) (ho : o.op = .call { callee := .builtin .append, args := #[s, x], argTypes := #[44, 44] }) (hs : a.eval s = v) (hx : a.eval x = .slice (some ⟨g, off, none⟩) m c)
    (h : ∀ v' w', w'.ownsRow base 79 2 v' (xs ++ ms).length (flat (xs ++ ms)) → w.grownBy w' v.ownBlock → wpList Try.prog ops Q rest (a.put o.dst v') w') : wpList Try.prog ops Q (o :: rest) a w := by
  subst hm
  obtain ⟨i0, hi, hz0, hz1, hz2⟩ := infoR
  refine wpList_append_own w hgd s x _ ho base 79 i0 _ 2 16 Try.underlying44 hi hz0 hz1 hz2 rfl (by decide) v xs.length (flat xs) hs hown ⟨g, off, none⟩ ms.length c (flat ms) hx (flat_len ms) hr.cells (fun u hu => flat_one_cell hu) (by unfold maxLen; omega) (by omega) hbase (fun v' w' h1 h2 _ => ?_)
  refine h v' w' ?_ h2
  rw [List.length_append, flat_append]; exact h1
theorem own_empty (w : World) (base : Nat) (hb : base ≤ w.heap.size) : (w.alloc (.cells #[] 79)).ownsRow base 79 2 (.slice (some ⟨w.heap.size, 0, none⟩) 0 0) ([] : List R).length (flat []) := World.ownsRow_made w #[] 0 hb (Nat.zero_le _) (by simp)
theorem own_nil (w : World) (base : Nat) : w.ownsRow base 79 2 (.slice none 0 0) ([] : List R).length (flat []) := World.ownsRow_nil w base _ _
theorem below_own {B : Nat} {w0 w w' : World} {base : Nat} {v : Value} {n : Nat} {xs : List Value} (h : Below B w0 w) (ho : w.ownsRow base 79 2 v n xs) (hg : w.grownBy w' v.ownBlock) (hb : B ≤ base) (hB : B ≤ w.heap.size) : Below B w0 w' :=
  h.grown hg hB (fun k hk => Nat.le_trans hb (ho.lt k hk).1)


set_option maxHeartbeats 1000000 in
theorem eqR (ad : Int) (mt : Int) (w : World) :
    Calls Try.prog 58 #[.agg #[.int .i64 ad, .int .i64 mt], .agg #[.int .i64 ad, .int .i64 mt]] w
      fun e w' => e = .returned (.bool true) ∧ Below w.heap.size w w' := by
  go_enter Try.func58, Try.ntmps58
  go_wp2
  go_ret
  repeat (first | exact ⟨rfl, Below.refl _ _⟩ | refine ⟨rfl, ?_⟩ | exact Below.refl _ _ | refine Below.alloc ?_ (by simp <;> omega) _)

theorem sAt {w : World} {g g' o o' : Nat} {ad mt : Int}  (h : At w g o ⟨ad, mt⟩) (h' : At w g' o' ⟨ad, mt⟩) :
    (At w g o ⟨ad, mt⟩ ∧ At w g' o' ⟨ad, mt⟩) ∧ w.cell? ⟨g, o, none⟩ = some (.int .i64 ad) ∧ w.cell? ⟨g, o + 1, none⟩ = some (.int .i64 mt) ∧ w.cell? ⟨g', o', none⟩ = some (.int .i64 ad) ∧ w.cell? ⟨g', o' + 1, none⟩ = some (.int .i64 mt) := ⟨⟨h, h'⟩, h.1, h.2, h'⟩

set_option maxRecDepth 100000 in
set_option maxHeartbeats 4000000 in
theorem eqS (a b : Option Addr) (ms : List R) (ca cb : Nat) (w : World) (hm : ms.length ≤ 1048576) (hr : RM w a ms) (hr' : RM w b ms) :
    Calls Try.prog 51 #[.slice a ms.length ca, .slice b ms.length cb] w fun e w' => e = .returned (.bool true) ∧ Below w.heap.size w w' := by
  have HR := hide hr
  have HR' := hide hr'
  clear hr hr'
  generalize hN : ms.length = n at *
  have HN := hide hN
  clear hN
  go_enter Try.func51, Try.ntmps51
  go_wp2
  go_loopw [5] (fun i wr => ∃ j : Nat, j ≤ n ∧ i = .int .i64 j ∧ Hid (Below w.heap.size w wr)) (fun i _ => n - (intOf i).toNat)
  case atStart => exact ⟨0, by omega, rfl, hide (Below.refl _ _)⟩
  case round =>
    obtain ⟨j, hj, rfl, hbl⟩ := hrel
    by_cases hlt : (j : Int) < (n : Int)
    · have k0 : (0 : Int) ≤ (j : Int) := by omega
      have hlen : j < ms.length := by rw [unhide HN]; omega
      rcases (unhide HR).below (by exact (unhide hbl)) with e0 | ⟨g, off, rfl, hc⟩
      · exfalso; rw [e0] at hlen; simp at hlen
      rcases (unhide HR').below (by exact (unhide hbl)) with e0 | ⟨g', off', rfl, hc'⟩
      · exfalso; rw [e0] at hlen; simp at hlen
      have hA := hc j hlen
      have hA' := hc' j hlen
      clear hc hc'
      generalize ms.getD j R.zero = m at *
      obtain ⟨ad, mt⟩ := m
      go_wp2_with fail
      go_region_held3 (fun w' => (At w' g (off + j * 2) ⟨ad, mt⟩ ∧ At w' g' (off' + j * 2) ⟨ad, mt⟩) ∧ w'.cell? ⟨g, off + j * 2, none⟩ = some (.int .i64 ad) ∧ w'.cell? ⟨g, off + j * 2 + 1, none⟩ = some (.int .i64 mt) ∧ w'.cell? ⟨g', off' + j * 2, none⟩ = some (.int .i64 ad) ∧ w'.cell? ⟨g', off' + j * 2 + 1, none⟩ = some (.int .i64 mt))
        ((go_split_ands; exact sAt (by first | with_reducible assumption | (with_reducible refine At.drew ?_; with_reducible assumption) | (exact At.below (by with_reducible assumption) b1)) (by first | with_reducible assumption | (with_reducible refine At.drew ?_; with_reducible assumption) | (exact At.below (by with_reducible assumption) b1))))
        (first | (go_at_call 58; refine (eqR ad mt _).mono ?_; rintro e w1 ⟨rfl, b1⟩))
      have hb1 := hide ((unhide hbl).drew.trans (b1.mono (by show w.heap.size ≤ wr.heap.size; exact (unhide hbl).size)))
      go_wp2_with fail
      go_roundw
      case rel => exact ⟨j + 1, by omega, by go_num, hb1⟩
      case measure => simp [intOf]; omega
    · go_wp2
      go_ret
      exact ⟨rfl, unhide hbl⟩

/-- The marks from K on. -/
def markR (K : Int) : R := ⟨K, K + 1⟩
def marks (K : Int) (n : Nat) : List R := (List.range n).map fun t : Nat => markR (K + 2 * (t : Int))
theorem marks_len (K : Int) (n : Nat) : (marks K n).length = n := by simp [marks]
theorem marks_at (K : Int) (n t : Nat) (h : t < n) : (marks K n).getD t R.zero = markR (K + 2 * (t : Int)) := by
  unfold marks
  rw [List.getD_eq_getElem?_getD, List.getElem?_map, List.getElem?_range h]; rfl
theorem grown_set {w w1 : World} {g o : Nat} {v : Value} (h : w.grownBy w1 (some g)) : w.grownBy (w1.setCell ⟨g, o, none⟩ v) (some g) :=
  ⟨h.os, h.tape, h.output, by have := h.size; simp [World.setCell]; exact this, fun k hk hne => (Below.heap_setCell _ _ _ _ (fun e => hne (by rw [e]))).trans (h.block k hk hne)⟩
theorem grown_put {w w1 : World} {g o : Nat} {m : R} (h : w.grownBy w1 (some g)) : w.grownBy (put w1 g o m) (some g) := grown_set (grown_set (h))

set_option maxHeartbeats 4000000 in
theorem markS (g n c : Nat) (K : Int) (ms : List R) (w : World) (hK : 0 ≤ K) (hK1 : K ≤ 1073741824) (hn : n ≤ 1048576) (hg : g < w.heap.size) (hU : Upto w g n n ms) :
    Calls Try.prog 41 #[.slice (some ⟨g, 0, none⟩) n c, .int .i64 K] w fun e w' => e = .returned (.int .i64 (K + 2 * (n : Int))) ∧ w.grownBy w' (some g) ∧ Upto w' g n n (marks K n) := by
  have hU0 : Hid (Upto w g n 0 (marks K n)) := hide ⟨fun i hi => by omega, hU.2⟩
  clear hU
  go_enter Try.func41, Try.ntmps41
  go_wp2
  go_loopw [1, 5] (fun q i wr => ∃ j : Nat, j ≤ n ∧ i = .int .i64 j ∧ q = .int .i64 (K + 2 * (j : Int)) ∧ Hid (w.grownBy wr (some g)) ∧ Hid (Upto wr g n j (marks K n))) (fun _ i _ => n - (intOf i).toNat)
  case atStart => exact ⟨0, by omega, rfl, by simp, hide ⟨rfl, rfl, rfl, Nat.le_refl _, fun _ _ _ => rfl⟩, hU0⟩
  case round =>
    obtain ⟨j, hj, rfl, rfl, hgr, hu⟩ := hrel
    by_cases hlt : (j : Int) < (n : Int)
    · have k0 : (0 : Int) ≤ (j : Int) := by omega
      obtain ⟨v0, x0⟩ := Option.isSome_iff_exists.1 ((unhide hu).2 (j * 2) (by omega)).1
      obtain ⟨v1, x1⟩ := Option.isSome_iff_exists.1 ((unhide hu).2 (j * 2 + 1) (by omega)).1
      have y0 := ((unhide hu).2 (j * 2) (by omega)).2
      have y1 := ((unhide hu).2 (j * 2 + 1) (by omega)).2
      have hst := (unhide hu).step (by omega)
      rw [marks_at K n j (by omega)] at hst
      have HST := hide hst
      have HGN := hide (grown_put (o := j * 2) (m := markR (K + 2 * (j : Int))) (unhide hgr))
      clear hst
      generalize hq : K + 2 * (j : Int) = q at *
      have hq0 : 0 ≤ q := by omega
      have hq1 : q ≤ 1109393408 := by omega
      go_wp2_with fail
      exact ⟨⟨j + 1, by omega, by go_num, by go_num, HGN, HST⟩, by simp [intOf]; omega⟩
    · obtain rfl : j = n := by omega
      go_wp2
      go_ret
      exact ⟨rfl, unhide hgr, unhide hu⟩
theorem markS0 (a : Option Addr) (c : Nat) (K : Int) (w : World) :
    Calls Try.prog 41 #[.slice a 0 c, .int .i64 K] w fun e w' => e = .returned (.int .i64 K) ∧ w' = w := by
  go_enter Try.func41, Try.ntmps41
  go_wp2
  go_loop [1, 5] (fun q i => q = .int .i64 K ∧ i = .int .i64 0) (fun _ i => 0)
  case atStart => exact ⟨rfl, rfl⟩
  case round =>
    obtain ⟨rfl, rfl⟩ := hrel
    go_wp2
    go_ret
    exact ⟨rfl, rfl⟩
theorem heldS0 (a : Option Addr) (c : Nat) (K : Int) (w : World) :
    Calls Try.prog 46 #[.slice a 0 c, .int .i64 K] w fun e w' => e = .returned (.int .i64 K) ∧ w' = w := by
  go_enter Try.func46, Try.ntmps46
  go_wp2
  go_loop [1, 5] (fun q i => q = .int .i64 K ∧ i = .int .i64 0) (fun _ i => 0)
  case atStart => exact ⟨rfl, rfl⟩
  case round =>
    obtain ⟨rfl, rfl⟩ := hrel
    go_wp2
    go_ret
    exact ⟨rfl, rfl⟩

set_option maxHeartbeats 4000000 in
theorem heldS (g n c : Nat) (K : Int) (w : World) (hK : 0 ≤ K) (hK1 : K ≤ 1073741824) (hn : n ≤ 1048576) (hU : Upto w g n n (marks K n)) :
    Calls Try.prog 46 #[.slice (some ⟨g, 0, none⟩) n c, .int .i64 K] w fun e w' => e = .returned (.int .i64 (K + 2 * (n : Int))) ∧ w' = w := by
  have HU := hide hU
  clear hU
  go_enter Try.func46, Try.ntmps46
  go_wp2
  go_loopw [1, 5] (fun q i wr => wr = w ∧ ∃ j : Nat, j ≤ n ∧ i = .int .i64 j ∧ q = .int .i64 (K + 2 * (j : Int))) (fun _ i _ => n - (intOf i).toNat)
  case atStart => exact ⟨rfl, 0, by omega, rfl, by simp⟩
  case round =>
    obtain ⟨rfl, j, hj, rfl, rfl⟩ := hrel
    by_cases hlt : (j : Int) < (n : Int)
    · have k0 : (0 : Int) ≤ (j : Int) := by omega
      have hA := (unhide HU).1 j (by omega)
      rw [marks_at K n j (by omega)] at hA
      obtain ⟨c0, c1⟩ := hA
      unfold markR at c0 c1
      dsimp only at c0 c1
      generalize hq : K + 2 * (j : Int) = q at *
      have hq0 : 0 ≤ q := by omega
      have hq1 : q ≤ 1109393408 := by omega
      go_wp2_with fail
      go_roundw
      case rel => exact ⟨by first | trivial | rfl, j + 1, by omega, by go_num, by go_num⟩
      case measure => simp [intOf]; omega
    · obtain rfl : j = n := by omega
      go_wp2
      go_ret
      exact ⟨by first | trivial | rfl, rfl⟩
/-- Marks on a list that may be written, whether it has any or not. -/
theorem markF (a : Option Addr) (c lo hi : Nat) (K : Int) (ms : List R) (w : World) (hK : 0 ≤ K) (hK1 : K ≤ 1073741824) (hn : ms.length ≤ 1048576) (h : Lst w a ms lo hi) :
    Calls Try.prog 41 #[.slice a ms.length c, .int .i64 K] w fun e w' => e = .returned (.int .i64 (K + 2 * (ms.length : Int))) ∧ w.heap.size ≤ w'.heap.size ∧ Below (min lo w.heap.size) w w' ∧ Lst w' a (marks K ms.length) lo hi ∧ ∀ k, k < w.heap.size → (k < lo ∨ hi ≤ k) → w'.heap[k]? = w.heap[k]? := by
  have hnil : ∀ w', w' = w → w.heap.size ≤ w'.heap.size ∧ Below (min lo w.heap.size) w w' ∧ ∀ k, k < w.heap.size → (k < lo ∨ hi ≤ k) → w'.heap[k]? = w.heap[k]? := by
    rintro w' rfl
    exact ⟨Nat.le_refl _, Below.refl _ _, fun _ _ _ => rfl⟩
  by_cases h0 : ms.length = 0
  · obtain rfl : ms = [] := List.eq_nil_of_length_eq_zero h0
    refine (markS0 a c K w).mono ?_
    rintro e w' ⟨rfl, hw⟩
    obtain ⟨q1, q2, q3⟩ := hnil w' hw
    exact ⟨by simp, q1, q2, .inl rfl, q3⟩
  rcases h with rfl | ⟨g, rfl, h1, h2, h3, hu⟩
  · simp at h0
  refine (markS g ms.length c K ms w hK hK1 hn h3 hu).mono ?_
  rintro e w' ⟨rfl, gr, hu'⟩
  exact ⟨rfl, gr.size, ⟨gr.os, gr.tape, gr.output, gr.size, fun k hk => gr.block k (by omega) (fun e => by cases e; omega)⟩, .inr ⟨g, rfl, h1, h2, Nat.lt_of_lt_of_le h3 gr.size, by rw [marks_len]; exact hu'⟩, fun k hk hne => gr.block k hk (fun e => by cases e; omega)⟩
theorem heldF (a : Option Addr) (c n lo hi : Nat) (K : Int) (w : World) (hK : 0 ≤ K) (hK1 : K ≤ 1073741824) (hn : n ≤ 1048576) (h : Lst w a (marks K n) lo hi) :
    Calls Try.prog 46 #[.slice a n c, .int .i64 K] w fun e w' => e = .returned (.int .i64 (K + 2 * (n : Int))) ∧ w' = w := by
  by_cases h0 : n = 0
  · subst h0
    refine (heldS0 a c K w).mono ?_
    rintro e w' ⟨rfl, rfl⟩
    exact ⟨by simp, rfl⟩
  rcases h with h | ⟨g, rfl, _, _, _, hu⟩
  · have := marks_len K n; rw [h] at this; simp at this; omega
  · rw [marks_len] at hu
    exact heldS g n c K w hK hK1 hn hu
end Ed
end Go.Proofs.Ytpmlpojefelbbaa
namespace Go.Proofs.Ytpmlpojefelbbaa
open Go.ChangeShapes Go.WideShapes Go.ChangeAt Go.RowKit
set_option linter.unusedVariables false
set_option linter.unusedSimpArgs false
set_option maxRecDepth 100000
namespace Nt
open W1 Rt
/-- A router: its numbers and its lists. -/
structure Rm where
  x1 : Int
  x2 : Int
  x3 : Int
  x4 : Int
  x5 : Int
  x6 : Int
  ls : List Lk.R
  tw : List Tu.R
  se : List Tu.R
  du : List Tu.R
  ss : List So.R
  es : List Tu.R
  la : List Ed.R
/-- Where its lists lie, and their capacities. -/
structure Pl where
  a1 : Option Addr
  a2 : Option Addr
  a3 : Option Addr
  a4 : Option Addr
  a5 : Option Addr
  a6 : Option Addr
  a7 : Option Addr
  c1 : Nat
  c2 : Nat
  c3 : Nat
  c4 : Nat
  c5 : Nat
  c6 : Nat
  c7 : Nat
def Rm.zero : Rm := ⟨0, 0, 0, 0, 0, 0, [], [], [], [], [], [], []⟩
def Pl.zero : Pl := ⟨none, none, none, none, none, none, none, 0, 0, 0, 0, 0, 0, 0⟩
/-- Its cells. -/
def cl (m : Rm) (p : Pl) : List Value := rC m.x1 m.x2 m.x3 m.x4 m.x5 (.slice p.a1 m.ls.length p.c1) (.slice p.a2 m.tw.length p.c2) (.slice p.a3 m.se.length p.c3) (.slice p.a4 m.du.length p.c4) (.slice p.a5 m.ss.length p.c5) (.slice p.a6 m.es.length p.c6) (.slice p.a7 m.la.length p.c7) m.x6
theorem cl_len (m : Rm) (p : Pl) : (cl m p).length = 13 := rfl
theorem cl_ones (m : Rm) (p : Pl) : ones (cl m p) := rC_ones rfl rfl rfl rfl rfl rfl rfl
def Rd (w : World) (m : Rm) (p : Pl) : Prop := Lk.RM w p.a1 m.ls ∧ Tu.RM w p.a2 m.tw ∧ Tu.RM w p.a3 m.se ∧ Tu.RM w p.a4 m.du ∧ So.RM w p.a5 m.ss ∧ Tu.RM w p.a6 m.es ∧ Ed.RM w p.a7 m.la
theorem Rd.below {w w' : World} {m : Rm} {p : Pl} (h : Rd w m p) (hb : Below w.heap.size w w') : Rd w' m p := ⟨h.1.below hb, h.2.1.below hb, h.2.2.1.below hb, h.2.2.2.1.below hb, h.2.2.2.2.1.below hb, h.2.2.2.2.2.1.below hb, h.2.2.2.2.2.2.below hb⟩
theorem Rd.drew {w : World} {m : Rm} {p : Pl} (h : Rd w m p) : Rd w.drew m p := h
/-- Each list has an address of its own. -/
def Ad (p : Pl) : Prop := (∃ g, p.a1 = some ⟨g, 0, none⟩) ∧ (∃ g, p.a2 = some ⟨g, 0, none⟩) ∧ (∃ g, p.a3 = some ⟨g, 0, none⟩) ∧ (∃ g, p.a4 = some ⟨g, 0, none⟩) ∧ (∃ g, p.a5 = some ⟨g, 0, none⟩) ∧ (∃ g, p.a6 = some ⟨g, 0, none⟩) ∧ (∃ g, p.a7 = some ⟨g, 0, none⟩)
/-- How many elements its lists have. -/
def cnt (m : Rm) : Int := (m.ls.length : Int) + (m.tw.length : Int) + (m.se.length : Int) + (m.du.length : Int) + (m.ss.length : Int) + (m.es.length : Int) + (m.la.length : Int)
def Sm (m : Rm) : Prop := m.ls.length ≤ 1048576 ∧ m.tw.length ≤ 1048576 ∧ m.se.length ≤ 1048576 ∧ m.du.length ≤ 1048576 ∧ m.ss.length ≤ 1048576 ∧ m.es.length ≤ 1048576 ∧ m.la.length ≤ 1048576
/-- The slice at a reads as these routers, whose lists lie as ps says. -/
def NR (w : World) (a : Option Addr) (ms : List Rm) (ps : List Pl) : Prop :=
  ms = [] ∨ ∃ g off, a = some ⟨g, off, none⟩ ∧ ∀ i, i < ms.length → w.rangeAt g (off + i * 13) (cl (ms.getD i Rm.zero) (ps.getD i Pl.zero)) ∧ Rd w (ms.getD i Rm.zero) (ps.getD i Pl.zero)
theorem rng_lt {w : World} {g o : Nat} {m : Rm} {p : Pl} (h : w.rangeAt g o (cl m p)) : g < w.heap.size := World.block_lt_of_cell? _ _ (h 0 (.int .i64 m.x1) rfl)
theorem rng_under {w w' : World} {B g o : Nat} {cs : List Value} (h : w.rangeAt g o cs) (hb : Below B w w') (hg : g < B) : w'.rangeAt g o cs := fun j u hu => (hb.cell (p := ⟨g, o + j, none⟩) hg).trans (h j u hu)
theorem rng_below {w w' : World} {g o : Nat} {m : Rm} {p : Pl} (h : w.rangeAt g o (cl m p)) (hb : Below w.heap.size w w') : w'.rangeAt g o (cl m p) := rng_under h hb (rng_lt h)
theorem NR.below {w w' : World} {a : Option Addr} {ms : List Rm} {ps : List Pl} (h : NR w a ms ps) (hb : Below w.heap.size w w') : NR w' a ms ps := by
  rcases h with h | ⟨g, off, rfl, hc⟩
  · exact .inl h
  · exact .inr ⟨g, off, rfl, fun i hi => ⟨rng_below (hc i hi).1 hb, (hc i hi).2.below hb⟩⟩
theorem NR.drew {w : World} {a : Option Addr} {ms : List Rm} {ps : List Pl} (h : NR w a ms ps) : NR w.drew a ms ps := h
/-- The one at a place. -/
theorem NR.at {w : World} {a : Option Addr} {ms : List Rm} {ps : List Pl} (h : NR w a ms ps) {i : Nat} (hi : i < ms.length) : ∃ g off, a = some ⟨g, off, none⟩ ∧ w.rangeAt g (off + i * 13) (cl (ms.getD i Rm.zero) (ps.getD i Pl.zero)) ∧ Rd w (ms.getD i Rm.zero) (ps.getD i Pl.zero) := by
  rcases h with rfl | ⟨g, off, rfl, hc⟩
  · simp at hi
  · exact ⟨g, off, rfl, hc i hi⟩
/-- A router read whole out of a row. -/
theorem loadI {ops : Array Oper} {rest : List Oper} {op : Oper} {a : Act} {w : World} {Q : Exit → Act → World → Prop} (x : Operand) (hgd : op.guard = none) (ho : op.op = .load 46 x) {b o : Nat} {m : Rm} {p : Pl} (h : w.rangeAt b o (cl m p)) (hx : a.eval x = .pointer (some ⟨b, o, none⟩))
    (hk : wpList Try.prog ops Q rest (a.put op.dst (.agg (cl m p).toArray)) w) : wpList Try.prog ops Q (op :: rest) a w :=
  wpList_load_mid hgd 46 x ho b o hx (cl m p) _ h infoR.1 infoR.2.1 infoR.2.2 hk
theorem execI {op : Oper} {a : Act} {w : World} (x : Operand) (ho : op.op = .load 46 x) {b o : Nat} {m : Rm} {p : Pl} (hx : a.eval x = .pointer (some ⟨b, o, none⟩)) (h : w.rangeAt b o (cl m p)) : (execOp a.eval op).run Try.prog w = .ok (.value (.agg (cl m p).toArray)) w := by
  unfold execOp
  simp only [ho, hx, Instr.loadAt, Instr.sureAddr, Sem.run_bind, Sem.run_pure, Result.andThen_ok, run_loadVar_mid w b o 46 (cl m p) _ h infoR.1 infoR.2.1 infoR.2.2]
end Nt
end Go.Proofs.Ytpmlpojefelbbaa
namespace Go.Proofs.Ytpmlpojefelbbaa
set_option linter.unusedVariables false
namespace St
open W1 Tu
/-- The first place at which something holds, or the list's length. -/
def placeP (p : R → Bool) (ms : List R) : Nat := (ms.takeWhile fun m => !p m).length
def atKey (k : Int) (m : R) : Bool := decide (k ≤ m.key)
/-- Where a key stands, or would; whether it is there. -/
def place (ms : List R) (k : Int) : Nat := placeP (atKey k) ms
end St
end Go.Proofs.Ytpmlpojefelbbaa
namespace Go.Proofs.Ytpmlpojefelbbaa
set_option linter.unusedVariables false
namespace St
open W1 Tu
end St
end Go.Proofs.Ytpmlpojefelbbaa
namespace Go.Proofs.Ytpmlpojefelbbaa
open Go.ChangeShapes Go.WideShapes Go.ChangeAt Go.RowKit
namespace St
open W1 Tu
end St
end Go.Proofs.Ytpmlpojefelbbaa
namespace Go.Proofs.Ytpmlpojefelbbaa
set_option linter.unusedVariables false
namespace Tw
open W1 Tu St
def hv (m : R) : Int := m.key.tdiv 100
def ha (m : R) : Int := m.key.tmod 100
end Tw
end Go.Proofs.Ytpmlpojefelbbaa
namespace Go.Proofs.Ytpmlpojefelbbaa
set_option linter.unusedVariables false
namespace Ri
open W1
variable {α : Type} (z : α) (ok : α → Bool) (key : α → Int)
def step (ms : List α) (i : Nat) : Bool := ok (ms.getD i z) && (decide (i = 0) || decide (key (ms.getD (i - 1) z) < key (ms.getD i z)))
def all (ms : List α) (j : Nat) : Bool := (List.range j).all (step z ok key ms)
variable {z ok key} {ms : List α} {j : Nat}
end Ri
end Go.Proofs.Ytpmlpojefelbbaa
namespace Go.Proofs.Ytpmlpojefelbbaa
set_option linter.unusedVariables false
set_option linter.unusedSimpArgs false
namespace Pl
variable {α : Type}
/-- The first place at which something holds, or the list's length. -/
def place (p : α → Bool) (ms : List α) : Nat := (ms.takeWhile fun m => !p m).length
end Pl
namespace Tp
open W1 Tu St Tw
end Tp
end Go.Proofs.Ytpmlpojefelbbaa
namespace Go.Proofs.Ytpmlpojefelbbaa
open Go.ChangeShapes Go.WideShapes Go.ChangeAt Go.RowKit
set_option linter.unusedVariables false
set_option maxRecDepth 100000
set_option linter.unusedSimpArgs false
namespace Mt
open W1 Tu Tw Go.Maps
end Mt
end Go.Proofs.Ytpmlpojefelbbaa
namespace Go.Proofs.Ytpmlpojefelbbaa
namespace Rg
variable {P : Program} {ops : Array Oper} {Q : Exit → Act → World → Prop} {md : Region.Mode} {S : World → Prop}
/-- An operation that yields v into slot d. -/
theorem tk {i d : Nat} {oi : Oper} {v : Value} {fuel : Nat} {listed : Array Bool} {a : Act} {w : World} (hi : ops[i]? = some oi) (hd : oi.dst = some d)
    (hs : Region.noSelect ops = true) (hf : Region.free md ops listed i = true) (hr : (Region.ready md ops listed).contains i = true)
    (hQ : ∀ c a w, Q (.panic c) (a.put oi.dst v) w → Q (.panic c) a w) (hy : Region.wanted oi (yielded ops a.tmps) = true) (hv : ∀ w, S w → (execOp a.eval oi).run P w = .ok (.value v) w) (hS : S w)
    (h : wpAnyH P md ops Q S fuel (listed.setIfInBounds i true) (a.put (some d) v) w) : wpAnyH P md ops Q S (fuel + 1) listed a w :=
  wpAnyH_take hi hs hf hr hQ (.inl ⟨hy, hv⟩) hS (by rw [hd]; exact h)
/-- An operation that its guard bars. -/
theorem sk {i d : Nat} {oi : Oper} {fuel : Nat} {listed : Array Bool} {a : Act} {w : World} (hi : ops[i]? = some oi) (hd : oi.dst = some d)
    (hs : Region.noSelect ops = true) (hf : Region.free md ops listed i = true) (hr : (Region.ready md ops listed).contains i = true)
    (hQ : ∀ c a w, Q (.panic c) (a.put oi.dst undef) w → Q (.panic c) a w) (hy : Region.wanted oi (yielded ops a.tmps) = false) (hS : S w)
    (h : wpAnyH P md ops Q S fuel (listed.setIfInBounds i true) (a.put (some d) undef) w) : wpAnyH P md ops Q S (fuel + 1) listed a w :=
  wpAnyH_take hi hs hf hr hQ (.inr ⟨hy, rfl⟩) hS (by rw [hd]; exact h)
/-- tk, its conditions paid by themselves (the value is read off by the walk). -/
theorem t {oi : Oper} {v : Value} {fuel : Nat} {listed l' : Array Bool} {a a' : Act} {w : World} (i d : Nat) (h : wpAnyH P md ops Q S fuel l' a' w) (hi : ops[i]? = some oi := by exact rfl) (hd : oi.dst = some d := by exact rfl)
    (hs : Region.noSelect ops = true := by kernel_rfl) (hf : Region.free md ops listed i = true := by kernel_rfl) (hr : (Region.ready md ops listed).contains i = true := by kernel_rfl)
    (hQ : ∀ c a w, Q (.panic c) (a.put oi.dst v) w → Q (.panic c) a w := by exact fun _ _ _ h => h) (hy : Region.wanted oi (yielded ops a.tmps) = true := by rfl)
    (hv : ∀ w, S w → (execOp a.eval oi).run P w = .ok (.value v) w := by (intro w0 hSw; (try dsimp only at hSw); go_simp; (try with_reducible rfl))) (hS : S w := by assumption)
    (hl : listed.setIfInBounds i true = l' := by ((try simp only [List.setIfInBounds_toArray, List.set_cons_zero, List.set_cons_succ]); exact rfl)) (ha : a.put (some d) v = a' := by ((try simp only [Act.put, List.setIfInBounds_toArray, List.set_cons_zero, List.set_cons_succ]); exact rfl))
    : wpAnyH P md ops Q S (fuel + 1) listed a w :=
  tk hi hd hs hf hr hQ hy hv hS (by rw [hl, ha]; exact h)
/-- sk, likewise. -/
theorem s {oi : Oper} {fuel : Nat} {listed l' : Array Bool} {a a' : Act} {w : World} (i d : Nat) (h : wpAnyH P md ops Q S fuel l' a' w) (hi : ops[i]? = some oi := by exact rfl) (hd : oi.dst = some d := by exact rfl)
    (hs : Region.noSelect ops = true := by kernel_rfl) (hf : Region.free md ops listed i = true := by kernel_rfl) (hr : (Region.ready md ops listed).contains i = true := by kernel_rfl)
    (hQ : ∀ c a w, Q (.panic c) (a.put oi.dst undef) w → Q (.panic c) a w := by exact fun _ _ _ h => h) (hy : Region.wanted oi (yielded ops a.tmps) = false := by first | kernel_rfl | rfl) (hS : S w := by assumption)
    (hl : listed.setIfInBounds i true = l' := by ((try simp only [List.setIfInBounds_toArray, List.set_cons_zero, List.set_cons_succ]); exact rfl)) (ha : a.put (some d) undef = a' := by ((try simp only [Act.put, List.setIfInBounds_toArray, List.set_cons_zero, List.set_cons_succ]); exact rfl))
    : wpAnyH P md ops Q S (fuel + 1) listed a w :=
  sk hi hd hs hf hr hQ hy hS (by rw [hl, ha]; exact h)
/-- One operation alone comes up. -/
theorem o {oi : Oper} {fuel : Nat} {listed : Array Bool} {a : Act} {w : World} (i : Nat) (h : ∀ K' : Act → World → Prop, Shut (∀ a w, S w → (S w → wpAnyH P md ops Q S fuel (listed.setIfInBounds i true) a w) → K' a w) → if Region.wanted oi (yielded ops a.tmps) = true then Oper.wp P oi a w K' Q else K' (a.put oi.dst undef) w) (hr : Region.ready md ops listed = [i] := by kernel_rfl) (ho : ops[i]? = some oi := by exact rfl)
    : wpAnyH P md ops Q S (fuel + 1) listed a w :=
  wpAnyH_ready hr (by simp) (AllReadyH.cons ho h AllReadyH.nil)
/-- An operation whose guard lets it pass. -/
theorem y {rest : List Oper} {op : Oper} {a : Act} {w : World} (hw : Region.wanted op (yielded ops a.tmps) = true) (h : ∀ K : Act → World → Prop, (∀ a w, wpList P ops Q rest a w → K a w) → op.wp P a w K Q) : wpList P ops Q (op :: rest) a w :=
  wpList_step fun K hK => by rw [if_pos hw]; exact h K hK
/-- An operation that its guard bars. -/
theorem n {rest : List Oper} {op : Oper} {a : Act} {w : World} (hw : Region.wanted op (yielded ops a.tmps) = false) (h : wpList P ops Q rest (a.put op.dst undef) w) : wpList P ops Q (op :: rest) a w :=
  wpList_step fun K hK => by rw [if_neg (by rw [hw]; exact Bool.false_ne_true)]; exact hK _ _ h
end Rg
end Go.Proofs.Ytpmlpojefelbbaa
