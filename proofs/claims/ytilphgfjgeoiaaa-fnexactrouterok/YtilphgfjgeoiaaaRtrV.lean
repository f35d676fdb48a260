/-
  A router in a block of thirteen cells: read whole, written whole, laid anew, handed back.
-/
import Derived.Test.YtilphgfjgeoiaaaWire1
import Derived.Deep.MidRow
import Derived.Deep.WholeRow
namespace Go.Proofs.Ytilphgfjgeoiaaa
open Go.ChangeShapes Go.WideShapes Go.ChangeAt Go.RowKit
set_option linter.unusedVariables false
set_option linter.unusedSimpArgs false
namespace Rt
open W1
/-- A router's cells: five numbers, seven lists, a number. -/
def rC (x1 x2 x3 x4 x5 : Int) (v1 v2 v3 v4 v5 v6 v7 : Value) (x6 : Int) : List Value := [.int .i64 x1, .int .i64 x2, .int .i64 x3, .int .i64 x4, .int .i64 x5, v1, v2, v3, v4, v5, v6, v7, .int .i64 x6]
def ones (cs : List Value) : Prop := cs.length = 13 ∧ ∀ v ∈ cs, v.oneCell' = true
theorem rC_ones {x1 x2 x3 x4 x5 : Int} {v1 v2 v3 v4 v5 v6 v7 : Value} {x6 : Int} (h1 : v1.oneCell' = true) (h2 : v2.oneCell' = true) (h3 : v3.oneCell' = true) (h4 : v4.oneCell' = true) (h5 : v5.oneCell' = true) (h6 : v6.oneCell' = true) (h7 : v7.oneCell' = true) : ones (rC x1 x2 x3 x4 x5 v1 v2 v3 v4 v5 v6 v7 x6) := by
  refine ⟨rfl, ?_⟩
  intro v hv
  unfold rC at hv
  simp only [List.mem_cons, List.not_mem_nil, or_false] at hv
  rcases hv with rfl | rfl | rfl | rfl | rfl | rfl | rfl | rfl | rfl | rfl | rfl | rfl | rfl <;> first | rfl | assumption
def RA (w : World) (b : Nat) (cs : List Value) : Prop := w.rangeAt b 0 cs ∧ w.there b 0 13 ∧ cs.length = 13
theorem RA.at {w : World} {b : Nat} {cs : List Value} (h : RA w b cs) {i : Nat} {v : Value} (hi : cs[i]? = some v) : w.cell? ⟨b, i, none⟩ = some v := by
  have := h.1 i v hi; rwa [Nat.zero_add] at this
theorem RA.lt {w : World} {b : Nat} {cs : List Value} (h : RA w b cs) : b < w.heap.size := by
  obtain ⟨u, hu⟩ := Option.isSome_iff_exists.1 (h.2.1 0 (by omega)).1
  exact World.block_lt_of_cell? _ _ hu
theorem RA.free {w : World} {b : Nat} {cs : List Value} (h : RA w b cs) {i : Nat} (hi : i < 13) : w.frozen? ⟨b, i, none⟩ = false := by
  have := (h.2.1 i hi).2; rwa [Nat.zero_add] at this
theorem RA.under {w w' : World} {B b : Nat} {cs : List Value} (h : RA w b cs) (hb : Below B w w') (hg : b < B) : RA w' b cs :=
  ⟨fun j v hv => (hb.cell (p := ⟨b, 0 + j, none⟩) hg).trans (h.1 j v hv), fun j hj => ⟨by rw [hb.cell (p := ⟨b, 0 + j, none⟩) hg]; exact (h.2.1 j hj).1, by rw [hb.frozen (p := ⟨b, 0 + j, none⟩) hg]; exact (h.2.1 j hj).2⟩, h.2.2⟩
theorem RA.below {w w' : World} {b : Nat} {cs : List Value} (h : RA w b cs) (hb : Below w.heap.size w w') : RA w' b cs := h.under hb h.lt
theorem RA.drew {w : World} {b : Nat} {cs : List Value} (h : RA w b cs) : RA w.drew b cs := h
theorem there_set {w : World} {b o n k : Nat} {v : Value} (h : w.there b o n) : (w.setCell ⟨b, k, none⟩ v).there b o n := fun j hj => by
  refine ⟨?_, by rw [World.frozen?_setCell]; exact (h j hj).2⟩
  obtain ⟨u, hu⟩ := Option.isSome_iff_exists.1 (h j hj).1
  obtain ⟨u', hu'⟩ := cell?_setCell_some (p := ⟨b, k, none⟩) (x := v) hu
  rw [hu']; rfl
theorem range_set {w : World} {b k : Nat} {cs : List Value} {v : Value} (h : w.rangeAt b 0 cs) (hk : k < cs.length) : (w.setCell ⟨b, k, none⟩ v).rangeAt b 0 (cs.set k v) := fun j u hu => by
  rw [Nat.zero_add]
  by_cases e : j = k
  · subst e
    rw [List.getElem?_set_self hk] at hu
    have h0 := h j _ (List.getElem?_eq_getElem hk)
    rw [Nat.zero_add] at h0
    rw [World.cell?_setCell_same _ _ _ h0]; exact hu
  · rw [List.getElem?_set_ne (fun h => e h.symm)] at hu
    have h0 := h j _ hu
    rw [Nat.zero_add] at h0
    rw [World.cell?_setCell_other _ _ _ _ (by intro e'; injection e' with _ e2 _; omega)]; exact h0
theorem RA.set {w : World} {b : Nat} {cs : List Value} (h : RA w b cs) {k : Nat} (hk : k < 13) (v : Value) : RA (w.setCell ⟨b, k, none⟩ v) b (cs.set k v) := ⟨range_set h.1 (by rw [h.2.2]; exact hk), there_set h.2.1, by rw [List.length_set]; exact h.2.2⟩
theorem below_cells {B : Nat} {w0 : World} {b : Nat} (hb : B ≤ b) : ∀ (vs : List Value) (o : Nat) (w : World), Below B w0 w → Below B w0 (w.setCells b o vs)
  | [], _, w, h => h
  | v :: r, o, w, h => below_cells hb r (o + 1) _ (h.setCell (p := ⟨b, o, none⟩) hb v)
theorem size_cells {b : Nat} : ∀ (vs : List Value) (o : Nat) (w : World), (w.setCells b o vs).heap.size = w.heap.size
  | [], _, w => rfl
  | v :: r, o, w => by show ((w.setCell ⟨b, o, none⟩ v).setCells b (o + 1) r).heap.size = _; rw [size_cells r (o + 1)]; simp [World.setCell]
theorem there_cells {b n : Nat} : ∀ (vs : List Value) (o : Nat) (w : World), w.there b 0 n → (w.setCells b o vs).there b 0 n
  | [], _, w, h => h
  | v :: r, o, w, h => there_cells r (o + 1) _ (there_set h)
theorem heap_cells {b k : Nat} (hk : k ≠ b) : ∀ (vs : List Value) (o : Nat) (w : World), (w.setCells b o vs).heap[k]? = w.heap[k]?
  | [], _, w => rfl
  | v :: r, o, w => (heap_cells hk r (o + 1) _).trans (Below.heap_setCell _ _ _ _ hk)
theorem infoR : Try.prog.underlying 61 = some (Try.prog.underlying 61).get! ∧ ((Try.prog.underlying 61).get!).isRow = true ∧ (Try.prog.info? 61).map (·.size) = some 13 := ⟨by kernel_rfl, by kernel_rfl, by kernel_rfl⟩
/-- A router is read whole. -/
theorem wpList_loadR {ops : Array Oper} {rest : List Oper} {op : Oper} {a : Act} {w : World} {Q : Exit → Act → World → Prop} (x : Operand) (hgd : op.guard = none) (ho : op.op = .load 61 x) {b : Nat} {cs : List Value} (hx : a.eval x = .pointer (some ⟨b, 0, none⟩)) (h : RA w b cs)
    (hk : wpList Try.prog ops Q rest (a.put op.dst (.agg cs.toArray)) w) : wpList Try.prog ops Q (op :: rest) a w :=
  wpList_load_mid hgd 61 x ho b 0 hx cs _ h.1 infoR.1 infoR.2.1 (h.2.2 ▸ infoR.2.2) hk
theorem run_execR {op : Oper} {a : Act} {w : World} (x : Operand) (ho : op.op = .load 61 x) {b : Nat} {cs : List Value} (hx : a.eval x = .pointer (some ⟨b, 0, none⟩)) (h : RA w b cs) : (execOp a.eval op).run Try.prog w = .ok (.value (.agg cs.toArray)) w := by
  unfold execOp
  simp only [ho, hx, Instr.loadAt, Instr.sureAddr, Sem.run_bind, Sem.run_pure, Result.andThen_ok, run_loadVar_mid w b 0 61 cs _ h.1 infoR.1 infoR.2.1 (h.2.2 ▸ infoR.2.2)]
/-- A router is written whole. -/
theorem wpList_storeR {ops : Array Oper} {rest : List Oper} {op : Oper} {a : Act} {w : World} {Q : Exit → Act → World → Prop} (x y : Operand) (hgd : op.guard = none) (ho : op.op = .store 61 x y) {b : Nat} (cs : List Value) (h13 : ones cs) (hx : a.eval x = .pointer (some ⟨b, 0, none⟩)) (hy : a.eval y = .agg cs.toArray) (ht : w.there b 0 13)
    (hk : ∀ w', RA w' b cs → (∀ B w0, Below B w0 w → B ≤ b → Below B w0 w') → w'.heap.size = w.heap.size → wpList Try.prog ops Q rest (a.put op.dst undef) w') : wpList Try.prog ops Q (op :: rest) a w := by
  have ht' : w.there b 0 cs.length := h13.1.symm ▸ ht
  exact wpList_store_mid hgd 61 x y ho b 0 cs.toArray hx hy (by simpa using ht') (by simpa [h13.1] using infoR.2.2) (all_oneCell_toArray h13.2) (hk _ ⟨World.rangeAt_setCells_same w b 0 _ ht', there_cells _ _ _ ht, h13.1⟩ (fun B w0 h hb => below_cells hb _ _ _ h) (size_cells _ _ _))
/-- The same, with all other blocks as they were. -/
theorem wpList_storeR2 {ops : Array Oper} {rest : List Oper} {op : Oper} {a : Act} {w : World} {Q : Exit → Act → World → Prop} (x y : Operand) (hgd : op.guard = none) (ho : op.op = .store 61 x y) {b : Nat} (cs : List Value) (h13 : ones cs) (hx : a.eval x = .pointer (some ⟨b, 0, none⟩)) (hy : a.eval y = .agg cs.toArray) (ht : w.there b 0 13)
    (hk : ∀ w', RA w' b cs → (∀ B w0, Below B w0 w → B ≤ b → Below B w0 w') → w'.heap.size = w.heap.size → (∀ k, k ≠ b → w'.heap[k]? = w.heap[k]?) → wpList Try.prog ops Q rest (a.put op.dst undef) w') : wpList Try.prog ops Q (op :: rest) a w := by
  have ht' : w.there b 0 cs.length := h13.1.symm ▸ ht
  exact wpList_store_mid hgd 61 x y ho b 0 cs.toArray hx hy (by simpa using ht') (by simpa [h13.1] using infoR.2.2) (all_oneCell_toArray h13.2) (hk _ ⟨World.rangeAt_setCells_same w b 0 _ ht', there_cells _ _ _ ht, h13.1⟩ (fun B w0 h hb => below_cells hb _ _ _ h) (size_cells _ _ _) (fun k hk => heap_cells hk _ _ _))
theorem run_boxR (cs : List Value) (w : World) : (Instr.box 61 (.agg cs.toArray)).run Try.prog w = .ok (.pointer (some ⟨w.heap.size, 0, none⟩)) (w.alloc (.cells cs.toArray 61)) := by
  simp [Instr.box, newVar, newRow, Value.cells]
theorem wpList_boxR {ops : Array Oper} {rest : List Oper} {op : Oper} {a : Act} {w : World} {Q : Exit → Act → World → Prop} (x : Operand) (hgd : op.guard = none) (ho : op.op = .box 61 x) (cs : List Value) (h13 : cs.length = 13) (hx : a.eval x = .agg cs.toArray)
    (hk : ∀ w', RA w' w.heap.size cs → Below w.heap.size w w' → w'.heap.size = w.heap.size + 1 → wpList Try.prog ops Q rest (a.put op.dst (.pointer (some ⟨w.heap.size, 0, none⟩))) w') : wpList Try.prog ops Q (op :: rest) a w := by
  refine wpList_plain hgd fun K hK => ?_
  unfold Oper.wp execOp
  simp only [ho, hx, run_boxR, Sem.run_bind, Sem.run_pure, Result.andThen_ok]
  refine hK _ _ (hk _ ?_ ((Below.refl _ _).alloc (Nat.le_refl _) _) (by simp))
  have hb : (w.alloc (.cells cs.toArray 61)).heap[w.heap.size]? = some (.cells cs.toArray 61) := heap_alloc_last w _
  refine ⟨fun j v hv => ?_, fun j hj => ⟨?_, ?_⟩, h13⟩
  · rw [Nat.zero_add]
    unfold World.cell?
    simp only [hb]
    simpa using hv
  · rw [Nat.zero_add]
    unfold World.cell?
    simp only [hb]
    simp [h13, hj]
  · unfold World.frozen?
    simp only [hb]
    simp
/-- A router handed back, alone or with a number. -/
theorem resultsR {fn : Func} {p : Tmp} (h : fn.results = #[.cell p 61]) (tmps : Array Value) (w : World) {b : Nat} {cs : List Value} (hp : tmps.getD p undef = .pointer (some ⟨b, 0, none⟩)) (hg : RA w b cs) : (results fn tmps).run Try.prog w = .ok (.agg cs.toArray) w := by
  have hp' : tmps[p]?.getD undef = .pointer (some ⟨b, 0, none⟩) := by simpa using hp
  simp only [results, h]
  simp [Sem.run_bind, hp', asAddr, run_loadVar_mid w b 0 61 cs _ hg.1 infoR.1 infoR.2.1 (hg.2.2 ▸ infoR.2.2), Result.andThen]
theorem resultsR2 {fn : Func} {p q : Tmp} (h : fn.results = #[.cell p 61, .tmp q]) (tmps : Array Value) (w : World) {b : Nat} {cs : List Value} (hp : tmps.getD p undef = .pointer (some ⟨b, 0, none⟩)) (hg : RA w b cs) {v : Value} (hv : tmps.getD q undef = v) : (results fn tmps).run Try.prog w = .ok (.tuple #[.agg cs.toArray, v]) w := by
  have hp' : tmps[p]?.getD undef = .pointer (some ⟨b, 0, none⟩) := by simpa using hp
  have hv' : tmps[q]?.getD undef = v := by simpa using hv
  simp only [results, h]
  simp [Sem.run_bind, hp', hv', asAddr, run_loadVar_mid w b 0 61 cs _ hg.1 infoR.1 infoR.2.1 (hg.2.2 ▸ infoR.2.2), Result.andThen]
theorem ra_new (w : World) (cs : List Value) (h13 : cs.length = 13) (t : Nat) : RA (w.alloc (.cells cs.toArray t)) w.heap.size cs := by
  have hb : (w.alloc (.cells cs.toArray t)).heap[w.heap.size]? = some (.cells cs.toArray t) := heap_alloc_last w _
  refine ⟨fun j v hv => ?_, fun j hj => ⟨?_, ?_⟩, h13⟩
  · rw [Nat.zero_add]
    unfold World.cell?
    simp only [hb]
    simpa using hv
  · rw [Nat.zero_add]
    unfold World.cell?
    simp only [hb]
    simp [h13, hj]
  · unfold World.frozen?
    simp only [hb]
    simp
end Rt
end Go.Proofs.Ytilphgfjgeoiaaa
