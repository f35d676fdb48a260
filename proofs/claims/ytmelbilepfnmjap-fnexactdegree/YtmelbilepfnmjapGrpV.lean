/-
  A ground in a block: read whole, written whole, laid anew; a field of it written.
-/
import Derived.Test.YtmelbilepfnmjapGrpA
import Derived.Deep.MidRow
import Derived.Deep.WholeRow
namespace Go.Proofs.Ytmelbilepfnmjap
open Go.ChangeShapes Go.WideShapes Go.ChangeAt Go.RowKit
set_option linter.unusedVariables false
set_option linter.unusedSimpArgs false
namespace Gp
open W1
/-- The cells of a ground; its value. -/
def gC (s : Nat) (V R : Nat → Nat) : List Value := [.int .u16 s, .int .u16 (V 0), .int .u16 (V 1), .int .u16 (V 2), .int .u16 (V 3), .int .u16 (V 4), .int .u16 (V 5), .int .u16 (V 6), .int .u16 (V 7), .int .u16 (V 8), .int .u16 (R 0), .int .u16 (R 1), .int .u16 (R 2), .int .u16 (R 3), .int .u16 (R 4), .int .u16 (R 5), .int .u16 (R 6), .int .u16 (R 7), .int .u16 (R 8)]
def GV (s : Nat) (V R : Nat → Nat) : Value := .agg (gC s V R).toArray
theorem gC_len (s : Nat) (V R : Nat → Nat) : (gC s V R).length = 19 := rfl
theorem gC_one (s : Nat) (V R : Nat → Nat) : ∀ v ∈ gC s V R, v.oneCell' = true := by
  intro v hv
  unfold gC at hv
  simp only [List.mem_cons, List.not_mem_nil, or_false] at hv
  rcases hv with rfl | rfl | rfl | rfl | rfl | rfl | rfl | rfl | rfl | rfl | rfl | rfl | rfl | rfl | rfl | rfl | rfl | rfl | rfl <;> rfl
theorem gC_v (s : Nat) (V R : Nat → Nat) : ∀ i, i < 9 → (gC s V R)[1 + i]? = some (.int .u16 (V i))
  | 0, _ | 1, _ | 2, _ | 3, _ | 4, _ | 5, _ | 6, _ | 7, _ | 8, _ => rfl
  | n + 9, h => by omega
theorem gC_r (s : Nat) (V R : Nat → Nat) : ∀ i, i < 9 → (gC s V R)[10 + i]? = some (.int .u16 (R i))
  | 0, _ | 1, _ | 2, _ | 3, _ | 4, _ | 5, _ | 6, _ | 7, _ | 8, _ => rfl
  | n + 9, h => by omega
/-- A ground lies in a block, which may be written. -/
def GA (w : World) (b : Nat) (s : Nat) (V R : Nat → Nat) : Prop := w.rangeAt b 0 (gC s V R) ∧ w.there b 0 19
theorem GA.s {w : World} {b s : Nat} {V R : Nat → Nat} (h : GA w b s V R) : w.cell? ⟨b, 0, none⟩ = some (.int .u16 s) := h.1 0 _ rfl
theorem GA.v {w : World} {b s : Nat} {V R : Nat → Nat} (h : GA w b s V R) {i : Nat} (hi : i < 9) : w.cell? ⟨b, 1 + i, none⟩ = some (.int .u16 (V i)) ∧ w.frozen? ⟨b, 1 + i, none⟩ = false := by
  have h1 := h.1 (1 + i) _ (gC_v s V R i hi)
  have h2 := (h.2 (1 + i) (by omega)).2
  rw [Nat.zero_add] at h1 h2
  exact ⟨h1, h2⟩
theorem GA.r {w : World} {b s : Nat} {V R : Nat → Nat} (h : GA w b s V R) {i : Nat} (hi : i < 9) : w.cell? ⟨b, 10 + i, none⟩ = some (.int .u16 (R i)) ∧ w.frozen? ⟨b, 10 + i, none⟩ = false := by
  have h1 := h.1 (10 + i) _ (gC_r s V R i hi)
  have h2 := (h.2 (10 + i) (by omega)).2
  rw [Nat.zero_add] at h1 h2
  exact ⟨h1, h2⟩
theorem GA.lt {w : World} {b s : Nat} {V R : Nat → Nat} (h : GA w b s V R) : b < w.heap.size := World.block_lt_of_cell? _ _ h.s
theorem GA.under {w w' : World} {B b s : Nat} {V R : Nat → Nat} (h : GA w b s V R) (hb : Below B w w') (hg : b < B) : GA w' b s V R :=
  ⟨fun j v hv => (hb.cell (p := ⟨b, 0 + j, none⟩) hg).trans (h.1 j v hv), fun j hj => ⟨by rw [hb.cell (p := ⟨b, 0 + j, none⟩) hg]; exact (h.2 j hj).1, by rw [hb.frozen (p := ⟨b, 0 + j, none⟩) hg]; exact (h.2 j hj).2⟩⟩
theorem GA.below {w w' : World} {b s : Nat} {V R : Nat → Nat} (h : GA w b s V R) (hb : Below w.heap.size w w') : GA w' b s V R := h.under hb h.lt
theorem there_set {w : World} {b o n k : Nat} {v : Value} (h : w.there b o n) : (w.setCell ⟨b, k, none⟩ v).there b o n := fun j hj => by
  refine ⟨?_, by rw [World.frozen?_setCell]; exact (h j hj).2⟩
  obtain ⟨u, hu⟩ := Option.isSome_iff_exists.1 (h j hj).1
  obtain ⟨u', hu'⟩ := cell?_setCell_some (p := ⟨b, k, none⟩) (x := v) hu
  rw [hu']; rfl
def upd (V : Nat → Nat) (k x : Nat) : Nat → Nat := fun i => if i = k then x else V i
theorem upd_v (s : Nat) (V R : Nat → Nat) (x : Nat) : ∀ k, k < 9 → (gC s V R).set (1 + k) (.int .u16 x) = gC s (upd V k x) R
  | 0, _ | 1, _ | 2, _ | 3, _ | 4, _ | 5, _ | 6, _ | 7, _ | 8, _ => rfl
  | n + 9, h => by omega
theorem upd_r (s : Nat) (V R : Nat → Nat) (x : Nat) : ∀ k, k < 9 → (gC s V R).set (10 + k) (.int .u16 x) = gC s V (upd R k x)
  | 0, _ | 1, _ | 2, _ | 3, _ | 4, _ | 5, _ | 6, _ | 7, _ | 8, _ => rfl
  | n + 9, h => by omega
theorem range_set {w : World} {b k : Nat} {cs : List Value} {v : Value} (h : w.rangeAt b 0 cs) (hk : k < cs.length) : (w.setCell ⟨b, k, none⟩ v).rangeAt b 0 (cs.set k v) := fun j u hu => by
  rw [Nat.zero_add]
  by_cases e : j = k
  · subst e
    rw [List.getElem?_set_self hk] at hu
    have h0 := h j _ (List.getElem?_eq_getElem hk)
    rw [Nat.zero_add] at h0
    rw [World.cell?_setCell_same _ _ _ h0]; exact hu
  · rw [List.getElem?_set_ne (fun h => e h.symm)] at hu
    have h0 := h j _ hu
    rw [Nat.zero_add] at h0
    rw [World.cell?_setCell_other _ _ _ _ (by intro e'; injection e' with _ e2 _; omega)]; exact h0
theorem GA.setV {w : World} {b s : Nat} {V R : Nat → Nat} (h : GA w b s V R) {k : Nat} (hk : k < 9) (x : Nat) : GA (w.setCell ⟨b, 1 + k, none⟩ (.int .u16 x)) b s (upd V k x) R := ⟨by rw [← upd_v s V R x k hk]; exact range_set h.1 (by rw [gC_len]; omega), there_set h.2⟩
theorem GA.setR {w : World} {b s : Nat} {V R : Nat → Nat} (h : GA w b s V R) {k : Nat} (hk : k < 9) (x : Nat) : GA (w.setCell ⟨b, 10 + k, none⟩ (.int .u16 x)) b s V (upd R k x) := ⟨by rw [← upd_r s V R x k hk]; exact range_set h.1 (by rw [gC_len]; omega), there_set h.2⟩
theorem below_cells {B : Nat} {w0 : World} {b : Nat} (hb : B ≤ b) : ∀ (vs : List Value) (o : Nat) (w : World), Below B w0 w → Below B w0 (w.setCells b o vs)
  | [], _, w, h => h
  | v :: r, o, w, h => below_cells hb r (o + 1) _ (h.setCell (p := ⟨b, o, none⟩) hb v)
theorem size_cells {b : Nat} : ∀ (vs : List Value) (o : Nat) (w : World), (w.setCells b o vs).heap.size = w.heap.size
  | [], _, w => rfl
  | v :: r, o, w => by show ((w.setCell ⟨b, o, none⟩ v).setCells b (o + 1) r).heap.size = _; rw [size_cells r (o + 1)]; simp [World.setCell]
theorem there_cells {b n : Nat} : ∀ (vs : List Value) (o : Nat) (w : World), w.there b 0 n → (w.setCells b o vs).there b 0 n
  | [], _, w, h => h
  | v :: r, o, w, h => there_cells r (o + 1) _ (there_set h)
theorem infoG : Try.prog.underlying 86 = some (Try.prog.underlying 86).get! ∧ ((Try.prog.underlying 86).get!).isRow = true ∧ (Try.prog.info? 86).map (·.size) = some 19 := ⟨by kernel_rfl, by kernel_rfl, by kernel_rfl⟩
/-- A ground is read whole. -/
theorem wpList_loadG {ops : Array Oper} {rest : List Oper} {op : Oper} {a : Act} {w : World} {Q : Exit → Act → World → Prop} (x : Operand) (hgd : op.guard = none) (ho : op.op = .load 86 x) {b s : Nat} {V R : Nat → Nat} (hx : a.eval x = .pointer (some ⟨b, 0, none⟩)) (h : GA w b s V R)
    (hk : wpList Try.prog ops Q rest (a.put op.dst (GV s V R)) w) : wpList Try.prog ops Q (op :: rest) a w :=
  wpList_load_mid hgd 86 x ho b 0 hx (gC s V R) _ h.1 infoG.1 infoG.2.1 infoG.2.2 hk
theorem run_execG {op : Oper} {a : Act} {w : World} (x : Operand) (ho : op.op = .load 86 x) {b s : Nat} {V R : Nat → Nat} (hx : a.eval x = .pointer (some ⟨b, 0, none⟩)) (h : GA w b s V R) : (execOp a.eval op).run Try.prog w = .ok (.value (GV s V R)) w := by
  unfold execOp
  simp only [ho, hx, Instr.loadAt, Instr.sureAddr, Sem.run_bind, Sem.run_pure, Result.andThen_ok, run_loadVar_mid w b 0 86 (gC s V R) _ h.1 infoG.1 infoG.2.1 infoG.2.2]
  rfl
/-- A ground is written whole. -/
theorem wpList_storeG {ops : Array Oper} {rest : List Oper} {op : Oper} {a : Act} {w : World} {Q : Exit → Act → World → Prop} (x y : Operand) (hgd : op.guard = none) (ho : op.op = .store 86 x y) {b s : Nat} {V R : Nat → Nat} (hx : a.eval x = .pointer (some ⟨b, 0, none⟩)) (hy : a.eval y = GV s V R) (ht : w.there b 0 19)
    (hk : ∀ w', GA w' b s V R → (∀ B w0, Below B w0 w → B ≤ b → Below B w0 w') → w'.heap.size = w.heap.size → wpList Try.prog ops Q rest (a.put op.dst undef) w') : wpList Try.prog ops Q (op :: rest) a w :=
  wpList_store_mid hgd 86 x y ho b 0 (gC s V R).toArray hx hy ht infoG.2.2 (all_oneCell_toArray (gC_one s V R)) (hk _ ⟨World.rangeAt_setCells_same w b 0 _ ht, there_cells _ _ _ ht⟩ (fun B w0 h hb => below_cells hb _ _ _ h) (size_cells _ _ _))
/-- A ground laid anew. -/
theorem run_boxG (s : Nat) (V R : Nat → Nat) (w : World) : (Instr.box 86 (GV s V R)).run Try.prog w = .ok (.pointer (some ⟨w.heap.size, 0, none⟩)) (w.alloc (.cells (gC s V R).toArray 86)) := by
  simp [Instr.box, newVar, newRow, GV, Value.cells]
theorem ga_new (w : World) (s : Nat) (V R : Nat → Nat) (t : Nat) : GA (w.alloc (.cells (gC s V R).toArray t)) w.heap.size s V R := by
  have hb : (w.alloc (.cells (gC s V R).toArray t)).heap[w.heap.size]? = some (.cells (gC s V R).toArray t) := heap_alloc_last w _
  refine ⟨fun j v hv => ?_, fun j hj => ⟨?_, ?_⟩⟩
  · have hj : j < (gC s V R).length := (List.getElem?_eq_some_iff.1 hv).1
    rw [Nat.zero_add]
    unfold World.cell?
    simp only [hb]
    simpa using hv
  · rw [Nat.zero_add]
    unfold World.cell?
    simp only [hb]
    simp [gC_len, hj]
  · unfold World.frozen?
    simp only [hb]
    simp
theorem wpList_boxG {ops : Array Oper} {rest : List Oper} {op : Oper} {a : Act} {w : World} {Q : Exit → Act → World → Prop} (x : Operand) (hgd : op.guard = none) (ho : op.op = .box 86 x) {s : Nat} {V R : Nat → Nat} (hx : a.eval x = GV s V R)
    (hk : ∀ w', GA w' w.heap.size s V R → Below w.heap.size w w' → w'.heap.size = w.heap.size + 1 → wpList Try.prog ops Q rest (a.put op.dst (.pointer (some ⟨w.heap.size, 0, none⟩))) w') : wpList Try.prog ops Q (op :: rest) a w := by
  refine wpList_plain hgd fun K hK => ?_
  unfold Oper.wp execOp
  simp only [ho, hx, run_boxG, Sem.run_bind, Sem.run_pure, Result.andThen_ok]
  exact hK _ _ (hk _ (ga_new w s V R _) ((Below.refl _ _).alloc (Nat.le_refl _) _) (by simp))
/-- A ground handed back. -/
theorem resultsG {fn : Func} {p : Tmp} (h : fn.results = #[.cell p 86]) (tmps : Array Value) (w : World) {b s : Nat} {V R : Nat → Nat} (hp : tmps.getD p undef = .pointer (some ⟨b, 0, none⟩)) (hg : GA w b s V R) : (results fn tmps).run Try.prog w = .ok (GV s V R) w := by
  have hp' : tmps[p]?.getD undef = .pointer (some ⟨b, 0, none⟩) := by simpa using hp
  simp only [results, h]
  simp [Sem.run_bind, hp', asAddr, run_loadVar_mid w b 0 86 (gC s V R) _ hg.1 infoG.1 infoG.2.1 infoG.2.2, Result.andThen, GV]
end Gp
end Go.Proofs.Ytmelbilepfnmjap
