/-
  The model's search of ways: its regions as codes; what lies there. (written by mkspb.py)
-/
import Derived.Test.YtjhhhmdhdnmejabSpcA
import Derived.Deep.Cut
import Derived.BigRegion
import Derived.Deep.MidRow
namespace Go.Proofs.Ytjhhhmdhdnmejab
open Go.ChangeShapes Go.WideShapes Go.ChangeAt Go.RowKit
set_option linter.unusedVariables false
set_option linter.unusedSimpArgs false
set_option maxRecDepth 100000
attribute [local go_sem ↓] Go.wp_at_zero Go.wp_at_succ
namespace Wd
open W1 Ro Rw Tw
/-- Nine routes, nine marks lie there, and all below B is as it was. -/
def Nin (w : World) (B D : Nat) (bs : List R) (ds : List Bool) : Prop := BV w B bs ∧ DV w D ds
theorem Nin.below {w w' : World} {B D : Nat} {bs : List R} {ds : List Bool} (h : Nin w B D bs ds) (hb : Below w.heap.size w w') : Nin w' B D bs ds := ⟨h.1.below hb, h.2.below hb⟩
theorem Nin.drew {w : World} {B D : Nat} {bs : List R} {ds : List Bool} (h : Nin w B D bs ds) : Nin w.drew B D bs ds := h
theorem infoT : Try.prog.underlying 86 = some (Try.prog.underlying 86).get! ∧ ((Try.prog.underlying 86).get!).isRow = true ∧ (Try.prog.info? 86).map (·.size) = some 4 := ⟨by kernel_rfl, by kernel_rfl, by kernel_rfl⟩
/-- A route is read whole, written whole. -/
theorem wpList_loadR {ops : Array Oper} {rest : List Oper} {op : Oper} {a : Act} {w : World} {Q : Exit → Act → World → Prop} (x : Operand) (hgd : op.guard = none) (ho : op.op = .load 86 x) {b : Nat} {m : R} (hx : a.eval x = .pointer (some ⟨b, 0, none⟩)) (h : Bx w b m)
    (hk : wpList Try.prog ops Q rest (a.put op.dst (.agg #[.int .i64 m.ds, .int .i64 m.nx, .int .i64 m.co, .int .i64 m.hp])) w) : wpList Try.prog ops Q (op :: rest) a w := by
  refine wpList_load_mid hgd 86 x ho b 0 hx m.cells _ (fun j v hv => ?_) infoT.1 infoT.2.1 (by rw [infoT.2.2]; rfl) hk
  rw [Nat.zero_add]
  obtain ⟨h0, h1, h2, h3⟩ := h
  unfold R.cells at hv
  match j, hv with
  | 0, hv => simp at hv; rw [← hv]; exact h0
  | 1, hv => simp at hv; rw [← hv]; exact h1
  | 2, hv => simp at hv; rw [← hv]; exact h2
  | 3, hv => simp at hv; rw [← hv]; exact h3
  | n + 4, hv => simp at hv
theorem wpList_storeR {ops : Array Oper} {rest : List Oper} {op : Oper} {a : Act} {w : World} {Q : Exit → Act → World → Prop} (x y : Operand) (hgd : op.guard = none) (ho : op.op = .store 86 x y) {b t : Nat} {m : R} {bs : List R} (hx : a.eval x = .pointer (some ⟨b, t * 4, none⟩)) (hy : a.eval y = .agg #[.int .i64 m.ds, .int .i64 m.nx, .int .i64 m.co, .int .i64 m.hp]) (h : BV w b bs) (ht : t < bs.length)
    (hk : wpList Try.prog ops Q rest (a.put op.dst undef) (put w b (t * 4) m)) : wpList Try.prog ops Q (op :: rest) a w := by
  refine wpList_store_mid hgd 86 x y ho b (t * 4) #[.int .i64 m.ds, .int .i64 m.nx, .int .i64 m.co, .int .i64 m.hp] hx hy (fun j hj => ⟨?_, h.free _⟩) (by rw [infoT.2.2]; rfl) (by kernel_rfl) hk
  have hj4 : j < 4 := hj
  rw [h.cell, flat_get bs t j hj4 ht]
  unfold R.cells
  match j, hj4 with
  | 0, _ | 1, _ | 2, _ | 3, _ => rfl
theorem nin_new (w : World) : Nin ((w.alloc (.cells (flat (bs9 0)).toArray 86)).alloc (.cells (fs9.map Value.bool).toArray 4)) w.heap.size (w.heap.size + 1) (bs9 0) fs9 := by
  have a1 : BV (w.alloc (.cells (flat (bs9 0)).toArray 86)) w.heap.size (bs9 0) := heap_alloc_new w _
  refine ⟨a1.below ((Below.refl _ _).alloc (Nat.le_refl _) _), ?_⟩
  have := heap_alloc_new (w.alloc (.cells (flat (bs9 0)).toArray 86)) (.cells (fs9.map Value.bool).toArray 4); rw [World.size_alloc] at this; exact this
def sP (w : World) (B D j k : Nat) (dj : Bool) (x y : R) : Prop := w.cell? ⟨D, j, none⟩ = some (.bool dj) ∧ At w B (j * 4) x ∧ At w B (k * 4) y
theorem sP_of {w : World} {B D j k : Nat} {bs : List R} {ds : List Bool} (h : Nin w B D bs ds) (hb : bs.length = 9) (hd : ds.length = 9) (hj : j < 9) (hk : k < 9) : sP w B D j k (dn ds j) (at' bs j) (at' bs k) := ⟨h.2.at (by omega), h.1.at (by omega), h.1.at (by omega)⟩
theorem sP.below {w w' : World} {B D j k : Nat} {dj : Bool} {x y : R} (h : sP w B D j k dj x y) (hb : Below w.heap.size w w') : sP w' B D j k dj x y :=
  ⟨(hb.cell (p := ⟨D, j, none⟩) (World.block_lt_of_cell? _ _ h.1)).trans h.1, h.2.1.below hb, h.2.2.below hb⟩
theorem sPc {w : World} {B D j k : Nat} {dj : Bool} {xa xn xc xh ya yn yc yh : Int} (h : sP w B D j k dj ⟨xa, xn, xc, xh⟩ ⟨ya, yn, yc, yh⟩) : sP w B D j k dj ⟨xa, xn, xc, xh⟩ ⟨ya, yn, yc, yh⟩ ∧ w.cell? ⟨D, j, none⟩ = some (.bool dj) ∧ w.cell? ⟨B, j * 4, none⟩ = some (.int .i64 xa) ∧ w.cell? ⟨B, j * 4 + 1, none⟩ = some (.int .i64 xn) ∧ w.cell? ⟨B, j * 4 + 2, none⟩ = some (.int .i64 xc) ∧ w.cell? ⟨B, j * 4 + 3, none⟩ = some (.int .i64 xh) ∧ w.cell? ⟨B, k * 4, none⟩ = some (.int .i64 ya) ∧ w.cell? ⟨B, k * 4 + 1, none⟩ = some (.int .i64 yn) ∧ w.cell? ⟨B, k * 4 + 2, none⟩ = some (.int .i64 yc) ∧ w.cell? ⟨B, k * 4 + 3, none⟩ = some (.int .i64 yh) :=
  ⟨h, h.1, h.2.1.1, h.2.1.2.1, h.2.1.2.2.1, h.2.1.2.2.2, h.2.2.1, h.2.2.2.1, h.2.2.2.2.1, h.2.2.2.2.2⟩
def sQ (w : World) (B D j X : Nat) (dj : Bool) (x y : R) : Prop := w.cell? ⟨D, j, none⟩ = some (.bool dj) ∧ At w B (j * 4) y ∧ Bx w X x
theorem sQ_of {w : World} {B D j X : Nat} {bs : List R} {ds : List Bool} {x : R} (h : Nin w B D bs ds) (hb : bs.length = 9) (hd : ds.length = 9) (hj : j < 9) (hx : Bx w X x) : sQ w B D j X (dn ds j) x (at' bs j) := ⟨h.2.at (by omega), h.1.at (by omega), hx⟩
theorem sQ.below {w w' : World} {B D j X : Nat} {dj : Bool} {x y : R} (h : sQ w B D j X dj x y) (hb : Below w.heap.size w w') : sQ w' B D j X dj x y :=
  ⟨(hb.cell (p := ⟨D, j, none⟩) (World.block_lt_of_cell? _ _ h.1)).trans h.1, h.2.1.below hb, h.2.2.below hb⟩
theorem sQc {w : World} {B D j X : Nat} {dj : Bool} {xa xn xc xh ya yn yc yh : Int} (h : sQ w B D j X dj ⟨xa, xn, xc, xh⟩ ⟨ya, yn, yc, yh⟩) : sQ w B D j X dj ⟨xa, xn, xc, xh⟩ ⟨ya, yn, yc, yh⟩ ∧ w.cell? ⟨D, j, none⟩ = some (.bool dj) ∧ w.cell? ⟨B, j * 4, none⟩ = some (.int .i64 ya) ∧ w.cell? ⟨B, j * 4 + 1, none⟩ = some (.int .i64 yn) ∧ w.cell? ⟨B, j * 4 + 2, none⟩ = some (.int .i64 yc) ∧ w.cell? ⟨B, j * 4 + 3, none⟩ = some (.int .i64 yh) ∧ w.cell? ⟨X, 0, none⟩ = some (.int .i64 xa) ∧ w.cell? ⟨X, 1, none⟩ = some (.int .i64 xn) ∧ w.cell? ⟨X, 2, none⟩ = some (.int .i64 xc) ∧ w.cell? ⟨X, 3, none⟩ = some (.int .i64 xh) :=
  ⟨h, h.1, h.2.1.1, h.2.1.2.1, h.2.1.2.2.1, h.2.1.2.2.2, h.2.2.1, h.2.2.2.1, h.2.2.2.2.1, h.2.2.2.2.2⟩
/-- A region of a function's text, by its number. -/
def regOf (n : Nat) : Code → Option Code
  | .region i ops d => match Nat.beq i n with
    | true => some (.region i ops d)
    | false => none
  | .loop c => regOf n c
  | .seq a b => match regOf n a with
    | some c => some c
    | none => regOf n b
  | .block _ c => regOf n c
  | .scope c => regOf n c
  | .cond _ a b => match regOf n a with
    | some c => some c
    | none => regOf n b
  | _ => none
noncomputable def reg (n : Nat) : Code := ((Try.f48.body.bind (regOf n)).getD .skip)
end Wd
end Go.Proofs.Ytjhhhmdhdnmejab
