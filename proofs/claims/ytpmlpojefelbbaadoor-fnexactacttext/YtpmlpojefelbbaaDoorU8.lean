/-
  Rows of bytes of one's own, as lists of numbers: append, and what they are as a text.
-/
import Derived.Test.YtpmlpojefelbbaaDoorNum
import Derived.Laws.MakeOwn
namespace Go.Proofs.YtpmlpojefelbbaaDoor
open Go.ChangeShapes Go.WideShapes Go.ChangeAt Go.RowKit
set_option linter.unusedVariables false
namespace U8
open W1 Nu
def fl (zs : List Int) : List Value := zs.map (Value.int .u8)
theorem fl_len (zs : List Int) : (fl zs).length = zs.length * 1 := by simp [fl]
theorem fl_append (xs ys : List Int) : fl (xs ++ ys) = fl xs ++ fl ys := by simp [fl]
theorem fl_one {zs : List Int} {u : Value} (h : u ∈ fl zs) : u.oneCell' = true := by
  unfold fl at h; obtain ⟨z, _, rfl⟩ := List.mem_map.1 h; rfl
/-- The cells from an address on read as these numbers. -/
def R8 (w : World) (g off : Nat) (zs : List Int) : Prop := ∀ i, i < zs.length → w.cell? ⟨g, off + i, none⟩ = some (.int .u8 (zs.getD i 0))
theorem plain_add (b off k : Nat) : (⟨b, off, none⟩ : Addr).add k = ⟨b, off + k, none⟩ := by unfold Addr.add; split <;> simp_all
theorem R8.cells {w : World} {g off : Nat} {zs : List Int} (h : R8 w g off zs) : ∀ j u, (fl zs)[j]? = some u → w.cell? ((⟨g, off, none⟩ : Addr).add j) = some u := by
  intro j u hj
  have hl : j < zs.length := by have := (List.getElem?_eq_some_iff.1 hj).1; simpa [fl] using this
  unfold fl at hj
  rw [List.getElem?_map, List.getElem?_eq_getElem hl] at hj
  rw [plain_add, h j hl, List.getD_eq_getElem?_getD, List.getElem?_eq_getElem hl]
  simpa using hj
theorem r8_new (w : World) (zs : List Int) (c : Array Value) (hc : c.toList = fl zs) : R8 (w.alloc (.cells c 5)) w.heap.size 0 zs := by
  intro i hi
  rw [Nat.zero_add, World.cell?_alloc_new, ← Array.getElem?_toList, hc]
  unfold fl
  rw [List.getElem?_map, List.getElem?_eq_getElem hi, List.getD_eq_getElem?_getD, List.getElem?_eq_getElem hi]; rfl
theorem wpList_ap {ops : Array Oper} {rest : List Oper} {o : Oper} {a : Act} {Q : Exit → Act → World → Prop} {w : World} {base : Nat} {v : Value} {xs : List Int} (hown : w.ownsRow base 5 1 v xs.length (fl xs)) (g off m c : Nat) (zs : List Int) (hm : zs.length = m) (hr : R8 w g off zs) (hlen : xs.length + zs.length ≤ 4194304) (hbase : base ≤ w.heap.size)
    (hgd : o.guard = none) (s x : Operand) (ho : o.op = .call { callee := .builtin .append, args := #[s, x], argTypes := #[48, 48] }) (hs : a.eval s = v) (hx : a.eval x = .slice (some ⟨g, off, none⟩) m c)
    (h : ∀ v' w', w'.ownsRow base 5 1 v' (xs ++ zs).length (fl (xs ++ zs)) → w.grownBy w' v.ownBlock → wpList Tryd.prog ops Q rest (a.put o.dst v') w') : wpList Tryd.prog ops Q (o :: rest) a w := by
  subst hm
  obtain ⟨i0, hi, hz0, hz1, hz2⟩ := info5
  refine wpList_append_own w hgd s x _ ho base 5 i0 _ 1 1 Tryd.underlying48 hi hz0 hz1 hz2 rfl (by decide) v xs.length (fl xs) hs hown ⟨g, off, none⟩ zs.length c (fl zs) hx (fl_len zs) hr.cells (fun u hu => fl_one hu) (by unfold maxLen; omega) (by omega) hbase (fun v' w' h1 h2 _ => ?_)
  refine h v' w' ?_ h2
  rw [List.length_append, fl_append]; exact h1
theorem wp_ap {o : Oper} {a : Act} {K : Act → World → Prop} {Q : Exit → Act → World → Prop} {w : World} {base d : Nat} {v : Value} {xs : List Int} (hown : w.ownsRow base 5 1 v xs.length (fl xs)) (g off m c : Nat) (zs : List Int) (hm : zs.length = m) (hr : R8 w g off zs) (hlen : xs.length + zs.length ≤ 4194304) (hbase : base ≤ w.heap.size)
    (s x : Operand) (ho : o.op = .call { callee := .builtin .append, args := #[s, x], argTypes := #[48, 48] }) (hd : o.dst = some d) (hs : a.eval s = v) (hx : a.eval x = .slice (some ⟨g, off, none⟩) m c)
    (h : ∀ v' w', w'.ownsRow base 5 1 v' (xs ++ zs).length (fl (xs ++ zs)) → w.grownBy w' v.ownBlock → K (a.put (some d) v') w') : o.wp Tryd.prog a w K Q := by
  subst hm
  obtain ⟨i0, hi, hz0, hz1, hz2⟩ := info5
  refine wp_append_own w s x _ ho base 5 i0 _ 1 1 Tryd.underlying48 hi hz0 hz1 hz2 rfl (by decide) v xs.length (fl xs) hs hown ⟨g, off, none⟩ zs.length c (fl zs) hx (fl_len zs) hr.cells (fun u hu => fl_one hu) (by unfold maxLen; omega) (by omega) hbase (fun v' w' h1 h2 _ => ?_)
  rw [hd]
  refine h v' w' ?_ h2
  rw [List.length_append, fl_append]; exact h1
theorem below_own {B : Nat} {w0 w w' : World} {base : Nat} {v : Value} {n : Nat} {xs : List Value} (h : Below B w0 w) (ho : w.ownsRow base 5 1 v n xs) (hg : w.grownBy w' v.ownBlock) (hb : B ≤ base) (hB : B ≤ w.heap.size) : Below B w0 w' :=
  h.grown hg hB (fun k hk => Nat.le_trans hb (ho.lt k hk).1)
theorem own_below {w w' : World} {base : Nat} {v : Value} {n : Nat} {xs : List Value} (h : w.ownsRow base 5 1 v n xs) (hb : Below w.heap.size w w') : w'.ownsRow base 5 1 v n xs := by
  refine h.kept (row := none) ⟨hb.os, hb.tape, hb.output, hb.size, fun k hk _ => hb.block k hk⟩ ?_
  cases v.ownBlock
  · exact .inl rfl
  · exact .inr (by simp)
/-- A row with numbers in it: its form, its cells. -/
theorem form {w : World} {base : Nat} {v : Value} {zs : List Int} (h : w.ownsRow base 5 1 v zs.length (fl zs)) (h0 : 0 < zs.length) :
    ∃ g cap, v = .slice (some ⟨g, 0, none⟩) zs.length cap ∧ ∀ i, i < zs.length → w.cell? ⟨g, 0 + i, none⟩ = some (.int .u8 (zs.getD i 0)) := by
  obtain ⟨g, cap, rfl, _, _⟩ := h.form h0
  refine ⟨g, cap, rfl, fun i hi => ?_⟩
  rw [Nat.zero_add, h.cellAt i (by omega)]
  unfold fl
  rw [List.getElem?_map, List.getElem?_eq_getElem hi, List.getD_eq_getElem?_getD, List.getElem?_eq_getElem hi]; rfl
theorem own_two {w : World} {base : Nat} {v : Value} {xs : List Int} {a b : Int} (h : w.ownsRow base 5 1 v (xs.length + 2) (fl xs ++ [.int .u8 a, .int .u8 b])) : w.ownsRow base 5 1 v (xs ++ [a, b]).length (fl (xs ++ [a, b])) := by
  rw [fl_append, List.length_append]; exact h
theorem str_append (a b : List Int) : strOfNums a ++ strOfNums b = strOfNums (a ++ b) := by
  apply ByteArray.ext
  simp [strOfNums, ByteArray.data_append]
end U8
end Go.Proofs.YtpmlpojefelbbaaDoor
