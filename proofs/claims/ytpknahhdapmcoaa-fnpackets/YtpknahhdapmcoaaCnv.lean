/-
  A row that was made of a text ([]byte(s)): its cells, its mark behind them; one byte appended to it.
-/
import Derived.Test.YtpknahhdapmcoaaU8
import Derived.Lib.ConvBytes
import Derived.Laws.Closers25b
namespace Go.Proofs.Ytpknahhdapmcoaa
open Go.ChangeShapes Go.WideShapes Go.ChangeAt Go.RowKit
set_option linter.unusedVariables false
namespace Cn
open W1 Nu
/-- Block g is such a row: its first numbers are zs, it has room for cap. -/
def Cv (w : World) (g cap : Nat) (zs : List Int) : Prop :=
  ∃ cur : Array Value, w.heap[g]? = some (.cells cur 5 (cap, cap + 1)) ∧ cur.size = cap ∧ cur.toList.take zs.length = U8.fl zs ∧ zs.length ≤ cap ∧ cap ≤ maxLen
theorem Cv.lt {w : World} {g cap : Nat} {zs : List Int} (h : Cv w g cap zs) : g < w.heap.size := by obtain ⟨_, hg, _⟩ := h; exact lt_of_block hg
theorem Cv.room {w : World} {g cap : Nat} {zs : List Int} (h : Cv w g cap zs) : zs.length ≤ cap ∧ cap ≤ maxLen := by obtain ⟨_, _, _, _, h1, h2⟩ := h; exact ⟨h1, h2⟩
theorem Cv.kept {w w' : World} {g cap : Nat} {zs : List Int} (h : Cv w g cap zs) (hg : w'.heap[g]? = w.heap[g]?) : Cv w' g cap zs := by
  obtain ⟨cur, h0, hr⟩ := h; exact ⟨cur, hg.trans h0, hr⟩
theorem Cv.cell {w : World} {g cap : Nat} {zs : List Int} (h : Cv w g cap zs) {i : Nat} (hi : i < zs.length) : w.cell? ⟨g, i, none⟩ = some (.int .u8 (zs.getD i 0)) := by
  obtain ⟨cur, hg, hs, ht, hl, hm⟩ := h
  rw [cell_of_row w g i cur _ _ hg]
  have e : (cur.toList.take zs.length)[i]? = (U8.fl zs)[i]? := by rw [ht]
  rw [List.getElem?_take, if_pos hi, Array.getElem?_toList] at e
  rw [e]
  unfold U8.fl
  rw [List.getElem?_map, List.getElem?_eq_getElem hi, List.getD_eq_getElem?_getD, List.getElem?_eq_getElem hi]; rfl
theorem Cv.free {w : World} {g cap : Nat} {zs : List Int} (h : Cv w g cap zs) {i : Nat} (hi : i < cap) : w.frozen? ⟨g, i, none⟩ = false := by
  obtain ⟨cur, hg, _⟩ := h
  simp only [World.frozen?, hg, Bool.and_eq_false_iff, decide_eq_false_iff_not]
  left; omega
/-- The numbers of a text's bytes. -/
def nums (s : ByteArray) : List Int := s.data.toList.map fun b => (b.toNat : Int)
theorem nums_len (s : ByteArray) : (nums s).length = s.size := by unfold nums; simp
theorem nums_in (s : ByteArray) : ∀ z ∈ nums s, 0 ≤ z ∧ z ≤ 255 := by
  intro z hz
  unfold nums at hz
  obtain ⟨b, _, rfl⟩ := List.mem_map.1 hz
  have := b.toNat_lt
  omega
theorem cv_new (w : World) (s : ByteArray) (hs : s.size ≤ 1048576) : Cv (Lib.bytesWorld w 5 s) w.heap.size (grownCap w s.size 0 5) (nums s) := by
  have hge := grownCap_ge w s.size 0 5
  have hle := grownCap_le_maxLen w s.size 0 5 (by unfold maxLen; omega)
  have hsz : (Lib.bytesCells w 5 s).size = grownCap w s.size 0 5 := by
    unfold Lib.bytesCells
    simp only [Array.size_append, Array.size_map, Array.size_replicate]
    have : s.data.size = s.size := rfl
    omega
  refine ⟨Lib.bytesCells w 5 s, ?_, hsz, ?_, by rw [nums_len]; exact hge, hle⟩
  · rw [Lib.bytesWorld_at_new, hsz]
  · rw [nums_len]
    unfold Lib.bytesCells U8.fl nums
    rw [Array.toList_append, Array.toList_map, List.map_map]
    have e : (List.map (fun b => Value.int IntKind.u8 ↑b.toNat) s.data.toList).length = s.size := by simp
    rw [← e, List.take_left]; rfl
theorem plain_add (b off k : Nat) : (⟨b, off, none⟩ : Addr).add k = ⟨b, off + k, none⟩ := by unfold Addr.add; split <;> simp_all
theorem one_at {w : World} {b off : Nat} {z : Int} (hb : w.cell? ⟨b, off, none⟩ = some (.int .u8 z)) : ∀ j u, ([.int .u8 z] : List Value)[j]? = some u → w.cell? ((⟨b, off, none⟩ : Addr).add j) = some u := by
  intro j u hj
  cases j with
  | zero => rw [plain_add, Nat.add_zero, hb]; simpa using hj
  | succ j => simp at hj
theorem run_one (w : World) (ty : TypeId) {g cap : Nat} {zs : List Int} (hc : Cv w g cap zs) (b off c : Nat) (z : Int) (hb : w.cell? ⟨b, off, none⟩ = some (.int .u8 z)) (hlen : zs.length ≤ 4096) :
    ∃ g' c' w', (Builtin.append_ #[22, 22] ty #[.slice (some ⟨g, 0, none⟩) zs.length cap, .slice (some ⟨b, off, none⟩) 1 c]).run Try.prog w = .ok (.slice (some ⟨g', 0, none⟩) (zs.length + 1) c') w' ∧
      (∀ i, i < zs.length + 1 → w'.cell? ⟨g', 0 + i, none⟩ = some (.int .u8 ((zs ++ [z]).getD i 0))) ∧ w.grownBy w' (some g) ∧ zs.length + 1 ≤ c' ∧ c' ≤ maxLen := by
  obtain ⟨i0, hi, hz0, hz1, hz2⟩ := info5
  have hold : ∀ j u, (U8.fl zs)[j]? = some u → w.cell? ((⟨g, 0, none⟩ : Addr).add j) = some u := by
    intro j u hj
    have hl : j < zs.length := by have := (List.getElem?_eq_some_iff.1 hj).1; simpa [U8.fl] using this
    rw [plain_add, Nat.zero_add, hc.cell hl, List.getD_eq_getElem?_getD, List.getElem?_eq_getElem hl]
    unfold U8.fl at hj
    rw [List.getElem?_map, List.getElem?_eq_getElem hl] at hj
    simpa using hj
  have getl : ∀ i, i < zs.length → (zs ++ [z]).getD i 0 = zs.getD i 0 := fun i h => by rw [List.getD_eq_getElem?_getD, List.getD_eq_getElem?_getD, List.getElem?_append_left h]
  have getr : (zs ++ [z]).getD zs.length 0 = z := by rw [List.getD_eq_getElem?_getD, List.getElem?_append_right (Nat.le_refl _)]; simp
  by_cases hroom : zs.length + 1 ≤ cap
  · have hcell : ∃ v, w.cell? ⟨g, zs.length, none⟩ = some v := by
      obtain ⟨cur, hg, hs, _⟩ := hc
      exact ⟨cur[zs.length]'(by omega), by rw [cell_of_row w g _ cur _ _ hg]; exact Array.getElem?_eq_getElem _⟩
    obtain ⟨v, hv⟩ := hcell
    have hfz := hc.free (i := zs.length) (by omega)
    have hf := run_firstCells_some (P := Try.prog) w 1 1 ⟨b, off, none⟩ 1 c [.int .u8 z] rfl (one_at hb)
    have hst : (storeCells ⟨g, zs.length, none⟩ [.int .u8 z] 0).run Try.prog w = .ok () (w.setCell ⟨g, zs.length, none⟩ (.int .u8 z)) := by
      have e := run_store Try.prog w ⟨g, zs.length, none⟩ (.int .u8 z) .plain rfl
      rw [hv, hfz] at e
      simp only [storeCells, Sem.run_bind, plain_add, Nat.add_zero]
      rw [show (store ⟨g, zs.length, none⟩ (.int .u8 z)).run Try.prog w = .ok () (w.setCell ⟨g, zs.length, none⟩ (.int .u8 z)) from e]
      rfl
    refine ⟨g, cap, w.setCell ⟨g, zs.length, none⟩ (.int .u8 z), ?_, fun i hi => ?_, ⟨rfl, rfl, rfl, by simp [World.setCell], fun k _ hk => Below.heap_setCell _ _ _ _ (fun e => hk (by rw [e]))⟩, hroom, hc.room.2⟩
    · simp [Builtin.append_, run_underlying Try.underlying22, sizeOf, typeInfo, hi, hz1, Builtin.lenOf, hroom, hf, Addr.add_lit, hst]
    · rw [Nat.zero_add]
      by_cases e : i = zs.length
      · rw [e, World.cell?_setCell_same _ _ _ hv, getr]
      · rw [World.cell?_setCell_other _ _ _ _ (by simp <;> omega), hc.cell (by omega), getl i (by omega)]
  · have hr := run_append_grow (P := Try.prog) w 22 ty 5 i0 (.int .u8 0) Try.underlying22 hi hz0 ⟨g, 0, none⟩ zs.length cap (U8.fl zs) (by rw [hz1]; exact U8.fl_len zs) hold ⟨b, off, none⟩ 1 c [.int .u8 z] (by rw [hz1]; rfl) (one_at hb) (by omega) (by omega) (by rw [hz2]; exact growslice_fits (by omega) (by omega))
    refine ⟨w.heap.size, _, _, hr, fun i hi' => ?_, ⟨rfl, rfl, rfl, by simp, fun k hk _ => _root_.Go.heap_alloc_old w.drew _ hk⟩, grownCap_ge _ _ _ _, grownCap_le_maxLen _ _ _ _ (by unfold maxLen; omega)⟩
    rw [Nat.zero_add]
    have hh := World.cell?_alloc_new w.drew ((U8.fl zs).toArray ++ [Value.int .u8 z].toArray ++ Builtin.zeroCells (Value.int .u8 0).cells (grownCap w (zs.length + 1) cap 5 - (zs.length + 1))) 5 i
    refine Eq.trans hh ?_
    rw [← Array.getElem?_toList, Array.toList_append, Array.toList_append, List.getElem?_append_left (by simp [U8.fl]; omega)]
    show (U8.fl zs ++ [Value.int .u8 z])[i]? = _
    by_cases e : i = zs.length
    · rw [e, getr, List.getElem?_append_right (by simp [U8.fl])]; simp [U8.fl]
    · have hi2 : i < zs.length := by omega
      rw [List.getElem?_append_left (by simpa [U8.fl] using hi2), getl i hi2]
      unfold U8.fl
      rw [List.getElem?_map, List.getElem?_eq_getElem hi2, List.getD_eq_getElem?_getD, List.getElem?_eq_getElem hi2]; rfl
theorem wpList_one {ops : Array Oper} {rest : List Oper} {o : Oper} {a : Act} {Q : Exit → Act → World → Prop} {w : World} {g cap : Nat} {zs : List Int} (hc : Cv w g cap zs) (b off c : Nat) (z : Int) (hb : w.cell? ⟨b, off, none⟩ = some (.int .u8 z)) (hlen : zs.length ≤ 4096)
    (hgd : o.guard = none) (s x : Operand) (ho : o.op = .call { callee := .builtin .append, args := #[s, x], argTypes := #[22, 22] }) (hs : a.eval s = .slice (some ⟨g, 0, none⟩) zs.length cap) (hx : a.eval x = .slice (some ⟨b, off, none⟩) 1 c)
    (h : ∀ g' c' w', (∀ i, i < zs.length + 1 → w'.cell? ⟨g', 0 + i, none⟩ = some (.int .u8 ((zs ++ [z]).getD i 0))) → w.grownBy w' (some g) → zs.length + 1 ≤ c' ∧ c' ≤ maxLen → wpList Try.prog ops Q rest (a.put o.dst (.slice (some ⟨g', 0, none⟩) (zs.length + 1) c')) w') : wpList Try.prog ops Q (o :: rest) a w := by
  refine wpList_plain hgd fun K hK => ?_
  obtain ⟨g', c', w', hr, h2, h3, h4⟩ := run_one w o.type hc b off c z hb hlen
  unfold Oper.wp execOp
  simp only [ho, resolve, invoke, builtin, Sem.run_bind, Sem.run_pure, Result.andThen_ok, List.map_toArray, List.map_cons, List.map_nil, hs, hx, hr]
  exact hK _ _ (h g' c' w' h2 h3 h4)
end Cn
end Go.Proofs.Ytpknahhdapmcoaa
