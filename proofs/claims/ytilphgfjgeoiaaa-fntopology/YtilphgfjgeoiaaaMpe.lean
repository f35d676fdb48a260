/-
  A map from ends (an array of two numbers) to tuples that the program makes: what it holds, key by key; made, asked, written, deleted from. (written by mkmpe.py)
-/
import Derived.Test.YtilphgfjgeoiaaaTwoM
import Derived.Maps.OwnSet
import Derived.DeepKeys4
namespace Go.Proofs.Ytilphgfjgeoiaaa
open Go.ChangeShapes Go.WideShapes Go.ChangeAt Go.RowKit
set_option linter.unusedVariables false
set_option maxRecDepth 100000
set_option linter.unusedSimpArgs false
namespace Me
open W1 Tu Tw Go.Maps
/-- How an element reads. -/
def rdR (v : Value) : Option (DataW R × List MemPlace) :=
  match v with
  | .agg cs => (match cs.toList with
    | [.int .i64 a, .int .i64 b, .int .i64 c] => some (.held ⟨a, b, c⟩, [])
    | _ => none)
  | _ => none
theorem rdR_mk (m : R) : rdR m.value = some (.held m, []) := rfl
theorem rdR_inv {v : Value} {m : R} {ps : List MemPlace} (h : rdR v = some (.held m, ps)) : v = m.value := by
  unfold rdR at h
  split at h
  · rename_i cs
    split at h
    · rename_i a b c hl
      cases h
      unfold R.value
      congr 1
      exact Array.toList_inj.1 hl
    · cases h
  · cases h
/-- A key. -/
def kv (v a : Int) : Value := .agg #[.int .i64 v, .int .i64 a]
theorem kv_inj {v a x y : Int} (h : kv v a = kv x y) : v = x ∧ a = y := by unfold kv at h; simpa using h
theorem laidOut : laidOutB Try.prog = true := by kernel_rfl
theorem rowK : (89 : TypeId) < Try.prog.types.size := of_decide_eq_true (by kernel_rfl)
theorem wideK : (match Try.prog.underlying 89 with | some (.array _ _) | some (.struct _) => true | _ => false) = true := by kernel_rfl
theorem law : Keyed Try.prog 89 := Keyed.of_law (deep_law_laid laidOut (m := 2) (by omega) rowK (by kernel_rfl) wideK)
theorem keyT : Try.prog.keyType 89 = true := by kernel_rfl
theorem cellsK : Try.prog.cellsOf 89 = 2 := by kernel_rfl
theorem cellsI : Try.prog.cellsOf 3 = 1 := by kernel_rfl
theorem zeroE (w : World) : (zeroValue 73).run Try.prog w = .ok R.zero.value w := by kernel_rfl
theorem kv_key {v a : Int} (hw1 : (Lit.int .i64 v).wf = true) (hw : (Lit.int .i64 a).wf = true) : ∃ l, keyOf Try.prog 89 (kv v a) = some l := by
  obtain ⟨d, hd⟩ : ∃ d, Try.prog.types.size = d + 1 := ⟨Try.prog.types.size - 1, (Nat.sub_add_cancel (Nat.lt_of_le_of_lt (Nat.zero_le _) rowK)).symm⟩
  have hf : (kv v a).formed Try.prog 89 = true := by simp [kv, Value.formed, Try.underlying89, cellsK]
  unfold keyOf
  rw [Try.underlying89]
  simp only [keyT, hf, Bool.and_self, if_true, hd]
  simp [kv, Value.cells, Program.keyLits, Try.underlying89, cellsK, cellsI, Try.underlying3, hw1, hw, List.range_succ, List.mapM_cons]
theorem run_makeN (n : Int) (w : World) : (Instr.makeMap 74 (some (.int .i64 n))).run Try.prog w = .ok (.map (some w.heap.size)) (w.alloc (.map #[] 0)) := by kernel_rfl
/-- Block b is a map of at most n entries that holds just what f says. -/
def OM (w : World) (b n : Nat) (f : Int → Int → Option R) : Prop :=
  ∃ D : DataW R, w.ownsMap Try.prog 89 rdR b n D ∧ ∀ v a l, keyOf Try.prog 89 (kv v a) = some l → has D l = (f v a).isSome ∧ ∀ m, f v a = some m → ∀ z, D.atKey l z = .held m
theorem om_made (w : World) : OM (w.alloc (.map #[] 0)) w.heap.size 0 (fun _ _ => none) := ⟨_, World.ownsMap_made w _ _ _, fun v a l h => ⟨rfl, fun m hm => by cases hm⟩⟩
theorem OM.lt {w : World} {b n : Nat} {f : Int → Int → Option R} (h : OM w b n f) : b < w.heap.size := let ⟨_, h, _⟩ := h; h.lt
theorem OM.drew {w : World} {b n : Nat} {f : Int → Int → Option R} (h : OM w b n f) : OM w.drew b n f := h
theorem OM.below {w w' : World} {b n : Nat} {f : Int → Int → Option R} (h : OM w b n f) (hb : Below w.heap.size w w') : OM w' b n f := by
  obtain ⟨D, h, hf⟩ := h
  exact ⟨D, h.kept (row := none) ⟨hb.os, hb.tape, hb.output, hb.size, fun k hk _ => hb.block k hk⟩ (by simp), hf⟩
theorem OM.setCell {w : World} {b n : Nat} {f : Int → Int → Option R} (h : OM w b n f) {a : Addr} (ha : b ≠ a.block) (u : Value) : OM (w.setCell a u) b n f := by
  obtain ⟨D, h, hf⟩ := h
  exact ⟨D, h.setCell ha u, hf⟩
theorem OM.mono {w : World} {b n n' : Nat} {f : Int → Int → Option R} (h : OM w b n f) (hn : n ≤ n') : OM w b n' f := by
  obtain ⟨D, h, hf⟩ := h
  exact ⟨D, h.mono hn, hf⟩
theorem OM.size {w : World} {b n : Nat} {f : Int → Int → Option R} (h : OM w b n f) : ∃ q : Nat, q ≤ n ∧ ∀ ty, (Builtin.len_ #[74] ty #[.map (some b)]).run Try.prog w = .ok (.int .i64 q) w := by
  obtain ⟨D, h, _⟩ := h
  exact ⟨_, h.size_le, fun ty => h.len Try.underlying74 ty⟩
theorem OM.look {w : World} {b n : Nat} {f : Int → Int → Option R} (h : OM w b n f) {v a : Int} (hw1 : (Lit.int .i64 v).wf = true) (hw : (Lit.int .i64 a).wf = true) (c : Bool) :
    (Instr.lookup 74 (.map (some b)) (kv v a) c).run Try.prog w = .ok (if c then .tuple #[((f v a).getD R.zero).value, .bool (f v a).isSome] else ((f v a).getD R.zero).value) w := by
  obtain ⟨D, h, hf⟩ := h
  obtain ⟨l, hl⟩ := kv_key hw1 hw
  obtain ⟨hh, hv⟩ := hf v a l hl
  have key : ∀ u ps, rdR u = some (D.atKey l (.held R.zero), ps) → u = ((f v a).getD R.zero).value := by
    intro u ps hr
    cases e : f v a with
    | none => rw [e] at hh; rw [atKey_of_not_has hh] at hr; exact rdR_inv hr
    | some m => rw [hv m e] at hr; exact rdR_inv hr
  cases c
  · obtain ⟨u, ps, hrun, hr⟩ := h.lookup law Try.underlying74 (zeroE w) (rdR_mk R.zero) hl
    rw [hrun, key u ps hr]; rfl
  · obtain ⟨u, ps, hrun, hr⟩ := h.look_ok law Try.underlying74 (zeroE w) (rdR_mk R.zero) hl
    rw [hrun, key u ps hr, hh]; rfl
theorem OM.store {w : World} {b n : Nat} {f : Int → Int → Option R} (h : OM w b n f) (hn : n < maxLen) {v a : Int} (hw1 : (Lit.int .i64 v).wf = true) (hw : (Lit.int .i64 a).wf = true) (m : R) :
    ∃ w', (Instr.mapUpdate 74 (.map (some b)) (kv v a) m.value).run Try.prog w = .ok () w' ∧ OM w' b (n + 1) (updT f v a m) ∧ w.grownBy w' (some b) := by
  obtain ⟨D, h, hf⟩ := h
  obtain ⟨l, hl⟩ := kv_key hw1 hw
  obtain ⟨w', hrun, hown, hg⟩ := h.update law Try.underlying74 hn hl (rdR_mk m)
  refine ⟨w', hrun, ⟨_, hown, fun x y lx hx => ?_⟩, hg⟩
  unfold updT
  by_cases e : x = v ∧ y = a
  · obtain ⟨rfl, rfl⟩ := e
    rw [hl] at hx; cases hx
    rw [if_pos ⟨rfl, rfl⟩]
    refine ⟨has_put_same h.isMap (law.key hl) _, fun m' hm' z => ?_⟩
    cases hm'
    exact atKey_put_same h.isMap (law.key hl) _ z
  · have hne : lx ≠ l := fun el => e (kv_inj (law.inj (el ▸ hx) hl))
    rw [if_neg e]
    obtain ⟨q1, q2⟩ := hf x y lx hx
    exact ⟨by rw [has_put_other hne]; exact q1, fun m' hm' z => by rw [atKey_put_other hne]; exact q2 m' hm' z⟩
theorem OM.drop {w : World} {b n : Nat} {f : Int → Int → Option R} (h : OM w b n f) {v a : Int} (hw1 : (Lit.int .i64 v).wf = true) (hw : (Lit.int .i64 a).wf = true) (ty : TypeId) :
    ∃ w', (Builtin.delete_ #[74, 89] ty #[.map (some b), kv v a]).run Try.prog w = .ok (.tuple #[]) w' ∧ OM w' b n (delT f v a) ∧ w.grownBy w' (some b) := by
  obtain ⟨D, h, hf⟩ := h
  obtain ⟨l, hl⟩ := kv_key hw1 hw
  obtain ⟨w', hrun, hown, hg⟩ := h.drop law Try.underlying74 hl ty
  refine ⟨w', hrun, ⟨_, hown, fun x y lx hx => ?_⟩, hg.grown⟩
  unfold delT
  by_cases e : x = v ∧ y = a
  · obtain ⟨rfl, rfl⟩ := e
    rw [hl] at hx; cases hx
    rw [if_pos ⟨rfl, rfl⟩]
    exact ⟨has_del_same, fun m' hm' => by cases hm'⟩
  · have hne : lx ≠ l := fun el => e (kv_inj (law.inj (el ▸ hx) hl))
    rw [if_neg e]
    obtain ⟨q1, q2⟩ := hf x y lx hx
    exact ⟨by rw [has_del_other hne]; exact q1, fun m' hm' z => by rw [atKey_del_other hne]; exact q2 m' hm' z⟩
section
variable {ops : Array Oper} {rest : List Oper} {o : Oper} {a : Act} {Q : Exit → Act → World → Prop}
/-- 'v, ok := m[k]' at the operation. -/
theorem wpList_look (w : World) (hg : o.guard = none) (m x : Operand) (hop : o.op = Op.lookup 74 m x true) (b n : Nat) (f : Int → Int → Option R) (hm : a.eval m = .map (some b)) (h : OM w b n f) (v k : Int) (hw1 : (Lit.int .i64 v).wf = true) (hw : (Lit.int .i64 k).wf = true) (hx : a.eval x = kv v k)
    (hK : wpList Try.prog ops Q rest (a.put o.dst (.tuple #[((f v k).getD R.zero).value, .bool (f v k).isSome])) w) : wpList Try.prog ops Q (o :: rest) a w := by
  refine wpList_plain hg fun K' hK' => ?_
  have hrun := h.look hw1 hw true
  unfold Oper.wp
  simp [execOp, hop, hm, hx, hrun, Result.andThen]
  exact hK' _ _ hK
/-- 'm[k]' at the operation. -/
theorem wpList_look1 (w : World) (hg : o.guard = none) (m x : Operand) (hop : o.op = Op.lookup 74 m x false) (b n : Nat) (f : Int → Int → Option R) (hm : a.eval m = .map (some b)) (h : OM w b n f) (v k : Int) (hw1 : (Lit.int .i64 v).wf = true) (hw : (Lit.int .i64 k).wf = true) (hx : a.eval x = kv v k)
    (hK : wpList Try.prog ops Q rest (a.put o.dst ((f v k).getD R.zero).value) w) : wpList Try.prog ops Q (o :: rest) a w := by
  refine wpList_plain hg fun K' hK' => ?_
  have hrun := h.look hw1 hw false
  unfold Oper.wp
  simp [execOp, hop, hm, hx, hrun, Result.andThen]
  exact hK' _ _ hK
/-- .. the answer written out. -/
theorem wpList_lookA (w : World) (hg : o.guard = none) (m x : Operand) (hop : o.op = Op.lookup 74 m x true) (b n : Nat) (f : Int → Int → Option R) (hm : a.eval m = .map (some b)) (h : OM w b n f) (v k : Int) (hw1 : (Lit.int .i64 v).wf = true) (hw : (Lit.int .i64 k).wf = true) (hx : a.eval x = kv v k)
    (ke ti va : Int) (E : Bool) (hA : (f v k).getD R.zero = ⟨ke, ti, va⟩) (hE : (f v k).isSome = E)
    (hK : wpList Try.prog ops Q rest (a.put o.dst (.tuple #[.agg #[.int .i64 ke, .int .i64 ti, .int .i64 va], .bool E])) w) : wpList Try.prog ops Q (o :: rest) a w :=
  wpList_look w hg m x hop b n f hm h v k hw1 hw hx (by rw [hA, hE]; exact hK)
theorem wpList_look1A (w : World) (hg : o.guard = none) (m x : Operand) (hop : o.op = Op.lookup 74 m x false) (b n : Nat) (f : Int → Int → Option R) (hm : a.eval m = .map (some b)) (h : OM w b n f) (v k : Int) (hw1 : (Lit.int .i64 v).wf = true) (hw : (Lit.int .i64 k).wf = true) (hx : a.eval x = kv v k)
    (ke ti va : Int) (hA : (f v k).getD R.zero = ⟨ke, ti, va⟩)
    (hK : wpList Try.prog ops Q rest (a.put o.dst (.agg #[.int .i64 ke, .int .i64 ti, .int .i64 va])) w) : wpList Try.prog ops Q (o :: rest) a w :=
  wpList_look1 w hg m x hop b n f hm h v k hw1 hw hx (by rw [hA]; exact hK)
/-- 'm[k] = v' at the operation. -/
theorem wpList_put (w : World) (hg : o.guard = none) (m x vo : Operand) (hop : o.op = Op.mapUpdate 74 m x vo) (b n : Nat) (f : Int → Int → Option R) (hm : a.eval m = .map (some b)) (h : OM w b n f) (hn : n < maxLen) (v k : Int) (hw1 : (Lit.int .i64 v).wf = true) (hw : (Lit.int .i64 k).wf = true) (r : R) (hx : a.eval x = kv v k) (hv : a.eval vo = r.value)
    (hK : ∀ w', OM w' b (n + 1) (updT f v k r) → w.grownBy w' (some b) → wpList Try.prog ops Q rest (a.put o.dst undef) w') : wpList Try.prog ops Q (o :: rest) a w := by
  refine wpList_plain hg fun K' hK' => ?_
  obtain ⟨w', hrun, q1, q2⟩ := h.store hn hw1 hw r
  unfold Oper.wp
  simp [execOp, hop, hm, hx, hv, hrun, Result.andThen]
  exact hK' _ _ (hK w' q1 q2)
/-- The same, inside a region that draws its order. -/
theorem wp_put {K : Act → World → Prop} (w : World) (m x vo : Operand) (hop : o.op = Op.mapUpdate 74 m x vo) (hd : o.dst = none) (b n : Nat) (f : Int → Int → Option R) (hm : a.eval m = .map (some b)) (h : OM w b n f) (hn : n < maxLen) (v k : Int) (hw1 : (Lit.int .i64 v).wf = true) (hw : (Lit.int .i64 k).wf = true) (r : R) (hx : a.eval x = kv v k) (hv : a.eval vo = r.value)
    (hK : ∀ w', OM w' b (n + 1) (updT f v k r) → w.grownBy w' (some b) → K (a.put none undef) w') : o.wp Try.prog a w K Q := by
  obtain ⟨w', hrun, q1, q2⟩ := h.store hn hw1 hw r
  unfold Oper.wp
  simp [execOp, hop, hm, hx, hv, hrun, Result.andThen]
  show K (a.put o.dst undef) w'
  rw [hd]
  exact hK w' q1 q2
theorem wp_look1 {K : Act → World → Prop} (w : World) (m x : Operand) (d : Nat) (hop : o.op = Op.lookup 74 m x false) (hd' : o.dst = some d) (b n : Nat) (f : Int → Int → Option R) (hm : a.eval m = .map (some b)) (h : OM w b n f) (v k : Int) (hw1 : (Lit.int .i64 v).wf = true) (hw : (Lit.int .i64 k).wf = true) (hx : a.eval x = kv v k)
    (ke ti va : Int) (hA : (f v k).getD R.zero = ⟨ke, ti, va⟩) (hK : K (a.put (some d) (.agg #[.int .i64 ke, .int .i64 ti, .int .i64 va])) w) : o.wp Try.prog a w K Q := by
  have hrun := h.look hw1 hw false
  rw [hA] at hrun
  unfold Oper.wp
  simp [execOp, hop, hm, hx, hrun, Result.andThen]
  show K (a.put o.dst _) w
  rw [hd']
  exact hK
/-- 'delete(m, k)' at the operation. -/
theorem wpList_del (w : World) (hg : o.guard = none) (m x : Operand) (hop : o.op = Op.call { callee := Callee.builtin Builtin.delete, args := #[m, x], argTypes := #[74, 89] }) (b n : Nat) (f : Int → Int → Option R) (hm : a.eval m = .map (some b)) (h : OM w b n f) (v k : Int) (hw1 : (Lit.int .i64 v).wf = true) (hw : (Lit.int .i64 k).wf = true) (hx : a.eval x = kv v k)
    (hK : ∀ w', OM w' b n (delT f v k) → w.grownBy w' (some b) → wpList Try.prog ops Q rest (a.put o.dst (.tuple #[])) w') : wpList Try.prog ops Q (o :: rest) a w := by
  refine wpList_plain hg fun K' hK' => ?_
  obtain ⟨w', hrun, q1, q2⟩ := h.drop hw1 hw o.type
  unfold Oper.wp
  simp [execOp, hop, resolve, invoke, builtin, hm, hx, hrun, Result.andThen]
  exact hK' _ _ (hK w' q1 q2)
end
end Me
end Go.Proofs.Ytilphgfjgeoiaaa
