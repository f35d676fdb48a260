/-
  A map from addresses (a struct of one number) to links that the program makes: what it holds, key by key; made, asked, written.
-/
import Derived.Test.YtmelbilepfnmjamRecLink
import Derived.Maps.OwnSet
import Derived.DeepKeys4
namespace Go.Proofs.Ytmelbilepfnmjam
open Go.ChangeShapes Go.WideShapes Go.ChangeAt Go.RowKit
set_option linter.unusedVariables false
set_option maxRecDepth 100000
set_option linter.unusedSimpArgs false
namespace Mp
open W1 Lk Go.Maps
/-- How an element reads. -/
def rdR (v : Value) : Option (DataW R × List MemPlace) :=
  match v with
  | .agg cs => (match cs.toList with
    | [.int .i64 a, .int .i64 b, .int .i64 c, .int .i64 d, .int .i64 e, .int .i64 f] => some (.held ⟨a, b, c, d, e, f⟩, [])
    | _ => none)
  | _ => none
theorem rdR_mk (m : R) : rdR m.value = some (.held m, []) := rfl
theorem rdR_inv {v : Value} {m : R} {ps : List MemPlace} (h : rdR v = some (.held m, ps)) : v = m.value := by
  unfold rdR at h
  split at h
  · rename_i cs
    split at h
    · rename_i a b c d e f hl
      cases h
      unfold R.value
      congr 1
      exact Array.toList_inj.1 hl
    · cases h
  · cases h
/-- A key. -/
def kv (a : Int) : Value := .agg #[.int .i64 a]
theorem kv_inj {a b : Int} (h : kv a = kv b) : a = b := by unfold kv at h; simpa using h
theorem laidOut : laidOutB Try.prog = true := by kernel_rfl
theorem rowK : (66 : TypeId) < Try.prog.types.size := of_decide_eq_true (by kernel_rfl)
theorem wideK : (match Try.prog.underlying 66 with | some (.array _ _) | some (.struct _) => true | _ => false) = true := by kernel_rfl
theorem law : Keyed Try.prog 66 := Keyed.of_law (deep_law_laid laidOut (m := 2) (by omega) rowK (by kernel_rfl) wideK)
theorem keyT : Try.prog.keyType 66 = true := by kernel_rfl
theorem cellsK : Try.prog.cellsOf 66 = 1 := by kernel_rfl
theorem cellsI : Try.prog.cellsOf 3 = 1 := by kernel_rfl
theorem zeroE (w : World) : (zeroValue 32).run Try.prog w = .ok R.zero.value w := by kernel_rfl
theorem kv_key {a : Int} (hw : (Lit.int .i64 a).wf = true) : ∃ l, keyOf Try.prog 66 (kv a) = some l := by
  obtain ⟨d, hd⟩ : ∃ d, Try.prog.types.size = d + 1 := ⟨Try.prog.types.size - 1, (Nat.sub_add_cancel (Nat.lt_of_le_of_lt (Nat.zero_le _) rowK)).symm⟩
  have hf : (kv a).formed Try.prog 66 = true := by simp [kv, Value.formed, Try.underlying66, cellsK]
  unfold keyOf
  rw [Try.underlying66]
  simp only [keyT, hf, Bool.and_self, if_true, hd]
  simp [kv, Value.cells, Program.keyLits, Try.underlying66, cellsK, cellsI, Try.underlying3, hw]
theorem run_makeN (n : Int) (w : World) : (Instr.makeMap 63 (some (.int .i64 n))).run Try.prog w = .ok (.map (some w.heap.size)) (w.alloc (.map #[] 0)) := by kernel_rfl
/-- Block b is a map of at most n entries that holds just what f says. -/
def OM (w : World) (b n : Nat) (f : Int → Option R) : Prop :=
  ∃ D : DataW R, w.ownsMap Try.prog 66 rdR b n D ∧ ∀ a l, keyOf Try.prog 66 (kv a) = some l → has D l = (f a).isSome ∧ ∀ m, f a = some m → ∀ z, D.atKey l z = .held m
theorem om_made (w : World) : OM (w.alloc (.map #[] 0)) w.heap.size 0 (fun _ => none) := ⟨_, World.ownsMap_made w _ _ _, fun a l h => ⟨rfl, fun m hm => by cases hm⟩⟩
theorem OM.lt {w : World} {b n : Nat} {f : Int → Option R} (h : OM w b n f) : b < w.heap.size := let ⟨_, h, _⟩ := h; h.lt
theorem OM.drew {w : World} {b n : Nat} {f : Int → Option R} (h : OM w b n f) : OM w.drew b n f := h
theorem OM.below {w w' : World} {b n : Nat} {f : Int → Option R} (h : OM w b n f) (hb : Below w.heap.size w w') : OM w' b n f := by
  obtain ⟨D, h, hf⟩ := h
  exact ⟨D, h.kept (row := none) ⟨hb.os, hb.tape, hb.output, hb.size, fun k hk _ => hb.block k hk⟩ (by simp), hf⟩
theorem OM.setCell {w : World} {b n : Nat} {f : Int → Option R} (h : OM w b n f) {a : Addr} (ha : b ≠ a.block) (u : Value) : OM (w.setCell a u) b n f := by
  obtain ⟨D, h, hf⟩ := h
  exact ⟨D, h.setCell ha u, hf⟩
theorem OM.mono {w : World} {b n n' : Nat} {f : Int → Option R} (h : OM w b n f) (hn : n ≤ n') : OM w b n' f := by
  obtain ⟨D, h, hf⟩ := h
  exact ⟨D, h.mono hn, hf⟩
/-- What is behind one put. -/
def upd (f : Int → Option R) (a : Int) (m : R) : Int → Option R := fun x => if x = a then some m else f x
theorem OM.size {w : World} {b n : Nat} {f : Int → Option R} (h : OM w b n f) : ∃ q : Nat, q ≤ n ∧ ∀ ty, (Builtin.len_ #[63] ty #[.map (some b)]).run Try.prog w = .ok (.int .i64 q) w := by
  obtain ⟨D, h, _⟩ := h
  exact ⟨_, h.size_le, fun ty => h.len Try.underlying63 ty⟩
theorem OM.look {w : World} {b n : Nat} {f : Int → Option R} (h : OM w b n f) {a : Int} (hw : (Lit.int .i64 a).wf = true) (c : Bool) :
    (Instr.lookup 63 (.map (some b)) (kv a) c).run Try.prog w = .ok (if c then .tuple #[((f a).getD R.zero).value, .bool (f a).isSome] else ((f a).getD R.zero).value) w := by
  obtain ⟨D, h, hf⟩ := h
  obtain ⟨l, hl⟩ := kv_key hw
  obtain ⟨hh, hv⟩ := hf a l hl
  have key : ∀ v ps, rdR v = some (D.atKey l (.held R.zero), ps) → v = ((f a).getD R.zero).value := by
    intro v ps hr
    cases e : f a with
    | none => rw [e] at hh; rw [atKey_of_not_has hh] at hr; exact rdR_inv hr
    | some m => rw [hv m e] at hr; exact rdR_inv hr
  cases c
  · obtain ⟨v, ps, hrun, hr⟩ := h.lookup law Try.underlying63 (zeroE w) (rdR_mk R.zero) hl
    rw [hrun, key v ps hr]; rfl
  · obtain ⟨v, ps, hrun, hr⟩ := h.look_ok law Try.underlying63 (zeroE w) (rdR_mk R.zero) hl
    rw [hrun, key v ps hr, hh]; rfl
theorem OM.store {w : World} {b n : Nat} {f : Int → Option R} (h : OM w b n f) (hn : n < maxLen) {a : Int} (hw : (Lit.int .i64 a).wf = true) (m : R) :
    ∃ w', (Instr.mapUpdate 63 (.map (some b)) (kv a) m.value).run Try.prog w = .ok () w' ∧ OM w' b (n + 1) (upd f a m) ∧ w.grownBy w' (some b) := by
  obtain ⟨D, h, hf⟩ := h
  obtain ⟨l, hl⟩ := kv_key hw
  obtain ⟨w', hrun, hown, hg⟩ := h.update law Try.underlying63 hn hl (rdR_mk m)
  refine ⟨w', hrun, ⟨_, hown, fun x lx hx => ?_⟩, hg⟩
  unfold upd
  by_cases e : x = a
  · subst e
    rw [hl] at hx; cases hx
    rw [if_pos rfl]
    refine ⟨has_put_same h.isMap (law.key hl) _, fun m' hm' z => ?_⟩
    cases hm'
    exact atKey_put_same h.isMap (law.key hl) _ z
  · have hne : lx ≠ l := fun el => e (kv_inj (law.inj (el ▸ hx) hl))
    rw [if_neg e]
    obtain ⟨q1, q2⟩ := hf x lx hx
    exact ⟨by rw [has_put_other hne]; exact q1, fun m' hm' z => by rw [atKey_put_other hne]; exact q2 m' hm' z⟩
section
variable {ops : Array Oper} {rest : List Oper} {o : Oper} {a : Act} {Q : Exit → Act → World → Prop}
/-- 'v, ok := m[k]' at the operation. -/
theorem wpList_look (w : World) (hg : o.guard = none) (m x : Operand) (hop : o.op = Op.lookup 63 m x true) (b n : Nat) (f : Int → Option R) (hm : a.eval m = .map (some b)) (h : OM w b n f) (k : Int) (hw : (Lit.int .i64 k).wf = true) (hx : a.eval x = kv k)
    (hK : wpList Try.prog ops Q rest (a.put o.dst (.tuple #[((f k).getD R.zero).value, .bool (f k).isSome])) w) : wpList Try.prog ops Q (o :: rest) a w := by
  refine wpList_plain hg fun K' hK' => ?_
  have hrun := h.look hw true
  unfold Oper.wp
  simp [execOp, hop, hm, hx, hrun, Result.andThen]
  exact hK' _ _ hK
/-- 'm[k]' at the operation. -/
theorem wpList_look1 (w : World) (hg : o.guard = none) (m x : Operand) (hop : o.op = Op.lookup 63 m x false) (b n : Nat) (f : Int → Option R) (hm : a.eval m = .map (some b)) (h : OM w b n f) (k : Int) (hw : (Lit.int .i64 k).wf = true) (hx : a.eval x = kv k)
    (hK : wpList Try.prog ops Q rest (a.put o.dst ((f k).getD R.zero).value) w) : wpList Try.prog ops Q (o :: rest) a w := by
  refine wpList_plain hg fun K' hK' => ?_
  have hrun := h.look hw false
  unfold Oper.wp
  simp [execOp, hop, hm, hx, hrun, Result.andThen]
  exact hK' _ _ hK
/-- .. the answer written out. -/
theorem wpList_lookA (w : World) (hg : o.guard = none) (m x : Operand) (hop : o.op = Op.lookup 63 m x true) (b n : Nat) (f : Int → Option R) (hm : a.eval m = .map (some b)) (h : OM w b n f) (k : Int) (hw : (Lit.int .i64 k).wf = true) (hx : a.eval x = kv k)
    (ad hd sy ci co wl : Int) (E : Bool) (hA : (f k).getD R.zero = ⟨ad, hd, sy, ci, co, wl⟩) (hE : (f k).isSome = E)
    (hK : wpList Try.prog ops Q rest (a.put o.dst (.tuple #[.agg #[.int .i64 ad, .int .i64 hd, .int .i64 sy, .int .i64 ci, .int .i64 co, .int .i64 wl], .bool E])) w) : wpList Try.prog ops Q (o :: rest) a w :=
  wpList_look w hg m x hop b n f hm h k hw hx (by rw [hA, hE]; exact hK)
theorem wpList_look1A (w : World) (hg : o.guard = none) (m x : Operand) (hop : o.op = Op.lookup 63 m x false) (b n : Nat) (f : Int → Option R) (hm : a.eval m = .map (some b)) (h : OM w b n f) (k : Int) (hw : (Lit.int .i64 k).wf = true) (hx : a.eval x = kv k)
    (ad hd sy ci co wl : Int) (hA : (f k).getD R.zero = ⟨ad, hd, sy, ci, co, wl⟩)
    (hK : wpList Try.prog ops Q rest (a.put o.dst (.agg #[.int .i64 ad, .int .i64 hd, .int .i64 sy, .int .i64 ci, .int .i64 co, .int .i64 wl])) w) : wpList Try.prog ops Q (o :: rest) a w :=
  wpList_look1 w hg m x hop b n f hm h k hw hx (by rw [hA]; exact hK)
/-- 'm[k] = v' at the operation. -/
theorem wpList_put (w : World) (hg : o.guard = none) (m x v : Operand) (hop : o.op = Op.mapUpdate 63 m x v) (b n : Nat) (f : Int → Option R) (hm : a.eval m = .map (some b)) (h : OM w b n f) (hn : n < maxLen) (k : Int) (hw : (Lit.int .i64 k).wf = true) (r : R) (hx : a.eval x = kv k) (hv : a.eval v = r.value)
    (hK : ∀ w', OM w' b (n + 1) (upd f k r) → w.grownBy w' (some b) → wpList Try.prog ops Q rest (a.put o.dst undef) w') : wpList Try.prog ops Q (o :: rest) a w := by
  refine wpList_plain hg fun K' hK' => ?_
  obtain ⟨w', hrun, q1, q2⟩ := h.store hn hw r
  unfold Oper.wp
  simp [execOp, hop, hm, hx, hv, hrun, Result.andThen]
  exact hK' _ _ (hK w' q1 q2)
/-- The same, inside a region that draws its order. -/
theorem wp_put {K : Act → World → Prop} (w : World) (m x v : Operand) (hop : o.op = Op.mapUpdate 63 m x v) (hd : o.dst = none) (b n : Nat) (f : Int → Option R) (hm : a.eval m = .map (some b)) (h : OM w b n f) (hn : n < maxLen) (k : Int) (hw : (Lit.int .i64 k).wf = true) (r : R) (hx : a.eval x = kv k) (hv : a.eval v = r.value)
    (hK : ∀ w', OM w' b (n + 1) (upd f k r) → w.grownBy w' (some b) → K (a.put none undef) w') : o.wp Try.prog a w K Q := by
  obtain ⟨w', hrun, q1, q2⟩ := h.store hn hw r
  unfold Oper.wp
  simp [execOp, hop, hm, hx, hv, hrun, Result.andThen]
  show K (a.put o.dst undef) w'
  rw [hd]
  exact hK w' q1 q2
theorem wp_look1 {K : Act → World → Prop} (w : World) (m x : Operand) (d : Nat) (hop : o.op = Op.lookup 63 m x false) (hd' : o.dst = some d) (b n : Nat) (f : Int → Option R) (hm : a.eval m = .map (some b)) (h : OM w b n f) (k : Int) (hw : (Lit.int .i64 k).wf = true) (hx : a.eval x = kv k)
    (ad hd sy ci co wl : Int) (hA : (f k).getD R.zero = ⟨ad, hd, sy, ci, co, wl⟩) (hK : K (a.put (some d) (.agg #[.int .i64 ad, .int .i64 hd, .int .i64 sy, .int .i64 ci, .int .i64 co, .int .i64 wl])) w) : o.wp Try.prog a w K Q := by
  have hrun := h.look hw false
  rw [hA] at hrun
  unfold Oper.wp
  simp [execOp, hop, hm, hx, hrun, Result.andThen]
  show K (a.put o.dst _) w
  rw [hd']
  exact hK
end
end Mp
end Go.Proofs.Ytmelbilepfnmjam
