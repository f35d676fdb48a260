/-
  Of the texts RtrE, StrTc: what this claim needs of them. (put together by mkprune.py)
-/
import Derived.Test.YtiipppfkpgbpeaaGreatQc8
namespace Go.Proofs.YtiipppfkpgbpeaaGreat
open Go.ChangeShapes Go.WideShapes Go.ChangeAt Go.RowKit
set_option linter.unusedVariables false
set_option linter.unusedSimpArgs false
set_option maxRecDepth 100000
attribute [local go_sem ↓] Go.wp_at_zero Go.wp_at_succ
namespace Rt
open W1
def tnX (b : Bool) (x : Int) : Int := if b = true then x else 0
def tnL {α : Type} (b : Bool) (xs : List α) : List α := if b = true then xs else []
theorem tnL_len {α : Type} (b : Bool) (xs : List α) : (tnL b xs).length ≤ xs.length := by unfold tnL; split <;> simp
theorem CA.but14 {w w' : World} {b : Nat} {cs : List Value} (h : CA w b cs) (hb : w'.heap[b]? = w.heap[b]?) : CA w' b cs := by
  have c : ∀ q, w'.cell? ⟨b, q, none⟩ = w.cell? ⟨b, q, none⟩ := fun q => World.cell?_of_block (a := ⟨b, q, none⟩) hb
  have f : ∀ q, w'.frozen? ⟨b, q, none⟩ = w.frozen? ⟨b, q, none⟩ := fun q => World.frozen?_of_block (a := ⟨b, q, none⟩) hb
  exact ⟨fun j u hu => (c _).trans (h.1 j u hu), fun j hj => ⟨by rw [c]; exact (h.2.1 j hj).1, by rw [f]; exact (h.2.1 j hj).2⟩, h.2.2⟩
theorem bel_alloc' {w w' : World} (h : Below w.heap.size w w') (ob : Obj) : Below w.heap.size w (w'.alloc ob) := h.alloc h.size ob
theorem CA.rtr {w : World} {b : Nat} {x1 x2 x3 x4 x5 x6 : Int} {v1 v2 v3 v4 v5 v6 v7 v8 : Value} (h : CA w b (cC x1 x2 x3 x4 x5 v1 v2 v3 v4 v5 v6 v7 x6 v8)) : w.rangeAt b 0 (rC x1 x2 x3 x4 x5 v1 v2 v3 v4 v5 v6 v7 x6) := fun j v hv => by
  refine h.1 j v ?_
  have hj : j < 13 := by have := (List.getElem?_eq_some_iff.1 hv).1; exact this
  have e : cC x1 x2 x3 x4 x5 v1 v2 v3 v4 v5 v6 v7 x6 v8 = rC x1 x2 x3 x4 x5 v1 v2 v3 v4 v5 v6 v7 x6 ++ [v8] := rfl
  rw [e, List.getElem?_append_left (by exact hj)]; exact hv
theorem sev_nil (w : World) (lo hi : Nat) (X : Nat → Prop) (h : lo ≤ hi) : Sev w lo hi X none none none none none none none [] [] [] [] [] [] [] :=
  ⟨lo, lo, lo, lo, lo, lo, lo, lo, lo, lo, lo, lo, lo, lo, ⟨⟨Nat.le_refl _, Nat.le_refl _, h⟩, ⟨Nat.le_refl _, Nat.le_refl _, h⟩, ⟨Nat.le_refl _, Nat.le_refl _, h⟩, ⟨Nat.le_refl _, Nat.le_refl _, h⟩, ⟨Nat.le_refl _, Nat.le_refl _, h⟩, ⟨Nat.le_refl _, Nat.le_refl _, h⟩, ⟨Nat.le_refl _, Nat.le_refl _, h⟩⟩, ⟨.inl (Nat.le_refl _), .inl (Nat.le_refl _), .inl (Nat.le_refl _), .inl (Nat.le_refl _), .inl (Nat.le_refl _), .inl (Nat.le_refl _), .inl (Nat.le_refl _), .inl (Nat.le_refl _), .inl (Nat.le_refl _), .inl (Nat.le_refl _), .inl (Nat.le_refl _), .inl (Nat.le_refl _), .inl (Nat.le_refl _), .inl (Nat.le_refl _), .inl (Nat.le_refl _), .inl (Nat.le_refl _), .inl (Nat.le_refl _), .inl (Nat.le_refl _), .inl (Nat.le_refl _), .inl (Nat.le_refl _), .inl (Nat.le_refl _)⟩, ⟨(fun k h1 h2 _ => by omega), (fun k h1 h2 _ => by omega), (fun k h1 h2 _ => by omega), (fun k h1 h2 _ => by omega), (fun k h1 h2 _ => by omega), (fun k h1 h2 _ => by omega), (fun k h1 h2 _ => by omega)⟩, .inl rfl, .inl rfl, .inl rfl, .inl rfl, .inl rfl, .inl rfl, .inl rfl⟩
theorem run_execM {op : Oper} {a : Act} {w : World} (x : Operand) (ho : op.op = .load 38 x) {b : Nat} {cs : List Value} (hx : a.eval x = .pointer (some ⟨b, 0, none⟩)) (h : w.rangeAt b 0 cs) (h13 : cs.length = 13) : (execOp a.eval op).run Tryz.prog w = .ok (.value (.agg cs.toArray)) w := by
  unfold execOp
  simp only [ho, hx, Instr.loadAt, Instr.sureAddr, Sem.run_bind, Sem.run_pure, Result.andThen_ok, run_loadVar_mid w b 0 38 cs _ h infoR.1 infoR.2.1 (h13 ▸ infoR.2.2)]
/-- A router read whole by an operation with a guard that lets it pass. -/
theorem wpList_loadRg {ops : Array Oper} {rest : List Oper} {op : Oper} {a : Act} {w : World} {Q : Exit → Act → World → Prop} (x : Operand) (hw : Region.wanted op (yielded ops a.tmps) = true) (ho : op.op = .load 38 x) {b : Nat} {cs : List Value} (hx : a.eval x = .pointer (some ⟨b, 0, none⟩)) (h : RA w b cs)
    (hk : wpList Tryz.prog ops Q rest (a.put op.dst (.agg cs.toArray)) w) : wpList Tryz.prog ops Q (op :: rest) a w :=
  wpList_step fun K hK => by rw [if_pos hw]; exact wp_load_mid 38 x ho b 0 hx cs _ h.1 infoR.1 infoR.2.1 (h.2.2 ▸ infoR.2.2) (hK _ _ hk)
set_option maxHeartbeats 16000000 in
theorem implTN (x1 x2 x3 x4 x5 x6 : Int) (h1 h2 h3 h4 h5 h6 h7 : Nat) (c1 c2 c3 c4 c5 c6 c7 : Nat) (ls : List Lk.R) (tw : List Tu.R) (se : List Tu.R) (du : List Tu.R) (ss : List So.R) (es : List Tu.R) (la : List Ed.R) (w : World) (hm1 : ls.length ≤ 1048576) (hm2 : tw.length ≤ 1048576) (hm3 : se.length ≤ 1048576) (hm4 : du.length ≤ 1048576) (hm5 : ss.length ≤ 1048576) (hm6 : es.length ≤ 1048576) (hm7 : la.length ≤ 1048576) (hr1 : Lk.RM w (some ⟨h1, 0, none⟩) ls) (hr2 : Tu.RM w (some ⟨h2, 0, none⟩) tw) (hr3 : Tu.RM w (some ⟨h3, 0, none⟩) se) (hr4 : Tu.RM w (some ⟨h4, 0, none⟩) du) (hr5 : So.RM w (some ⟨h5, 0, none⟩) ss) (hr6 : Tu.RM w (some ⟨h6, 0, none⟩) es) (hr7 : Ed.RM w (some ⟨h7, 0, none⟩) la) :
    Calls Tryz.prog 26 #[.agg #[.int .i64 x1, .int .i64 x2, .int .i64 x3, .int .i64 x4, .int .i64 x5, .slice (some ⟨h1, 0, none⟩) ls.length c1, .slice (some ⟨h2, 0, none⟩) tw.length c2, .slice (some ⟨h3, 0, none⟩) se.length c3, .slice (some ⟨h4, 0, none⟩) du.length c4, .slice (some ⟨h5, 0, none⟩) ss.length c5, .slice (some ⟨h6, 0, none⟩) es.length c6, .slice (some ⟨h7, 0, none⟩) la.length c7, .int .i64 x6]] w fun e w' => ∃ b1 b2 b3 b4 b5 b6 b7 d1 d2 d3 d4 d5 d6 d7 ta tc t0 t1, e = .returned (.tuple #[.agg (rC (tnX (rtrB x1 x2 x3 x4 x5 x6 ls tw se du ss es la) x1) (tnX (rtrB x1 x2 x3 x4 x5 x6 ls tw se du ss es la) x2) (tnX (rtrB x1 x2 x3 x4 x5 x6 ls tw se du ss es la) x3) (tnX (rtrB x1 x2 x3 x4 x5 x6 ls tw se du ss es la) (advN (advL ls x5) la x4)) (tnX (rtrB x1 x2 x3 x4 x5 x6 ls tw se du ss es la) x5) (.slice b1 (tnL (rtrB x1 x2 x3 x4 x5 x6 ls tw se du ss es la) ls).length d1) (.slice b2 (tnL (rtrB x1 x2 x3 x4 x5 x6 ls tw se du ss es la) tw).length d2) (.slice b3 (tnL (rtrB x1 x2 x3 x4 x5 x6 ls tw se du ss es la) se).length d3) (.slice b4 (tnL (rtrB x1 x2 x3 x4 x5 x6 ls tw se du ss es la) du).length d4) (.slice b5 (tnL (rtrB x1 x2 x3 x4 x5 x6 ls tw se du ss es la) ss).length d5) (.slice b6 (tnL (rtrB x1 x2 x3 x4 x5 x6 ls tw se du ss es la) es).length d6) (.slice b7 (tnL (rtrB x1 x2 x3 x4 x5 x6 ls tw se du ss es la) (advL ls x5)).length d7) (tnX (rtrB x1 x2 x3 x4 x5 x6 ls tw se du ss es la) x6)).toArray, .agg #[.int .i64 (tnX (rtrB x1 x2 x3 x4 x5 x6 ls tw se du ss es la) (advN (advL ls x5) la x4)), .int .i64 (tnX (rtrB x1 x2 x3 x4 x5 x6 ls tw se du ss es la) 15), .slice ta (tnL (rtrB x1 x2 x3 x4 x5 x6 ls tw se du ss es la) (advL ls x5)).length tc], .int .i64 (rtrC (rtrB x1 x2 x3 x4 x5 x6 ls tw se du ss es la))]) ∧ Below w.heap.size w w' ∧ Sev w' w.heap.size w'.heap.size (fun k => t0 ≤ k ∧ k < t1) b1 b2 b3 b4 b5 b6 b7 (tnL (rtrB x1 x2 x3 x4 x5 x6 ls tw se du ss es la) ls) (tnL (rtrB x1 x2 x3 x4 x5 x6 ls tw se du ss es la) tw) (tnL (rtrB x1 x2 x3 x4 x5 x6 ls tw se du ss es la) se) (tnL (rtrB x1 x2 x3 x4 x5 x6 ls tw se du ss es la) du) (tnL (rtrB x1 x2 x3 x4 x5 x6 ls tw se du ss es la) ss) (tnL (rtrB x1 x2 x3 x4 x5 x6 ls tw se du ss es la) es) (tnL (rtrB x1 x2 x3 x4 x5 x6 ls tw se du ss es la) (advL ls x5)) ∧ Ed.Lst w' ta (tnL (rtrB x1 x2 x3 x4 x5 x6 ls tw se du ss es la) (advL ls x5)) t0 t1 ∧ w.heap.size ≤ t0 ∧ t0 ≤ t1 ∧ t1 ≤ w'.heap.size := by
  have hz1 : (w.alloc (.cells #[.int .i64 x1, .int .i64 x2, .int .i64 x3, .int .i64 x4, .int .i64 x5, .slice (some ⟨h1, 0, none⟩) ls.length c1, .slice (some ⟨h2, 0, none⟩) tw.length c2, .slice (some ⟨h3, 0, none⟩) se.length c3, .slice (some ⟨h4, 0, none⟩) du.length c4, .slice (some ⟨h5, 0, none⟩) ss.length c5, .slice (some ⟨h6, 0, none⟩) es.length c6, .slice (some ⟨h7, 0, none⟩) la.length c7, .int .i64 x6] 38)).heap.size = w.heap.size + 1 := by simp
  have hz2 : ((w.alloc (.cells #[.int .i64 x1, .int .i64 x2, .int .i64 x3, .int .i64 x4, .int .i64 x5, .slice (some ⟨h1, 0, none⟩) ls.length c1, .slice (some ⟨h2, 0, none⟩) tw.length c2, .slice (some ⟨h3, 0, none⟩) se.length c3, .slice (some ⟨h4, 0, none⟩) du.length c4, .slice (some ⟨h5, 0, none⟩) ss.length c5, .slice (some ⟨h6, 0, none⟩) es.length c6, .slice (some ⟨h7, 0, none⟩) la.length c7, .int .i64 x6] 38)).alloc (.cells #[.int .i64 0, .int .i64 0, .int .i64 0, .int .i64 0, .int .i64 0, .slice none 0 0, .slice none 0 0, .slice none 0 0, .slice none 0 0, .slice none 0 0, .slice none 0 0, .slice none 0 0, .int .i64 0] 38)).heap.size = w.heap.size + 2 := by simp
  have hz3 : (((w.alloc (.cells #[.int .i64 x1, .int .i64 x2, .int .i64 x3, .int .i64 x4, .int .i64 x5, .slice (some ⟨h1, 0, none⟩) ls.length c1, .slice (some ⟨h2, 0, none⟩) tw.length c2, .slice (some ⟨h3, 0, none⟩) se.length c3, .slice (some ⟨h4, 0, none⟩) du.length c4, .slice (some ⟨h5, 0, none⟩) ss.length c5, .slice (some ⟨h6, 0, none⟩) es.length c6, .slice (some ⟨h7, 0, none⟩) la.length c7, .int .i64 x6] 38)).alloc (.cells #[.int .i64 0, .int .i64 0, .int .i64 0, .int .i64 0, .int .i64 0, .slice none 0 0, .slice none 0 0, .slice none 0 0, .slice none 0 0, .slice none 0 0, .slice none 0 0, .slice none 0 0, .int .i64 0] 38)).alloc (.cells #[.int .i64 0, .int .i64 0, .slice none 0 0] 59)).heap.size = w.heap.size + 3 := by simp
  have bb1 : Below w.heap.size w (w.alloc (.cells #[.int .i64 x1, .int .i64 x2, .int .i64 x3, .int .i64 x4, .int .i64 x5, .slice (some ⟨h1, 0, none⟩) ls.length c1, .slice (some ⟨h2, 0, none⟩) tw.length c2, .slice (some ⟨h3, 0, none⟩) se.length c3, .slice (some ⟨h4, 0, none⟩) du.length c4, .slice (some ⟨h5, 0, none⟩) ss.length c5, .slice (some ⟨h6, 0, none⟩) es.length c6, .slice (some ⟨h7, 0, none⟩) la.length c7, .int .i64 x6] 38)) := (Below.refl _ _).alloc (Nat.le_refl _) _
  have bb3 : Below (w.alloc (.cells #[.int .i64 x1, .int .i64 x2, .int .i64 x3, .int .i64 x4, .int .i64 x5, .slice (some ⟨h1, 0, none⟩) ls.length c1, .slice (some ⟨h2, 0, none⟩) tw.length c2, .slice (some ⟨h3, 0, none⟩) se.length c3, .slice (some ⟨h4, 0, none⟩) du.length c4, .slice (some ⟨h5, 0, none⟩) ss.length c5, .slice (some ⟨h6, 0, none⟩) es.length c6, .slice (some ⟨h7, 0, none⟩) la.length c7, .int .i64 x6] 38)).heap.size (w.alloc (.cells #[.int .i64 x1, .int .i64 x2, .int .i64 x3, .int .i64 x4, .int .i64 x5, .slice (some ⟨h1, 0, none⟩) ls.length c1, .slice (some ⟨h2, 0, none⟩) tw.length c2, .slice (some ⟨h3, 0, none⟩) se.length c3, .slice (some ⟨h4, 0, none⟩) du.length c4, .slice (some ⟨h5, 0, none⟩) ss.length c5, .slice (some ⟨h6, 0, none⟩) es.length c6, .slice (some ⟨h7, 0, none⟩) la.length c7, .int .i64 x6] 38)) (((w.alloc (.cells #[.int .i64 x1, .int .i64 x2, .int .i64 x3, .int .i64 x4, .int .i64 x5, .slice (some ⟨h1, 0, none⟩) ls.length c1, .slice (some ⟨h2, 0, none⟩) tw.length c2, .slice (some ⟨h3, 0, none⟩) se.length c3, .slice (some ⟨h4, 0, none⟩) du.length c4, .slice (some ⟨h5, 0, none⟩) ss.length c5, .slice (some ⟨h6, 0, none⟩) es.length c6, .slice (some ⟨h7, 0, none⟩) la.length c7, .int .i64 x6] 38)).alloc (.cells #[.int .i64 0, .int .i64 0, .int .i64 0, .int .i64 0, .int .i64 0, .slice none 0 0, .slice none 0 0, .slice none 0 0, .slice none 0 0, .slice none 0 0, .slice none 0 0, .slice none 0 0, .int .i64 0] 38)).alloc (.cells #[.int .i64 0, .int .i64 0, .slice none 0 0] 59)) := by rw [hz1]; exact ((Below.refl _ _).alloc (by omega) _).alloc (by omega) _
  have HAL : Hid (Al w (((w.alloc (.cells #[.int .i64 x1, .int .i64 x2, .int .i64 x3, .int .i64 x4, .int .i64 x5, .slice (some ⟨h1, 0, none⟩) ls.length c1, .slice (some ⟨h2, 0, none⟩) tw.length c2, .slice (some ⟨h3, 0, none⟩) se.length c3, .slice (some ⟨h4, 0, none⟩) du.length c4, .slice (some ⟨h5, 0, none⟩) ss.length c5, .slice (some ⟨h6, 0, none⟩) es.length c6, .slice (some ⟨h7, 0, none⟩) la.length c7, .int .i64 x6] 38)).alloc (.cells #[.int .i64 0, .int .i64 0, .int .i64 0, .int .i64 0, .int .i64 0, .slice none 0 0, .slice none 0 0, .slice none 0 0, .slice none 0 0, .slice none 0 0, .slice none 0 0, .slice none 0 0, .int .i64 0] 38)).alloc (.cells #[.int .i64 0, .int .i64 0, .slice none 0 0] 59)) (rC x1 x2 x3 x4 x5 (.slice (some ⟨h1, 0, none⟩) ls.length c1) (.slice (some ⟨h2, 0, none⟩) tw.length c2) (.slice (some ⟨h3, 0, none⟩) se.length c3) (.slice (some ⟨h4, 0, none⟩) du.length c4) (.slice (some ⟨h5, 0, none⟩) ss.length c5) (.slice (some ⟨h6, 0, none⟩) es.length c6) (.slice (some ⟨h7, 0, none⟩) la.length c7) x6)) := hide ⟨bb1.trans (bb3.mono (by omega)), (ra_new w _ rfl _).below bb3⟩
  have HZ : Hid (RA (((w.alloc (.cells #[.int .i64 x1, .int .i64 x2, .int .i64 x3, .int .i64 x4, .int .i64 x5, .slice (some ⟨h1, 0, none⟩) ls.length c1, .slice (some ⟨h2, 0, none⟩) tw.length c2, .slice (some ⟨h3, 0, none⟩) se.length c3, .slice (some ⟨h4, 0, none⟩) du.length c4, .slice (some ⟨h5, 0, none⟩) ss.length c5, .slice (some ⟨h6, 0, none⟩) es.length c6, .slice (some ⟨h7, 0, none⟩) la.length c7, .int .i64 x6] 38)).alloc (.cells #[.int .i64 0, .int .i64 0, .int .i64 0, .int .i64 0, .int .i64 0, .slice none 0 0, .slice none 0 0, .slice none 0 0, .slice none 0 0, .slice none 0 0, .slice none 0 0, .slice none 0 0, .int .i64 0] 38)).alloc (.cells #[.int .i64 0, .int .i64 0, .slice none 0 0] 59)) (w.heap.size + 1) (rC 0 0 0 0 0 (.slice none 0 0) (.slice none 0 0) (.slice none 0 0) (.slice none 0 0) (.slice none 0 0) (.slice none 0 0) (.slice none 0 0) 0)) := hide (by have h := (ra_new (w.alloc (.cells #[.int .i64 x1, .int .i64 x2, .int .i64 x3, .int .i64 x4, .int .i64 x5, .slice (some ⟨h1, 0, none⟩) ls.length c1, .slice (some ⟨h2, 0, none⟩) tw.length c2, .slice (some ⟨h3, 0, none⟩) se.length c3, .slice (some ⟨h4, 0, none⟩) du.length c4, .slice (some ⟨h5, 0, none⟩) ss.length c5, .slice (some ⟨h6, 0, none⟩) es.length c6, .slice (some ⟨h7, 0, none⟩) la.length c7, .int .i64 x6] 38)) (rC 0 0 0 0 0 (.slice none 0 0) (.slice none 0 0) (.slice none 0 0) (.slice none 0 0) (.slice none 0 0) (.slice none 0 0) (.slice none 0 0) 0) rfl 38).below ((Below.refl _ _).alloc (Nat.le_refl _) (.cells #[.int .i64 0, .int .i64 0, .slice none 0 0] 59)); rw [hz1] at h; exact h)
  have HY : Hid (Av.HV (((w.alloc (.cells #[.int .i64 x1, .int .i64 x2, .int .i64 x3, .int .i64 x4, .int .i64 x5, .slice (some ⟨h1, 0, none⟩) ls.length c1, .slice (some ⟨h2, 0, none⟩) tw.length c2, .slice (some ⟨h3, 0, none⟩) se.length c3, .slice (some ⟨h4, 0, none⟩) du.length c4, .slice (some ⟨h5, 0, none⟩) ss.length c5, .slice (some ⟨h6, 0, none⟩) es.length c6, .slice (some ⟨h7, 0, none⟩) la.length c7, .int .i64 x6] 38)).alloc (.cells #[.int .i64 0, .int .i64 0, .int .i64 0, .int .i64 0, .int .i64 0, .slice none 0 0, .slice none 0 0, .slice none 0 0, .slice none 0 0, .slice none 0 0, .slice none 0 0, .slice none 0 0, .int .i64 0] 38)).alloc (.cells #[.int .i64 0, .int .i64 0, .slice none 0 0] 59)) (w.heap.size + 2) 0 0 (.slice none 0 0)) := hide (by have h := Av.hv_new ((w.alloc (.cells #[.int .i64 x1, .int .i64 x2, .int .i64 x3, .int .i64 x4, .int .i64 x5, .slice (some ⟨h1, 0, none⟩) ls.length c1, .slice (some ⟨h2, 0, none⟩) tw.length c2, .slice (some ⟨h3, 0, none⟩) se.length c3, .slice (some ⟨h4, 0, none⟩) du.length c4, .slice (some ⟨h5, 0, none⟩) ss.length c5, .slice (some ⟨h6, 0, none⟩) es.length c6, .slice (some ⟨h7, 0, none⟩) la.length c7, .int .i64 x6] 38)).alloc (.cells #[.int .i64 0, .int .i64 0, .int .i64 0, .int .i64 0, .int .i64 0, .slice none 0 0, .slice none 0 0, .slice none 0 0, .slice none 0 0, .slice none 0 0, .slice none 0 0, .slice none 0 0, .int .i64 0] 38)) 0 0 (.slice none 0 0); rw [hz2] at h; exact h)
  clear bb1 bb3 hz1 hz2
  have HR1 := hide hr1
  clear hr1
  have HR2 := hide hr2
  clear hr2
  have HR3 := hide hr3
  clear hr3
  have HR4 := hide hr4
  clear hr4
  have HR5 := hide hr5
  clear hr5
  have HR6 := hide hr6
  clear hr6
  have HR7 := hide hr7
  clear hr7
  have KO := hide (fun W => implRtr x1 x2 x3 x4 x5 x6 (some ⟨h1, 0, none⟩) (some ⟨h2, 0, none⟩) (some ⟨h3, 0, none⟩) (some ⟨h4, 0, none⟩) (some ⟨h5, 0, none⟩) (some ⟨h6, 0, none⟩) (some ⟨h7, 0, none⟩) c1 c2 c3 c4 c5 c6 c7 ls tw se du ss es la W hm1 hm2 hm3 hm4 hm5 hm6 hm7)
  cases hB : rtrB x1 x2 x3 x4 x5 x6 ls tw se du ss es la
  · rw [hB] at KO
    clear hB
    go_enter Tryz.func26, Tryz.ntmps26
    go_wp2_with (refine wpList_loadR _ rfl rfl rfl (unhide HAL).2 ?_)
    rw [show w.heap.size + 1 + 1 = w.heap.size + 2 from rfl]
    generalize hW0 : (((w.alloc (.cells #[.int .i64 x1, .int .i64 x2, .int .i64 x3, .int .i64 x4, .int .i64 x5, .slice (some ⟨h1, 0, none⟩) ls.length c1, .slice (some ⟨h2, 0, none⟩) tw.length c2, .slice (some ⟨h3, 0, none⟩) se.length c3, .slice (some ⟨h4, 0, none⟩) du.length c4, .slice (some ⟨h5, 0, none⟩) ss.length c5, .slice (some ⟨h6, 0, none⟩) es.length c6, .slice (some ⟨h7, 0, none⟩) la.length c7, .int .i64 x6] 38)).alloc (.cells #[.int .i64 0, .int .i64 0, .int .i64 0, .int .i64 0, .int .i64 0, .slice none 0 0, .slice none 0 0, .slice none 0 0, .slice none 0 0, .slice none 0 0, .slice none 0 0, .slice none 0 0, .int .i64 0] 38)).alloc (.cells #[.int .i64 0, .int .i64 0, .slice none 0 0] 59)) = W0 at *
    clear hW0
    refine (unhide KO _ ((unhide HR1).below (unhide HAL).1) ((unhide HR2).below (unhide HAL).1) ((unhide HR3).below (unhide HAL).1) ((unhide HR4).below (unhide HAL).1) ((unhide HR5).below (unhide HAL).1) ((unhide HR6).below (unhide HAL).1) ((unhide HR7).below (unhide HAL).1)).mono ?_
    rintro e V1 ⟨rfl, b_⟩
    replace HAL := hide (al_below (unhide HAL) b_)
    replace HZ := hide ((unhide HZ).below b_)
    replace HY := hide ((unhide HY).below b_)
    have hv1 := b_.size
    clear b_
    go_wp2_with (refine wpList_storeR2 _ _ rfl rfl (rC 0 0 0 0 0 (.slice none 0 0) (.slice none 0 0) (.slice none 0 0) (.slice none 0 0) (.slice none 0 0) (.slice none 0 0) (.slice none 0 0) 0) (rC_ones rfl rfl rfl rfl rfl rfl rfl) rfl rfl (unhide HZ).2.1 ?_; intro wy zy by_ sy ky; have ZF := hide zy; have AF := hide (by_ _ _ (unhide HAL).1 (Nat.le_succ _)); have YF : Hid (Av.HV wy (w.heap.size + 2) 0 0 (.slice none 0 0)) := hide ((ky _ (by omega)).trans (unhide HY)); obtain ⟨y0, y1, y2⟩ := (unhide YF).bx; have s0 := (unhide YF).free 0; have s1 := (unhide YF).free 1; have s2 := (unhide YF).free 2; have HSY := hide sy; clear zy by_ sy ky)
    clear y0 y1 y2 s0 s1 s2
    have ZG := hide (RA.other (RA.other (RA.other (unhide ZF) (p := ⟨w.heap.size + 2, 0, none⟩) (by show w.heap.size + 1 ≠ w.heap.size + 2; omega) (.int .i64 0)) (p := ⟨w.heap.size + 2, 1, none⟩) (by show w.heap.size + 1 ≠ w.heap.size + 2; omega) (.int .i64 0)) (p := ⟨w.heap.size + 2, 2, none⟩) (by show w.heap.size + 1 ≠ w.heap.size + 2; omega) (.slice none 0 0))
    have YG : Hid (Av.HV (((wy.setCell ⟨w.heap.size + 2, 0, none⟩ (.int .i64 0)).setCell ⟨w.heap.size + 2, 1, none⟩ (.int .i64 0)).setCell ⟨w.heap.size + 2, 2, none⟩ (.slice none 0 0)) (w.heap.size + 2) 0 0 (.slice none 0 0)) := hide (unhide YF).put
    have hle2 : w.heap.size ≤ w.heap.size + 2 := by omega
    have AG := hide ((((unhide AF).setCell (p := ⟨w.heap.size + 2, 0, none⟩) hle2 (.int .i64 0)).setCell (p := ⟨w.heap.size + 2, 1, none⟩) hle2 (.int .i64 0)).setCell (p := ⟨w.heap.size + 2, 2, none⟩) hle2 (.slice none 0 0))
    have HSG : (((wy.setCell ⟨w.heap.size + 2, 0, none⟩ (.int .i64 0)).setCell ⟨w.heap.size + 2, 1, none⟩ (.int .i64 0)).setCell ⟨w.heap.size + 2, 2, none⟩ (.slice none 0 0)).heap.size = wy.heap.size := by simp [World.setCell]
    have HKG : Hid (∀ k, k ≠ w.heap.size + 2 → (((wy.setCell ⟨w.heap.size + 2, 0, none⟩ (.int .i64 0)).setCell ⟨w.heap.size + 2, 1, none⟩ (.int .i64 0)).setCell ⟨w.heap.size + 2, 2, none⟩ (.slice none 0 0)).heap[k]? = wy.heap[k]?) := hide (fun k hp => by rw [Below.heap_setCell _ _ _ _ hp, Below.heap_setCell _ _ _ _ hp, Below.heap_setCell _ _ _ _ hp])
    refine bodyPost_ret (resultsRTC rfl _ _ rfl rfl rfl (unhide ZG) (unhide YG)) rfl ⟨none, none, none, none, none, none, none, 0, 0, 0, 0, 0, 0, 0, none, 0, w.heap.size, w.heap.size, rfl, unhide AG, sev_nil _ _ _ _ (unhide AG).size, .inl rfl, Nat.le_refl _, Nat.le_refl _, (unhide AG).size⟩
  · obtain ⟨m1, m2, m3, m4, m5, m6, m7⟩ := rtr_lens hB
    obtain ⟨_, _, _, q4, _⟩ := rtr_all hB
    have hx4 : 0 ≤ x4 ∧ x4 ≤ 65535 := by unfold inB at q4; simpa using q4
    rw [hB] at KO
    have KC := hide (fun W => coreOf x1 x2 x3 x4 x5 x6 h1 h2 h3 h4 h5 h6 h7 c1 c2 c3 c4 c5 c6 c7 ls tw se du ss es la W (by omega) (by omega) (by omega) (by omega) (by omega) (by omega) (by omega))
    have KA := hide (fun a1 a2 a3 a4 a5 a6 a7 d1 d2 d3 d4 d5 d6 d7 v8 p lo X W => coreAdv x1 x2 x3 x4 x5 x6 a1 a2 a3 a4 a5 a6 a7 d1 d2 d3 d4 d5 d6 d7 v8 ls tw se du ss es la p lo X W m1 (by omega) hx4.1 hx4.2)
    obtain ⟨AA, hAA⟩ : ∃ AA, advL ls x5 = AA := ⟨_, rfl⟩
    obtain ⟨NN, hNN⟩ : ∃ NN, advN AA la x4 = NN := ⟨_, rfl⟩
    have hal : AA.length ≤ 8 := by rw [← hAA]; exact Nat.le_trans (adv_len _ _) m1
    rw [hAA] at KA ⊢
    rw [hNN] at KA ⊢
    clear hB hx4 q4 m1 m2 m3 m4 m5 m6 m7 hAA hNN
    go_enter Tryz.func26, Tryz.ntmps26
    go_wp2_with (refine wpList_loadR _ rfl rfl rfl (unhide HAL).2 ?_)
    rw [show w.heap.size + 1 + 1 = w.heap.size + 2 from rfl]
    generalize hW0 : (((w.alloc (.cells #[.int .i64 x1, .int .i64 x2, .int .i64 x3, .int .i64 x4, .int .i64 x5, .slice (some ⟨h1, 0, none⟩) ls.length c1, .slice (some ⟨h2, 0, none⟩) tw.length c2, .slice (some ⟨h3, 0, none⟩) se.length c3, .slice (some ⟨h4, 0, none⟩) du.length c4, .slice (some ⟨h5, 0, none⟩) ss.length c5, .slice (some ⟨h6, 0, none⟩) es.length c6, .slice (some ⟨h7, 0, none⟩) la.length c7, .int .i64 x6] 38)).alloc (.cells #[.int .i64 0, .int .i64 0, .int .i64 0, .int .i64 0, .int .i64 0, .slice none 0 0, .slice none 0 0, .slice none 0 0, .slice none 0 0, .slice none 0 0, .slice none 0 0, .slice none 0 0, .int .i64 0] 38)).alloc (.cells #[.int .i64 0, .int .i64 0, .slice none 0 0] 59)) = W0 at *
    clear hW0
    refine (unhide KO _ ((unhide HR1).below (unhide HAL).1) ((unhide HR2).below (unhide HAL).1) ((unhide HR3).below (unhide HAL).1) ((unhide HR4).below (unhide HAL).1) ((unhide HR5).below (unhide HAL).1) ((unhide HR6).below (unhide HAL).1) ((unhide HR7).below (unhide HAL).1)).mono ?_
    rintro e V1 ⟨rfl, b_⟩
    replace HAL := hide (al_below (unhide HAL) b_)
    replace HZ := hide ((unhide HZ).below b_)
    replace HY := hide ((unhide HY).below b_)
    have hv1 := b_.size
    clear b_
    go_wp2_with (refine wpList_loadR _ rfl rfl rfl (unhide HAL).2 ?_)
    refine (unhide KC _ ((unhide HR1).below (unhide HAL).1) ((unhide HR2).below (unhide HAL).1) ((unhide HR3).below (unhide HAL).1) ((unhide HR4).below (unhide HAL).1) ((unhide HR5).below (unhide HAL).1) ((unhide HR6).below (unhide HAL).1) ((unhide HR7).below (unhide HAL).1)).mono ?_
    rintro e V2 ⟨a1, a2, a3, a4, a5, a6, a7, d1, d2, d3, d4, d5, d6, d7, rfl, b_, L_⟩
    replace HAL := hide (al_below (unhide HAL) b_)
    replace HZ := hide ((unhide HZ).below b_)
    replace HY := hide ((unhide HY).below b_)
    have HL2 := hide L_
    have hv2 := b_.size
    clear b_ L_
    go_wp2_with (refine wpList_storeC _ _ rfl rfl (cC x1 x2 x3 x4 x5 (.slice a1 ls.length d1) (.slice a2 tw.length d2) (.slice a3 se.length d3) (.slice a4 du.length d4) (.slice a5 ss.length d5) (.slice a6 es.length d6) (.slice a7 la.length d7) x6 (.slice none 0 0)) (cC_ones rfl rfl rfl rfl rfl rfl rfl rfl) rfl rfl (ca_new V2 (cC 0 0 0 0 0 (.slice none 0 0) (.slice none 0 0) (.slice none 0 0) (.slice none 0 0) (.slice none 0 0) (.slice none 0 0) (.slice none 0 0) 0 (.slice none 0 0)) rfl 78).2.1 ?_; intro V3 ra bb hs; have HC3 := hide ra; have b3 : Below V2.heap.size V2 V3 := bb _ _ (bel_alloc (Below.refl V2.heap.size V2) (.cells (cC 0 0 0 0 0 (.slice none 0 0) (.slice none 0 0) (.slice none 0 0) (.slice none 0 0) (.slice none 0 0) (.slice none 0 0) (.slice none 0 0) 0 (.slice none 0 0)).toArray 78)) (Nat.le_refl _); have hs3 : V3.heap.size = V2.heap.size + 1 := (by rw [hs]; simp); replace HAL := hide (al_below (unhide HAL) b3); replace HZ := hide ((unhide HZ).below b3); replace HY := hide ((unhide HY).below b3); have HL3 := hide ((unhide HL2).below b3); clear ra bb hs b3)
    clear HL2
    have HS3 : Hid (Sev V3 V1.heap.size V3.heap.size (fun k => k = V2.heap.size) a1 a2 a3 a4 a5 a6 a7 ls tw se du ss es la) := hide ((Sev.of (unhide HL3) (fun k hk => .inl (by omega))).mono (Nat.le_refl _) (by omega))
    clear HL3
    refine (unhide KA _ _ _ _ _ _ _ _ _ _ _ _ _ _ _ V2.heap.size V1.heap.size (fun k => k = V2.heap.size) _ (fun k hk => by omega) rfl (unhide HC3) (unhide HS3)).mono ?_
    rintro e V4 ⟨ta, tc, t1, b, e7, rfl, g_, c_, s_, l_, ht0, ht1⟩
    have hv4 := g_.size
    have C4 := hide c_
    have S4 : Hid (Sev V4 V1.heap.size V4.heap.size (fun k => V3.heap.size ≤ k ∧ k < t1) a1 a2 a3 a4 a5 a6 b ls tw se du ss es AA) := hide (s_.aside (fun k hk => .inr (.inr (.inr hk))))
    have M4 := hide l_
    have Z4 : Hid (RA V4 (w.heap.size + 1) (rC 0 0 0 0 0 (.slice none 0 0) (.slice none 0 0) (.slice none 0 0) (.slice none 0 0) (.slice none 0 0) (.slice none 0 0) (.slice none 0 0) 0)) := hide (RA.but (unhide HZ) (g_.block _ (by omega) (by simp; omega)))
    have Y4 : Hid (Av.HV V4 (w.heap.size + 2) 0 0 (.slice none 0 0)) := hide ((g_.block _ (by omega) (by simp; omega)).trans (unhide HY))
    have A4 := hide ((unhide HAL).1.grown g_ (by omega) (fun k hk => by cases hk; omega))
    clear g_ c_ s_ l_ HZ HY HAL HC3 HS3
    have bT : Below V4.heap.size V4 (V4.alloc (.cells #[.int .i64 NN, .int .i64 15, .slice ta AA.length tc] 59)) := (Below.refl _ _).alloc (Nat.le_refl _) _
    have C5 := hide ((unhide C4).below bT)
    have S5 := hide ((unhide S4).below bT)
    have M5 := hide ((unhide M4).below bT)
    have Z5 := hide ((unhide Z4).below bT)
    have Y5 := hide ((unhide Y4).below bT)
    have A5 := hide (bel_alloc' (unhide A4) (.cells #[.int .i64 NN, .int .i64 15, .slice ta AA.length tc] 59))
    have T5 : Hid (Av.HV (V4.alloc (.cells #[.int .i64 NN, .int .i64 15, .slice ta AA.length tc] 59)) V4.heap.size NN 15 (.slice ta AA.length tc)) := hide (Av.hv_new _ _ _ _)
    have hv5 : (V4.alloc (.cells #[.int .i64 NN, .int .i64 15, .slice ta AA.length tc] 59)).heap.size = V4.heap.size + 1 := by simp
    clear bT C4 S4 M4 Z4 Y4 A4
    go_wp2_with fail
    generalize hW5 : V4.alloc (.cells #[.int .i64 NN, .int .i64 15, .slice ta AA.length tc] 59) = V5 at *
    clear hW5
    refine wp_region_noPanic ?_
    refine wp_region_held_drew (S := fun w' => w'.rangeAt V2.heap.size 0 (rC x1 x2 x3 NN x5 (.slice a1 ls.length d1) (.slice a2 tw.length d2) (.slice a3 se.length d3) (.slice a4 du.length d4) (.slice a5 ss.length d5) (.slice a6 es.length d6) (.slice b AA.length e7) x6) ∧ w'.cell? ⟨V4.heap.size, 0, none⟩ = some (.int .i64 NN) ∧ w'.cell? ⟨V4.heap.size, 1, none⟩ = some (.int .i64 15) ∧ w'.cell? ⟨V4.heap.size, 2, none⟩ = some (.slice ta AA.length tc)) (by kernel_rfl) (⟨(unhide C5).drew.rtr, (unhide T5).drew.bx⟩) (fun hHeld => ?_)
    (refine Rg.tk (i := 0) (d := 15) (v := ?_) rfl rfl (by kernel_rfl) (by kernel_rfl) (by kernel_rfl) (fun _ _ _ h => h) (by rfl) ?_ (by assumption) ?_; rotate_left; (focus (intro w0 hSw; (try dsimp only at hSw); go_simp; (try with_reducible rfl))); (try simp only [Act.put, List.setIfInBounds_toArray, List.set_cons_zero, List.set_cons_succ]))
    (refine Rg.tk (i := 1) (d := 16) (v := .agg (rC x1 x2 x3 NN x5 (.slice a1 ls.length d1) (.slice a2 tw.length d2) (.slice a3 se.length d3) (.slice a4 du.length d4) (.slice a5 ss.length d5) (.slice a6 es.length d6) (.slice b AA.length e7) x6).toArray) rfl rfl (by kernel_rfl) (by kernel_rfl) (by kernel_rfl) (fun _ _ _ h => h) (by rfl) (fun w0 hSw => run_execM _ rfl rfl hSw.1 rfl) (by assumption) ?_; (try simp only [Act.put, List.setIfInBounds_toArray, List.set_cons_zero, List.set_cons_succ]))
    (refine Rg.tk (i := 2) (d := 17) (v := ?_) rfl rfl (by kernel_rfl) (by kernel_rfl) (by kernel_rfl) (fun _ _ _ h => h) (by rfl) ?_ (by assumption) ?_; rotate_left; (focus (intro w0 hSw; (try dsimp only at hSw); go_simp; (try with_reducible rfl))); (try simp only [Act.put, List.setIfInBounds_toArray, List.set_cons_zero, List.set_cons_succ]))
    (refine wpAnyH_ready (rs := [3]) (by kernel_rfl) (by simp) ?_; refine AllReadyH.cons (o := _) rfl (fun K hK => ?_) AllReadyH.nil; rw [if_pos (by rfl)])
    refine wp_storeR _ _ rfl (rC x1 x2 x3 NN x5 (.slice a1 ls.length d1) (.slice a2 tw.length d2) (.slice a3 se.length d3) (.slice a4 du.length d4) (.slice a5 ss.length d5) (.slice a6 es.length d6) (.slice b AA.length e7) x6) (rC_ones rfl rfl rfl rfl rfl rfl rfl) rfl rfl (unhide Z5).2.1 ?_
    intro wy zy by_ sy ky
    have ZF := hide zy
    have AF := hide (by_ _ _ (unhide A5).drew (Nat.le_succ _))
    have YF : Hid (Av.HV wy (w.heap.size + 2) 0 0 (.slice none 0 0)) := hide ((ky _ (by omega)).trans (unhide Y5))
    have CF := hide ((unhide C5).but14 (ky _ (by omega)))
    have TF : Hid (Av.HV wy V4.heap.size NN 15 (.slice ta AA.length tc)) := hide ((ky _ (by omega)).trans (unhide T5))
    have SF := hide ((unhide S5).but (L := w.heap.size + 1) (H := w.heap.size + 3) (by rw [sy]; exact Nat.le_refl _) (fun k hk h => ky k (by omega)) (.inr (by omega)))
    have MF := hide ((unhide M5).but (p := fun k => k ≠ w.heap.size + 1) (by rw [sy]; exact Nat.le_refl _) (fun k hk h => ky k h) (fun k h1 h2 => by omega))
    have hvF : wy.heap.size = V5.heap.size := sy
    clear zy by_ sy ky C5 S5 M5 Z5 Y5 A5 T5 hHeld
    refine hK.out _ _ ⟨(unhide CF).rtr, (unhide TF).bx⟩ (fun hHeld => ?_)
    clear hK K
    (try simp only [Act.put, List.setIfInBounds_toArray, List.set_cons_zero, List.set_cons_succ])
    obtain ⟨y0, y1, y2⟩ := (unhide YF).bx
    have s0 := (unhide YF).free 0
    have s1 := (unhide YF).free 1
    have s2 := (unhide YF).free 2
    (refine wpAnyH_ready (rs := [4]) (by kernel_rfl) (by simp) ?_; refine AllReadyH.cons (o := _) rfl (fun K hK => ?_) AllReadyH.nil; go_simp)
    clear y0 y1 y2 s0 s1 s2 hHeld
    have ZG := hide (RA.other (RA.other (RA.other (unhide ZF) (p := ⟨w.heap.size + 2, 0, none⟩) (by show w.heap.size + 1 ≠ w.heap.size + 2; omega) (.int .i64 NN)) (p := ⟨w.heap.size + 2, 1, none⟩) (by show w.heap.size + 1 ≠ w.heap.size + 2; omega) (.int .i64 15)) (p := ⟨w.heap.size + 2, 2, none⟩) (by show w.heap.size + 1 ≠ w.heap.size + 2; omega) (.slice ta AA.length tc))
    have YG : Hid (Av.HV (((wy.setCell ⟨w.heap.size + 2, 0, none⟩ (.int .i64 NN)).setCell ⟨w.heap.size + 2, 1, none⟩ (.int .i64 15)).setCell ⟨w.heap.size + 2, 2, none⟩ (.slice ta AA.length tc)) (w.heap.size + 2) NN 15 (.slice ta AA.length tc)) := hide (unhide YF).put
    have hle2 : w.heap.size ≤ w.heap.size + 2 := by omega
    have AG := hide ((((unhide AF).setCell (p := ⟨w.heap.size + 2, 0, none⟩) hle2 (.int .i64 NN)).setCell (p := ⟨w.heap.size + 2, 1, none⟩) hle2 (.int .i64 15)).setCell (p := ⟨w.heap.size + 2, 2, none⟩) hle2 (.slice ta AA.length tc))
    have HSG : (((wy.setCell ⟨w.heap.size + 2, 0, none⟩ (.int .i64 NN)).setCell ⟨w.heap.size + 2, 1, none⟩ (.int .i64 15)).setCell ⟨w.heap.size + 2, 2, none⟩ (.slice ta AA.length tc)).heap.size = wy.heap.size := by simp [World.setCell]
    have HKG : Hid (∀ k, k ≠ w.heap.size + 2 → (((wy.setCell ⟨w.heap.size + 2, 0, none⟩ (.int .i64 NN)).setCell ⟨w.heap.size + 2, 1, none⟩ (.int .i64 15)).setCell ⟨w.heap.size + 2, 2, none⟩ (.slice ta AA.length tc)).heap[k]? = wy.heap[k]?) := hide (fun k hp => by rw [Below.heap_setCell _ _ _ _ hp, Below.heap_setCell _ _ _ _ hp, Below.heap_setCell _ _ _ _ hp])
    have CG := hide ((unhide CF).but14 (unhide HKG _ (by omega)))
    have TG : Hid (Av.HV (((wy.setCell ⟨w.heap.size + 2, 0, none⟩ (.int .i64 NN)).setCell ⟨w.heap.size + 2, 1, none⟩ (.int .i64 15)).setCell ⟨w.heap.size + 2, 2, none⟩ (.slice ta AA.length tc)) V4.heap.size NN 15 (.slice ta AA.length tc)) := hide ((unhide HKG _ (by omega)).trans (unhide TF))
    have SG := hide ((unhide SF).but (L := w.heap.size + 2) (H := w.heap.size + 3) (by rw [HSG]; exact Nat.le_refl _) (fun k hk h => unhide HKG k (by omega)) (.inr (by omega)))
    have MG := hide ((unhide MF).but (p := fun k => k ≠ w.heap.size + 2) (by rw [HSG]; exact Nat.le_refl _) (fun k hk h => unhide HKG k h) (fun k h1 h2 => by omega))
    clear ZF YF AF CF TF SF MF HKG
    generalize hWG : (((wy.setCell ⟨w.heap.size + 2, 0, none⟩ (.int .i64 NN)).setCell ⟨w.heap.size + 2, 1, none⟩ (.int .i64 15)).setCell ⟨w.heap.size + 2, 2, none⟩ (.slice ta AA.length tc)) = wx at *
    clear hWG
    refine hK.out _ _ ⟨(unhide CG).rtr, (unhide TG).bx⟩ (fun hHeld => ?_)
    clear hK K
    (try simp only [Act.put, List.setIfInBounds_toArray, List.set_cons_zero, List.set_cons_succ])
    (refine Rg.tk (i := 5) (d := 4) (v := ?_) rfl rfl (by kernel_rfl) (by kernel_rfl) (by kernel_rfl) (fun _ _ _ h => h) (by rfl) ?_ (by assumption) ?_; rotate_left; (focus (intro w0 hSw; (try dsimp only at hSw); go_simp; (try with_reducible rfl))); (try simp only [Act.put, List.setIfInBounds_toArray, List.set_cons_zero, List.set_cons_succ]))
    refine wpAnyH_done (by kernel_rfl) (NoPanic.normal ?_) _
    clear hHeld
    go_wp2_with fail
    refine bodyPost_ret (resultsRTC rfl _ _ rfl rfl rfl (unhide ZG) (unhide YG)) rfl ⟨a1, a2, a3, a4, a5, a6, b, d1, d2, d3, d4, d5, d6, e7, ta, tc, V3.heap.size, t1, rfl, unhide AG, (unhide SG).mono (by omega) (by omega), unhide MG, by omega, by omega, by omega⟩
set_option maxHeartbeats 16000000 in
theorem specTN (x1 x2 x3 x4 x5 x6 : Int) (h1 h2 h3 h4 h5 h6 h7 : Nat) (c1 c2 c3 c4 c5 c6 c7 : Nat) (ls : List Lk.R) (tw : List Tu.R) (se : List Tu.R) (du : List Tu.R) (ss : List So.R) (es : List Tu.R) (la : List Ed.R) (w : World) (hm1 : ls.length ≤ 1048576) (hm2 : tw.length ≤ 1048576) (hm3 : se.length ≤ 1048576) (hm4 : du.length ≤ 1048576) (hm5 : ss.length ≤ 1048576) (hm6 : es.length ≤ 1048576) (hm7 : la.length ≤ 1048576) (hr1 : Lk.RM w (some ⟨h1, 0, none⟩) ls) (hr2 : Tu.RM w (some ⟨h2, 0, none⟩) tw) (hr3 : Tu.RM w (some ⟨h3, 0, none⟩) se) (hr4 : Tu.RM w (some ⟨h4, 0, none⟩) du) (hr5 : So.RM w (some ⟨h5, 0, none⟩) ss) (hr6 : Tu.RM w (some ⟨h6, 0, none⟩) es) (hr7 : Ed.RM w (some ⟨h7, 0, none⟩) la) :
    Calls Tryz.prog 25 #[.agg #[.int .i64 x1, .int .i64 x2, .int .i64 x3, .int .i64 x4, .int .i64 x5, .slice (some ⟨h1, 0, none⟩) ls.length c1, .slice (some ⟨h2, 0, none⟩) tw.length c2, .slice (some ⟨h3, 0, none⟩) se.length c3, .slice (some ⟨h4, 0, none⟩) du.length c4, .slice (some ⟨h5, 0, none⟩) ss.length c5, .slice (some ⟨h6, 0, none⟩) es.length c6, .slice (some ⟨h7, 0, none⟩) la.length c7, .int .i64 x6]] w fun e w' => ∃ b1 b2 b3 b4 b5 b6 b7 d1 d2 d3 d4 d5 d6 d7 ta tc t0 t1, e = .returned (.tuple #[.agg (rC (tnX (rtrB x1 x2 x3 x4 x5 x6 ls tw se du ss es la) x1) (tnX (rtrB x1 x2 x3 x4 x5 x6 ls tw se du ss es la) x2) (tnX (rtrB x1 x2 x3 x4 x5 x6 ls tw se du ss es la) x3) (tnX (rtrB x1 x2 x3 x4 x5 x6 ls tw se du ss es la) (advN (advL ls x5) la x4)) (tnX (rtrB x1 x2 x3 x4 x5 x6 ls tw se du ss es la) x5) (.slice b1 (tnL (rtrB x1 x2 x3 x4 x5 x6 ls tw se du ss es la) ls).length d1) (.slice b2 (tnL (rtrB x1 x2 x3 x4 x5 x6 ls tw se du ss es la) tw).length d2) (.slice b3 (tnL (rtrB x1 x2 x3 x4 x5 x6 ls tw se du ss es la) se).length d3) (.slice b4 (tnL (rtrB x1 x2 x3 x4 x5 x6 ls tw se du ss es la) du).length d4) (.slice b5 (tnL (rtrB x1 x2 x3 x4 x5 x6 ls tw se du ss es la) ss).length d5) (.slice b6 (tnL (rtrB x1 x2 x3 x4 x5 x6 ls tw se du ss es la) es).length d6) (.slice b7 (tnL (rtrB x1 x2 x3 x4 x5 x6 ls tw se du ss es la) (advL ls x5)).length d7) (tnX (rtrB x1 x2 x3 x4 x5 x6 ls tw se du ss es la) x6)).toArray, .agg #[.int .i64 (tnX (rtrB x1 x2 x3 x4 x5 x6 ls tw se du ss es la) (advN (advL ls x5) la x4)), .int .i64 (tnX (rtrB x1 x2 x3 x4 x5 x6 ls tw se du ss es la) 15), .slice ta (tnL (rtrB x1 x2 x3 x4 x5 x6 ls tw se du ss es la) (advL ls x5)).length tc], .int .i64 (rtrC (rtrB x1 x2 x3 x4 x5 x6 ls tw se du ss es la))]) ∧ Below w.heap.size w w' ∧ Sev w' w.heap.size w'.heap.size (fun k => t0 ≤ k ∧ k < t1) b1 b2 b3 b4 b5 b6 b7 (tnL (rtrB x1 x2 x3 x4 x5 x6 ls tw se du ss es la) ls) (tnL (rtrB x1 x2 x3 x4 x5 x6 ls tw se du ss es la) tw) (tnL (rtrB x1 x2 x3 x4 x5 x6 ls tw se du ss es la) se) (tnL (rtrB x1 x2 x3 x4 x5 x6 ls tw se du ss es la) du) (tnL (rtrB x1 x2 x3 x4 x5 x6 ls tw se du ss es la) ss) (tnL (rtrB x1 x2 x3 x4 x5 x6 ls tw se du ss es la) es) (tnL (rtrB x1 x2 x3 x4 x5 x6 ls tw se du ss es la) (advL ls x5)) ∧ Ed.Lst w' ta (tnL (rtrB x1 x2 x3 x4 x5 x6 ls tw se du ss es la) (advL ls x5)) t0 t1 ∧ w.heap.size ≤ t0 ∧ t0 ≤ t1 ∧ t1 ≤ w'.heap.size := by
  have hz1 : (w.alloc (.cells #[.int .i64 x1, .int .i64 x2, .int .i64 x3, .int .i64 x4, .int .i64 x5, .slice (some ⟨h1, 0, none⟩) ls.length c1, .slice (some ⟨h2, 0, none⟩) tw.length c2, .slice (some ⟨h3, 0, none⟩) se.length c3, .slice (some ⟨h4, 0, none⟩) du.length c4, .slice (some ⟨h5, 0, none⟩) ss.length c5, .slice (some ⟨h6, 0, none⟩) es.length c6, .slice (some ⟨h7, 0, none⟩) la.length c7, .int .i64 x6] 38)).heap.size = w.heap.size + 1 := by simp
  have hz2 : ((w.alloc (.cells #[.int .i64 x1, .int .i64 x2, .int .i64 x3, .int .i64 x4, .int .i64 x5, .slice (some ⟨h1, 0, none⟩) ls.length c1, .slice (some ⟨h2, 0, none⟩) tw.length c2, .slice (some ⟨h3, 0, none⟩) se.length c3, .slice (some ⟨h4, 0, none⟩) du.length c4, .slice (some ⟨h5, 0, none⟩) ss.length c5, .slice (some ⟨h6, 0, none⟩) es.length c6, .slice (some ⟨h7, 0, none⟩) la.length c7, .int .i64 x6] 38)).alloc (.cells #[.int .i64 0, .int .i64 0, .int .i64 0, .int .i64 0, .int .i64 0, .slice none 0 0, .slice none 0 0, .slice none 0 0, .slice none 0 0, .slice none 0 0, .slice none 0 0, .slice none 0 0, .int .i64 0] 38)).heap.size = w.heap.size + 2 := by simp
  have hz3 : (((w.alloc (.cells #[.int .i64 x1, .int .i64 x2, .int .i64 x3, .int .i64 x4, .int .i64 x5, .slice (some ⟨h1, 0, none⟩) ls.length c1, .slice (some ⟨h2, 0, none⟩) tw.length c2, .slice (some ⟨h3, 0, none⟩) se.length c3, .slice (some ⟨h4, 0, none⟩) du.length c4, .slice (some ⟨h5, 0, none⟩) ss.length c5, .slice (some ⟨h6, 0, none⟩) es.length c6, .slice (some ⟨h7, 0, none⟩) la.length c7, .int .i64 x6] 38)).alloc (.cells #[.int .i64 0, .int .i64 0, .int .i64 0, .int .i64 0, .int .i64 0, .slice none 0 0, .slice none 0 0, .slice none 0 0, .slice none 0 0, .slice none 0 0, .slice none 0 0, .slice none 0 0, .int .i64 0] 38)).alloc (.cells #[.int .i64 0, .int .i64 0, .slice none 0 0] 59)).heap.size = w.heap.size + 3 := by simp
  have bb1 : Below w.heap.size w (w.alloc (.cells #[.int .i64 x1, .int .i64 x2, .int .i64 x3, .int .i64 x4, .int .i64 x5, .slice (some ⟨h1, 0, none⟩) ls.length c1, .slice (some ⟨h2, 0, none⟩) tw.length c2, .slice (some ⟨h3, 0, none⟩) se.length c3, .slice (some ⟨h4, 0, none⟩) du.length c4, .slice (some ⟨h5, 0, none⟩) ss.length c5, .slice (some ⟨h6, 0, none⟩) es.length c6, .slice (some ⟨h7, 0, none⟩) la.length c7, .int .i64 x6] 38)) := (Below.refl _ _).alloc (Nat.le_refl _) _
  have bb3 : Below (w.alloc (.cells #[.int .i64 x1, .int .i64 x2, .int .i64 x3, .int .i64 x4, .int .i64 x5, .slice (some ⟨h1, 0, none⟩) ls.length c1, .slice (some ⟨h2, 0, none⟩) tw.length c2, .slice (some ⟨h3, 0, none⟩) se.length c3, .slice (some ⟨h4, 0, none⟩) du.length c4, .slice (some ⟨h5, 0, none⟩) ss.length c5, .slice (some ⟨h6, 0, none⟩) es.length c6, .slice (some ⟨h7, 0, none⟩) la.length c7, .int .i64 x6] 38)).heap.size (w.alloc (.cells #[.int .i64 x1, .int .i64 x2, .int .i64 x3, .int .i64 x4, .int .i64 x5, .slice (some ⟨h1, 0, none⟩) ls.length c1, .slice (some ⟨h2, 0, none⟩) tw.length c2, .slice (some ⟨h3, 0, none⟩) se.length c3, .slice (some ⟨h4, 0, none⟩) du.length c4, .slice (some ⟨h5, 0, none⟩) ss.length c5, .slice (some ⟨h6, 0, none⟩) es.length c6, .slice (some ⟨h7, 0, none⟩) la.length c7, .int .i64 x6] 38)) (((w.alloc (.cells #[.int .i64 x1, .int .i64 x2, .int .i64 x3, .int .i64 x4, .int .i64 x5, .slice (some ⟨h1, 0, none⟩) ls.length c1, .slice (some ⟨h2, 0, none⟩) tw.length c2, .slice (some ⟨h3, 0, none⟩) se.length c3, .slice (some ⟨h4, 0, none⟩) du.length c4, .slice (some ⟨h5, 0, none⟩) ss.length c5, .slice (some ⟨h6, 0, none⟩) es.length c6, .slice (some ⟨h7, 0, none⟩) la.length c7, .int .i64 x6] 38)).alloc (.cells #[.int .i64 0, .int .i64 0, .int .i64 0, .int .i64 0, .int .i64 0, .slice none 0 0, .slice none 0 0, .slice none 0 0, .slice none 0 0, .slice none 0 0, .slice none 0 0, .slice none 0 0, .int .i64 0] 38)).alloc (.cells #[.int .i64 0, .int .i64 0, .slice none 0 0] 59)) := by rw [hz1]; exact ((Below.refl _ _).alloc (by omega) _).alloc (by omega) _
  have HAL : Hid (Al w (((w.alloc (.cells #[.int .i64 x1, .int .i64 x2, .int .i64 x3, .int .i64 x4, .int .i64 x5, .slice (some ⟨h1, 0, none⟩) ls.length c1, .slice (some ⟨h2, 0, none⟩) tw.length c2, .slice (some ⟨h3, 0, none⟩) se.length c3, .slice (some ⟨h4, 0, none⟩) du.length c4, .slice (some ⟨h5, 0, none⟩) ss.length c5, .slice (some ⟨h6, 0, none⟩) es.length c6, .slice (some ⟨h7, 0, none⟩) la.length c7, .int .i64 x6] 38)).alloc (.cells #[.int .i64 0, .int .i64 0, .int .i64 0, .int .i64 0, .int .i64 0, .slice none 0 0, .slice none 0 0, .slice none 0 0, .slice none 0 0, .slice none 0 0, .slice none 0 0, .slice none 0 0, .int .i64 0] 38)).alloc (.cells #[.int .i64 0, .int .i64 0, .slice none 0 0] 59)) (rC x1 x2 x3 x4 x5 (.slice (some ⟨h1, 0, none⟩) ls.length c1) (.slice (some ⟨h2, 0, none⟩) tw.length c2) (.slice (some ⟨h3, 0, none⟩) se.length c3) (.slice (some ⟨h4, 0, none⟩) du.length c4) (.slice (some ⟨h5, 0, none⟩) ss.length c5) (.slice (some ⟨h6, 0, none⟩) es.length c6) (.slice (some ⟨h7, 0, none⟩) la.length c7) x6)) := hide ⟨bb1.trans (bb3.mono (by omega)), (ra_new w _ rfl _).below bb3⟩
  have HZ : Hid (RA (((w.alloc (.cells #[.int .i64 x1, .int .i64 x2, .int .i64 x3, .int .i64 x4, .int .i64 x5, .slice (some ⟨h1, 0, none⟩) ls.length c1, .slice (some ⟨h2, 0, none⟩) tw.length c2, .slice (some ⟨h3, 0, none⟩) se.length c3, .slice (some ⟨h4, 0, none⟩) du.length c4, .slice (some ⟨h5, 0, none⟩) ss.length c5, .slice (some ⟨h6, 0, none⟩) es.length c6, .slice (some ⟨h7, 0, none⟩) la.length c7, .int .i64 x6] 38)).alloc (.cells #[.int .i64 0, .int .i64 0, .int .i64 0, .int .i64 0, .int .i64 0, .slice none 0 0, .slice none 0 0, .slice none 0 0, .slice none 0 0, .slice none 0 0, .slice none 0 0, .slice none 0 0, .int .i64 0] 38)).alloc (.cells #[.int .i64 0, .int .i64 0, .slice none 0 0] 59)) (w.heap.size + 1) (rC 0 0 0 0 0 (.slice none 0 0) (.slice none 0 0) (.slice none 0 0) (.slice none 0 0) (.slice none 0 0) (.slice none 0 0) (.slice none 0 0) 0)) := hide (by have h := (ra_new (w.alloc (.cells #[.int .i64 x1, .int .i64 x2, .int .i64 x3, .int .i64 x4, .int .i64 x5, .slice (some ⟨h1, 0, none⟩) ls.length c1, .slice (some ⟨h2, 0, none⟩) tw.length c2, .slice (some ⟨h3, 0, none⟩) se.length c3, .slice (some ⟨h4, 0, none⟩) du.length c4, .slice (some ⟨h5, 0, none⟩) ss.length c5, .slice (some ⟨h6, 0, none⟩) es.length c6, .slice (some ⟨h7, 0, none⟩) la.length c7, .int .i64 x6] 38)) (rC 0 0 0 0 0 (.slice none 0 0) (.slice none 0 0) (.slice none 0 0) (.slice none 0 0) (.slice none 0 0) (.slice none 0 0) (.slice none 0 0) 0) rfl 38).below ((Below.refl _ _).alloc (Nat.le_refl _) (.cells #[.int .i64 0, .int .i64 0, .slice none 0 0] 59)); rw [hz1] at h; exact h)
  have HY : Hid (Av.HV (((w.alloc (.cells #[.int .i64 x1, .int .i64 x2, .int .i64 x3, .int .i64 x4, .int .i64 x5, .slice (some ⟨h1, 0, none⟩) ls.length c1, .slice (some ⟨h2, 0, none⟩) tw.length c2, .slice (some ⟨h3, 0, none⟩) se.length c3, .slice (some ⟨h4, 0, none⟩) du.length c4, .slice (some ⟨h5, 0, none⟩) ss.length c5, .slice (some ⟨h6, 0, none⟩) es.length c6, .slice (some ⟨h7, 0, none⟩) la.length c7, .int .i64 x6] 38)).alloc (.cells #[.int .i64 0, .int .i64 0, .int .i64 0, .int .i64 0, .int .i64 0, .slice none 0 0, .slice none 0 0, .slice none 0 0, .slice none 0 0, .slice none 0 0, .slice none 0 0, .slice none 0 0, .int .i64 0] 38)).alloc (.cells #[.int .i64 0, .int .i64 0, .slice none 0 0] 59)) (w.heap.size + 2) 0 0 (.slice none 0 0)) := hide (by have h := Av.hv_new ((w.alloc (.cells #[.int .i64 x1, .int .i64 x2, .int .i64 x3, .int .i64 x4, .int .i64 x5, .slice (some ⟨h1, 0, none⟩) ls.length c1, .slice (some ⟨h2, 0, none⟩) tw.length c2, .slice (some ⟨h3, 0, none⟩) se.length c3, .slice (some ⟨h4, 0, none⟩) du.length c4, .slice (some ⟨h5, 0, none⟩) ss.length c5, .slice (some ⟨h6, 0, none⟩) es.length c6, .slice (some ⟨h7, 0, none⟩) la.length c7, .int .i64 x6] 38)).alloc (.cells #[.int .i64 0, .int .i64 0, .int .i64 0, .int .i64 0, .int .i64 0, .slice none 0 0, .slice none 0 0, .slice none 0 0, .slice none 0 0, .slice none 0 0, .slice none 0 0, .slice none 0 0, .int .i64 0] 38)) 0 0 (.slice none 0 0); rw [hz2] at h; exact h)
  clear bb1 bb3 hz1 hz2
  have HR1 := hide hr1
  clear hr1
  have HR2 := hide hr2
  clear hr2
  have HR3 := hide hr3
  clear hr3
  have HR4 := hide hr4
  clear hr4
  have HR5 := hide hr5
  clear hr5
  have HR6 := hide hr6
  clear hr6
  have HR7 := hide hr7
  clear hr7
  have KO := hide (fun W => specRtr x1 x2 x3 x4 x5 x6 (some ⟨h1, 0, none⟩) (some ⟨h2, 0, none⟩) (some ⟨h3, 0, none⟩) (some ⟨h4, 0, none⟩) (some ⟨h5, 0, none⟩) (some ⟨h6, 0, none⟩) (some ⟨h7, 0, none⟩) c1 c2 c3 c4 c5 c6 c7 ls tw se du ss es la W hm1 hm2 hm3 hm4 hm5 hm6 hm7)
  cases hB : rtrB x1 x2 x3 x4 x5 x6 ls tw se du ss es la
  · rw [hB] at KO
    clear hB
    go_enter Tryz.func25, Tryz.ntmps25
    go_wp2_with (refine wpList_loadR _ rfl rfl rfl (unhide HAL).2 ?_)
    rw [show w.heap.size + 1 + 1 = w.heap.size + 2 from rfl]
    generalize hW0 : (((w.alloc (.cells #[.int .i64 x1, .int .i64 x2, .int .i64 x3, .int .i64 x4, .int .i64 x5, .slice (some ⟨h1, 0, none⟩) ls.length c1, .slice (some ⟨h2, 0, none⟩) tw.length c2, .slice (some ⟨h3, 0, none⟩) se.length c3, .slice (some ⟨h4, 0, none⟩) du.length c4, .slice (some ⟨h5, 0, none⟩) ss.length c5, .slice (some ⟨h6, 0, none⟩) es.length c6, .slice (some ⟨h7, 0, none⟩) la.length c7, .int .i64 x6] 38)).alloc (.cells #[.int .i64 0, .int .i64 0, .int .i64 0, .int .i64 0, .int .i64 0, .slice none 0 0, .slice none 0 0, .slice none 0 0, .slice none 0 0, .slice none 0 0, .slice none 0 0, .slice none 0 0, .int .i64 0] 38)).alloc (.cells #[.int .i64 0, .int .i64 0, .slice none 0 0] 59)) = W0 at *
    clear hW0
    refine (unhide KO _ ((unhide HR1).below (unhide HAL).1) ((unhide HR2).below (unhide HAL).1) ((unhide HR3).below (unhide HAL).1) ((unhide HR4).below (unhide HAL).1) ((unhide HR5).below (unhide HAL).1) ((unhide HR6).below (unhide HAL).1) ((unhide HR7).below (unhide HAL).1)).mono ?_
    rintro e V1 ⟨rfl, b_⟩
    replace HAL := hide (al_below (unhide HAL) b_)
    replace HZ := hide ((unhide HZ).below b_)
    replace HY := hide ((unhide HY).below b_)
    have hv1 := b_.size
    clear b_
    go_wp2_with (refine wpList_storeR2 _ _ rfl rfl (rC 0 0 0 0 0 (.slice none 0 0) (.slice none 0 0) (.slice none 0 0) (.slice none 0 0) (.slice none 0 0) (.slice none 0 0) (.slice none 0 0) 0) (rC_ones rfl rfl rfl rfl rfl rfl rfl) rfl rfl (unhide HZ).2.1 ?_; intro wy zy by_ sy ky; have ZF := hide zy; have AF := hide (by_ _ _ (unhide HAL).1 (Nat.le_succ _)); have YF : Hid (Av.HV wy (w.heap.size + 2) 0 0 (.slice none 0 0)) := hide ((ky _ (by omega)).trans (unhide HY)); obtain ⟨y0, y1, y2⟩ := (unhide YF).bx; have s0 := (unhide YF).free 0; have s1 := (unhide YF).free 1; have s2 := (unhide YF).free 2; have HSY := hide sy; clear zy by_ sy ky)
    clear y0 y1 y2 s0 s1 s2
    have ZG := hide (RA.other (RA.other (RA.other (unhide ZF) (p := ⟨w.heap.size + 2, 0, none⟩) (by show w.heap.size + 1 ≠ w.heap.size + 2; omega) (.int .i64 0)) (p := ⟨w.heap.size + 2, 1, none⟩) (by show w.heap.size + 1 ≠ w.heap.size + 2; omega) (.int .i64 0)) (p := ⟨w.heap.size + 2, 2, none⟩) (by show w.heap.size + 1 ≠ w.heap.size + 2; omega) (.slice none 0 0))
    have YG : Hid (Av.HV (((wy.setCell ⟨w.heap.size + 2, 0, none⟩ (.int .i64 0)).setCell ⟨w.heap.size + 2, 1, none⟩ (.int .i64 0)).setCell ⟨w.heap.size + 2, 2, none⟩ (.slice none 0 0)) (w.heap.size + 2) 0 0 (.slice none 0 0)) := hide (unhide YF).put
    have hle2 : w.heap.size ≤ w.heap.size + 2 := by omega
    have AG := hide ((((unhide AF).setCell (p := ⟨w.heap.size + 2, 0, none⟩) hle2 (.int .i64 0)).setCell (p := ⟨w.heap.size + 2, 1, none⟩) hle2 (.int .i64 0)).setCell (p := ⟨w.heap.size + 2, 2, none⟩) hle2 (.slice none 0 0))
    have HSG : (((wy.setCell ⟨w.heap.size + 2, 0, none⟩ (.int .i64 0)).setCell ⟨w.heap.size + 2, 1, none⟩ (.int .i64 0)).setCell ⟨w.heap.size + 2, 2, none⟩ (.slice none 0 0)).heap.size = wy.heap.size := by simp [World.setCell]
    have HKG : Hid (∀ k, k ≠ w.heap.size + 2 → (((wy.setCell ⟨w.heap.size + 2, 0, none⟩ (.int .i64 0)).setCell ⟨w.heap.size + 2, 1, none⟩ (.int .i64 0)).setCell ⟨w.heap.size + 2, 2, none⟩ (.slice none 0 0)).heap[k]? = wy.heap[k]?) := hide (fun k hp => by rw [Below.heap_setCell _ _ _ _ hp, Below.heap_setCell _ _ _ _ hp, Below.heap_setCell _ _ _ _ hp])
    refine bodyPost_ret (resultsRTC rfl _ _ rfl rfl rfl (unhide ZG) (unhide YG)) rfl ⟨none, none, none, none, none, none, none, 0, 0, 0, 0, 0, 0, 0, none, 0, w.heap.size, w.heap.size, rfl, unhide AG, sev_nil _ _ _ _ (unhide AG).size, .inl rfl, Nat.le_refl _, Nat.le_refl _, (unhide AG).size⟩
  · obtain ⟨m1, m2, m3, m4, m5, m6, m7⟩ := rtr_lens hB
    obtain ⟨_, _, _, q4, _⟩ := rtr_all hB
    have hx4 : 0 ≤ x4 ∧ x4 ≤ 65535 := by unfold inB at q4; simpa using q4
    rw [hB] at KO
    have KA := hide (fun W => l12Tc x1 x2 x3 x4 x5 x6 (some ⟨h1, 0, none⟩) (some ⟨h2, 0, none⟩) (some ⟨h3, 0, none⟩) (some ⟨h4, 0, none⟩) (some ⟨h5, 0, none⟩) (some ⟨h6, 0, none⟩) (some ⟨h7, 0, none⟩) c1 c2 c3 c4 c5 c6 c7 ls tw se du ss es la W m1 (by omega) hx4.1 hx4.2)
    obtain ⟨AA, hAA⟩ : ∃ AA, advL ls x5 = AA := ⟨_, rfl⟩
    obtain ⟨NN, hNN⟩ : ∃ NN, advN AA la x4 = NN := ⟨_, rfl⟩
    have hal : AA.length ≤ 8 := by rw [← hAA]; exact Nat.le_trans (adv_len _ _) m1
    rw [hAA] at KA ⊢
    rw [hNN] at KA ⊢
    have KW := hide (fun a7 e7 W => l12Own x1 x2 x3 NN x5 x6 (some ⟨h1, 0, none⟩) (some ⟨h2, 0, none⟩) (some ⟨h3, 0, none⟩) (some ⟨h4, 0, none⟩) a7 h5 0 h6 0 c1 c2 c3 c4 c5 c6 e7 ls tw se du ss es AA W (by omega) (by omega) (by omega) (by omega) (by omega) (by omega) (by omega))
    clear hB hx4 q4 m1 m2 m3 m4 m5 m6 m7 hAA hNN
    go_enter Tryz.func25, Tryz.ntmps25
    go_wp2_with (refine wpList_loadR _ rfl rfl rfl (unhide HAL).2 ?_)
    rw [show w.heap.size + 1 + 1 = w.heap.size + 2 from rfl]
    generalize hW0 : (((w.alloc (.cells #[.int .i64 x1, .int .i64 x2, .int .i64 x3, .int .i64 x4, .int .i64 x5, .slice (some ⟨h1, 0, none⟩) ls.length c1, .slice (some ⟨h2, 0, none⟩) tw.length c2, .slice (some ⟨h3, 0, none⟩) se.length c3, .slice (some ⟨h4, 0, none⟩) du.length c4, .slice (some ⟨h5, 0, none⟩) ss.length c5, .slice (some ⟨h6, 0, none⟩) es.length c6, .slice (some ⟨h7, 0, none⟩) la.length c7, .int .i64 x6] 38)).alloc (.cells #[.int .i64 0, .int .i64 0, .int .i64 0, .int .i64 0, .int .i64 0, .slice none 0 0, .slice none 0 0, .slice none 0 0, .slice none 0 0, .slice none 0 0, .slice none 0 0, .slice none 0 0, .int .i64 0] 38)).alloc (.cells #[.int .i64 0, .int .i64 0, .slice none 0 0] 59)) = W0 at *
    clear hW0
    refine (unhide KO _ ((unhide HR1).below (unhide HAL).1) ((unhide HR2).below (unhide HAL).1) ((unhide HR3).below (unhide HAL).1) ((unhide HR4).below (unhide HAL).1) ((unhide HR5).below (unhide HAL).1) ((unhide HR6).below (unhide HAL).1) ((unhide HR7).below (unhide HAL).1)).mono ?_
    rintro e V1 ⟨rfl, b_⟩
    replace HAL := hide (al_below (unhide HAL) b_)
    replace HZ := hide ((unhide HZ).below b_)
    replace HY := hide ((unhide HY).below b_)
    have hv1 := b_.size
    clear b_
    go_wp2_with (refine wpList_loadR _ rfl rfl rfl (unhide HAL).2 ?_)
    refine (unhide KA _ ((unhide HR1).below (unhide HAL).1) ((unhide HR7).below (unhide HAL).1)).mono ?_
    rintro e V4 ⟨ta, tc, a7, e7, rfl, b_, l_, r_⟩
    replace HAL := hide (al_below (unhide HAL) b_)
    replace HZ := hide ((unhide HZ).below b_)
    replace HY := hide ((unhide HY).below b_)
    have M4 := hide l_
    have R4 := hide r_
    have hlow : ∀ g o, a7 = some ⟨g, o, none⟩ → AA ≠ [] → g < V4.heap.size := fun g o e h0 => by
      rcases r_ with h | ⟨g', o', e', hc⟩
      · exact absurd h h0
      · rw [e] at e'; cases e'
        exact World.block_lt_of_cell? _ _ (hc 0 (List.length_pos_iff.2 h0)).1
    have HNE : Hid (∀ g o, a7 = some ⟨g, o, none⟩ → AA ≠ [] → g ≠ V4.heap.size) := hide (fun g o e h0 => by have := hlow g o e h0; omega)
    have HNF : Hid (∀ g o, a7 = some ⟨g, o, none⟩ → AA ≠ [] → g ≠ V4.heap.size + 1) := hide (fun g o e h0 => by have := hlow g o e h0; omega)
    have hv4 := b_.size
    clear b_ l_ r_ hlow
    have bA : Below V4.heap.size V4 ((V4.alloc (.cells #[.int .i64 0, .int .i64 0, .int .i64 0, .int .i64 0, .int .i64 0, .slice none 0 0, .slice none 0 0, .slice none 0 0, .slice none 0 0, .slice none 0 0, .slice none 0 0, .slice none 0 0, .int .i64 0] 38)).alloc (.cells #[.int .i64 0, .int .i64 0, .slice none 0 0] 59)) := ((Below.refl _ _).alloc (Nat.le_refl _) _).alloc (by simp) _
    have HVB : Hid (((V4.alloc (.cells #[.int .i64 0, .int .i64 0, .int .i64 0, .int .i64 0, .int .i64 0, .slice none 0 0, .slice none 0 0, .slice none 0 0, .slice none 0 0, .slice none 0 0, .slice none 0 0, .slice none 0 0, .int .i64 0] 38)).alloc (.cells #[.int .i64 0, .int .i64 0, .slice none 0 0] 59)).heap.size = V4.heap.size + 2) := hide (by simp)
    have HVC : Hid ((V4.alloc (.cells #[.int .i64 0, .int .i64 0, .int .i64 0, .int .i64 0, .int .i64 0, .slice none 0 0, .slice none 0 0, .slice none 0 0, .slice none 0 0, .slice none 0 0, .slice none 0 0, .slice none 0 0, .int .i64 0] 38)).heap.size = V4.heap.size + 1) := hide (by simp)
    have HTH : Hid (((V4.alloc (.cells #[.int .i64 0, .int .i64 0, .int .i64 0, .int .i64 0, .int .i64 0, .slice none 0 0, .slice none 0 0, .slice none 0 0, .slice none 0 0, .slice none 0 0, .slice none 0 0, .slice none 0 0, .int .i64 0] 38)).alloc (.cells #[.int .i64 0, .int .i64 0, .slice none 0 0] 59)).there V4.heap.size 0 13) := hide (((ra_new V4 (rC 0 0 0 0 0 (.slice none 0 0) (.slice none 0 0) (.slice none 0 0) (.slice none 0 0) (.slice none 0 0) (.slice none 0 0) (.slice none 0 0) 0) rfl 38).below ((Below.refl _ _).alloc (Nat.le_refl _) _)).2.1)
    have T5 : Hid (Av.HV ((V4.alloc (.cells #[.int .i64 0, .int .i64 0, .int .i64 0, .int .i64 0, .int .i64 0, .slice none 0 0, .slice none 0 0, .slice none 0 0, .slice none 0 0, .slice none 0 0, .slice none 0 0, .slice none 0 0, .int .i64 0] 38)).alloc (.cells #[.int .i64 0, .int .i64 0, .slice none 0 0] 59)) (V4.heap.size + 1) 0 0 (.slice none 0 0)) := hide (by have h := Av.hv_new (V4.alloc (.cells #[.int .i64 0, .int .i64 0, .int .i64 0, .int .i64 0, .int .i64 0, .slice none 0 0, .slice none 0 0, .slice none 0 0, .slice none 0 0, .slice none 0 0, .slice none 0 0, .slice none 0 0, .int .i64 0] 38)) 0 0 (.slice none 0 0); rw [unhide HVC] at h; exact h)
    have M5 := hide ((unhide M4).below bA)
    have R5 := hide ((unhide R4).below bA)
    have Z5 := hide ((unhide HZ).below bA)
    have Y5 := hide ((unhide HY).below bA)
    have A5 := hide ((unhide HAL).1.trans (bA.mono (unhide HAL).1.size))
    clear bA M4 R4 HZ HY HVC HAL
    go_wp2_with (refine wpList_storeR2 _ _ rfl rfl (rC x1 x2 x3 NN x5 (.slice (some ⟨h1, 0, none⟩) ls.length c1) (.slice (some ⟨h2, 0, none⟩) tw.length c2) (.slice (some ⟨h3, 0, none⟩) se.length c3) (.slice (some ⟨h4, 0, none⟩) du.length c4) (.slice (some ⟨h5, 0, none⟩) ss.length c5) (.slice (some ⟨h6, 0, none⟩) es.length c6) (.slice a7 AA.length e7) x6) (rC_ones rfl rfl rfl rfl rfl rfl rfl) rfl rfl (unhide HTH) ?_; intro wy zy by_ sy ky; have P6 := hide zy; have hsy := sy.trans (unhide HVB); have T6 : Hid (Av.HV wy (V4.heap.size + 1) 0 0 (.slice none 0 0)) := hide ((ky _ (by omega)).trans (unhide T5)); have M6 := hide ((unhide M5).but (p := fun k => k ≠ V4.heap.size) (by rw [sy]; exact Nat.le_refl _) (fun k hk h => ky k h) (fun k h1 h2 => by omega)); have R6 := hide (ed_keep (q := V4.heap.size) ⟨unhide R5, trivial⟩ (fun k hk h => ky k h) (by rw [sy]; exact Nat.le_refl _) (unhide HNE)); have Z6 := hide (RA.but (unhide Z5) (ky _ (by omega))); have Y6 : Hid (Av.HV wy (w.heap.size + 2) 0 0 (.slice none 0 0)) := hide ((ky _ (by omega)).trans (unhide Y5)); have A6 := hide (by_ _ _ (unhide A5) (by omega)); obtain ⟨y0, y1, y2⟩ := (unhide T6).bx; have s0 := (unhide T6).free 0; have s1 := (unhide T6).free 1; have s2 := (unhide T6).free 2; clear zy by_ sy ky)
    clear y0 y1 y2 s0 s1 s2 HTH HVB T5 M5 R5 Z5 Y5 A5
    have T7 : Hid (Av.HV (((wy.setCell ⟨V4.heap.size + 1, 0, none⟩ (.int .i64 NN)).setCell ⟨V4.heap.size + 1, 1, none⟩ (.int .i64 15)).setCell ⟨V4.heap.size + 1, 2, none⟩ (.slice ta AA.length tc)) (V4.heap.size + 1) NN 15 (.slice ta AA.length tc)) := hide (unhide T6).put
    have hk7 : ∀ k, k ≠ V4.heap.size + 1 → (((wy.setCell ⟨V4.heap.size + 1, 0, none⟩ (.int .i64 NN)).setCell ⟨V4.heap.size + 1, 1, none⟩ (.int .i64 15)).setCell ⟨V4.heap.size + 1, 2, none⟩ (.slice ta AA.length tc)).heap[k]? = wy.heap[k]? := fun k hp => by rw [Below.heap_setCell _ _ _ _ hp, Below.heap_setCell _ _ _ _ hp, Below.heap_setCell _ _ _ _ hp]
    have hs7 : (((wy.setCell ⟨V4.heap.size + 1, 0, none⟩ (.int .i64 NN)).setCell ⟨V4.heap.size + 1, 1, none⟩ (.int .i64 15)).setCell ⟨V4.heap.size + 1, 2, none⟩ (.slice ta AA.length tc)).heap.size = wy.heap.size := by simp [World.setCell]
    have P7 := hide (RA.but (unhide P6) (hk7 _ (by omega)))
    have Z7 := hide (RA.but (unhide Z6) (hk7 _ (by omega)))
    have Y7 : Hid (Av.HV (((wy.setCell ⟨V4.heap.size + 1, 0, none⟩ (.int .i64 NN)).setCell ⟨V4.heap.size + 1, 1, none⟩ (.int .i64 15)).setCell ⟨V4.heap.size + 1, 2, none⟩ (.slice ta AA.length tc)) (w.heap.size + 2) 0 0 (.slice none 0 0)) := hide ((hk7 _ (by omega)).trans (unhide Y6))
    have M7 := hide ((unhide M6).but (p := fun k => k ≠ V4.heap.size + 1) (by rw [hs7]; exact Nat.le_refl _) (fun k hk h => hk7 k h) (fun k h1 h2 => by omega))
    have R7 := hide (ed_keep (q := V4.heap.size + 1) (unhide R6) (fun k hk h => hk7 k h) (by rw [hs7]; exact Nat.le_refl _) (unhide HNF))
    have hle4 : w.heap.size ≤ V4.heap.size + 1 := by omega
    have A7 := hide ((((unhide A6).setCell (p := ⟨V4.heap.size + 1, 0, none⟩) hle4 (.int .i64 NN)).setCell (p := ⟨V4.heap.size + 1, 1, none⟩) hle4 (.int .i64 15)).setCell (p := ⟨V4.heap.size + 1, 2, none⟩) hle4 (.slice ta AA.length tc))
    clear T6 P6 Z6 Y6 M6 R6 A6 hk7
    generalize hW7 : (((wy.setCell ⟨V4.heap.size + 1, 0, none⟩ (.int .i64 NN)).setCell ⟨V4.heap.size + 1, 1, none⟩ (.int .i64 15)).setCell ⟨V4.heap.size + 1, 2, none⟩ (.slice ta AA.length tc)) = V7 at *
    clear hW7
    have A7d := hide (unhide A7).drew
    refine wp_region_noPanic ?_
    refine wp_region_held_drew (S := fun w' => RA w' V4.heap.size (rC x1 x2 x3 NN x5 (.slice (some ⟨h1, 0, none⟩) ls.length c1) (.slice (some ⟨h2, 0, none⟩) tw.length c2) (.slice (some ⟨h3, 0, none⟩) se.length c3) (.slice (some ⟨h4, 0, none⟩) du.length c4) (.slice (some ⟨h5, 0, none⟩) ss.length c5) (.slice (some ⟨h6, 0, none⟩) es.length c6) (.slice a7 AA.length e7) x6) ∧ w'.cell? ⟨V4.heap.size + 1, 0, none⟩ = some (.int .i64 NN) ∧ w'.cell? ⟨V4.heap.size + 1, 1, none⟩ = some (.int .i64 15) ∧ w'.cell? ⟨V4.heap.size + 1, 2, none⟩ = some (.slice ta AA.length tc)) (by kernel_rfl) (⟨(unhide P7).drew, (unhide T7).drew.bx⟩) (fun hHeld => ?_)
    (refine Rg.tk (i := 0) (d := 17) (v := .agg (rC x1 x2 x3 NN x5 (.slice (some ⟨h1, 0, none⟩) ls.length c1) (.slice (some ⟨h2, 0, none⟩) tw.length c2) (.slice (some ⟨h3, 0, none⟩) se.length c3) (.slice (some ⟨h4, 0, none⟩) du.length c4) (.slice (some ⟨h5, 0, none⟩) ss.length c5) (.slice (some ⟨h6, 0, none⟩) es.length c6) (.slice a7 AA.length e7) x6).toArray) rfl rfl (by kernel_rfl) (by kernel_rfl) (by kernel_rfl) (fun _ _ _ h => h) (by rfl) (fun w0 hSw => run_execR _ rfl rfl hSw.1) (by assumption) ?_; (try simp only [Act.put, List.setIfInBounds_toArray, List.set_cons_zero, List.set_cons_succ]))
    (refine Rg.tk (i := 2) (d := 19) (v := ?_) rfl rfl (by kernel_rfl) (by kernel_rfl) (by kernel_rfl) (fun _ _ _ h => h) (by rfl) ?_ (by assumption) ?_; rotate_left; (focus (intro w0 hSw; (try dsimp only at hSw); go_simp; (try with_reducible rfl))); (try simp only [Act.put, List.setIfInBounds_toArray, List.set_cons_zero, List.set_cons_succ]))
    (refine wpAnyH_ready (rs := [1]) (by kernel_rfl) (by simp) ?_; refine AllReadyH.cons (o := _) rfl (fun K hK => ?_) AllReadyH.nil; go_simp)
    refine (unhide KW _ _ _ ((unhide HR1).below (unhide A7d)) ((unhide HR2).below (unhide A7d)) ((unhide HR3).below (unhide A7d)) ((unhide HR4).below (unhide A7d)) ((unhide HR5).below (unhide A7d)) ((unhide HR6).below (unhide A7d)) (unhide R7).1.drew).mono ?_
    rintro e V8 ⟨b1, b2, b3, b4, b5, b6, b7, d1, d2, d3, d4, d5, d6, d7, rfl, b__, L_⟩
    have b_ : Below V7.heap.size V7 V8 := (Below.refl _ _).drew.trans b__
    have P8 := hide ((unhide P7).below b_)
    have T8 := hide ((unhide T7).below b_)
    have Z8 := hide ((unhide Z7).below b_)
    have Y8 := hide ((unhide Y7).below b_)
    have M8 := hide ((unhide M7).below b_)
    have A8 := hide ((unhide A7).trans (b_.mono (unhide A7).size))
    have hv8 := b_.size
    have L8 : Hid (RL V8 V7.heap.size V8.heap.size b1 b2 b3 b4 b5 b6 b7 ls tw se du ss es AA) := hide L_
    have S8 : Hid (Sev V8 V7.heap.size V8.heap.size (fun k => V1.heap.size ≤ k ∧ k < V4.heap.size) b1 b2 b3 b4 b5 b6 b7 ls tw se du ss es AA) := hide (Sev.of (unhide L8) (fun k hk => .inr (by omega)))
    clear b_ b__ L_ L8 P7 T7 Z7 Y7 M7 A7 A7d hHeld
    refine hK.out _ _ ⟨unhide P8, (unhide T8).bx⟩ (fun hHeld => ?_)
    clear hK K
    (try simp only [Act.put, List.setIfInBounds_toArray, List.set_cons_zero, List.set_cons_succ])
    (refine wpAnyH_ready (rs := [3]) (by kernel_rfl) (by simp) ?_; refine AllReadyH.cons (o := _) rfl (fun K hK => ?_) AllReadyH.nil; rw [if_pos (by rfl)])
    refine wp_storeR _ _ rfl (rC x1 x2 x3 NN x5 (.slice b1 ls.length d1) (.slice b2 tw.length d2) (.slice b3 se.length d3) (.slice b4 du.length d4) (.slice b5 ss.length d5) (.slice b6 es.length d6) (.slice b7 AA.length d7) x6) (rC_ones rfl rfl rfl rfl rfl rfl rfl) rfl rfl (unhide Z8).2.1 ?_
    intro wy zy by_ sy ky
    have ZF := hide zy
    have AF := hide (by_ _ _ (unhide A8) (Nat.le_succ _))
    have YF : Hid (Av.HV wy (w.heap.size + 2) 0 0 (.slice none 0 0)) := hide ((ky _ (by omega)).trans (unhide Y8))
    have PF := hide (RA.but (unhide P8) (ky _ (by omega)))
    have TF : Hid (Av.HV wy (V4.heap.size + 1) NN 15 (.slice ta AA.length tc)) := hide ((ky _ (by omega)).trans (unhide T8))
    have SF := hide ((unhide S8).but (L := w.heap.size + 1) (H := w.heap.size + 3) (by rw [sy]; exact Nat.le_refl _) (fun k hk h => ky k (by omega)) (.inr (by omega)))
    have MF := hide ((unhide M8).but (p := fun k => k ≠ w.heap.size + 1) (by rw [sy]; exact Nat.le_refl _) (fun k hk h => ky k h) (fun k h1 h2 => by omega))
    have hvF : wy.heap.size = V8.heap.size := sy
    clear zy by_ sy ky P8 S8 M8 Z8 Y8 A8 T8 hHeld
    refine hK.out _ _ ⟨unhide PF, (unhide TF).bx⟩ (fun hHeld => ?_)
    clear hK K
    (try simp only [Act.put, List.setIfInBounds_toArray, List.set_cons_zero, List.set_cons_succ])
    obtain ⟨y0, y1, y2⟩ := (unhide YF).bx
    have s0 := (unhide YF).free 0
    have s1 := (unhide YF).free 1
    have s2 := (unhide YF).free 2
    (refine wpAnyH_ready (rs := [4]) (by kernel_rfl) (by simp) ?_; refine AllReadyH.cons (o := _) rfl (fun K hK => ?_) AllReadyH.nil; go_simp)
    clear y0 y1 y2 s0 s1 s2 hHeld
    have ZG := hide (RA.other (RA.other (RA.other (unhide ZF) (p := ⟨w.heap.size + 2, 0, none⟩) (by show w.heap.size + 1 ≠ w.heap.size + 2; omega) (.int .i64 NN)) (p := ⟨w.heap.size + 2, 1, none⟩) (by show w.heap.size + 1 ≠ w.heap.size + 2; omega) (.int .i64 15)) (p := ⟨w.heap.size + 2, 2, none⟩) (by show w.heap.size + 1 ≠ w.heap.size + 2; omega) (.slice ta AA.length tc))
    have YG : Hid (Av.HV (((wy.setCell ⟨w.heap.size + 2, 0, none⟩ (.int .i64 NN)).setCell ⟨w.heap.size + 2, 1, none⟩ (.int .i64 15)).setCell ⟨w.heap.size + 2, 2, none⟩ (.slice ta AA.length tc)) (w.heap.size + 2) NN 15 (.slice ta AA.length tc)) := hide (unhide YF).put
    have hle2 : w.heap.size ≤ w.heap.size + 2 := by omega
    have AG := hide ((((unhide AF).setCell (p := ⟨w.heap.size + 2, 0, none⟩) hle2 (.int .i64 NN)).setCell (p := ⟨w.heap.size + 2, 1, none⟩) hle2 (.int .i64 15)).setCell (p := ⟨w.heap.size + 2, 2, none⟩) hle2 (.slice ta AA.length tc))
    have HSG : (((wy.setCell ⟨w.heap.size + 2, 0, none⟩ (.int .i64 NN)).setCell ⟨w.heap.size + 2, 1, none⟩ (.int .i64 15)).setCell ⟨w.heap.size + 2, 2, none⟩ (.slice ta AA.length tc)).heap.size = wy.heap.size := by simp [World.setCell]
    have HKG : Hid (∀ k, k ≠ w.heap.size + 2 → (((wy.setCell ⟨w.heap.size + 2, 0, none⟩ (.int .i64 NN)).setCell ⟨w.heap.size + 2, 1, none⟩ (.int .i64 15)).setCell ⟨w.heap.size + 2, 2, none⟩ (.slice ta AA.length tc)).heap[k]? = wy.heap[k]?) := hide (fun k hp => by rw [Below.heap_setCell _ _ _ _ hp, Below.heap_setCell _ _ _ _ hp, Below.heap_setCell _ _ _ _ hp])
    have PG := hide (RA.but (unhide PF) (unhide HKG _ (by omega)))
    have TG : Hid (Av.HV (((wy.setCell ⟨w.heap.size + 2, 0, none⟩ (.int .i64 NN)).setCell ⟨w.heap.size + 2, 1, none⟩ (.int .i64 15)).setCell ⟨w.heap.size + 2, 2, none⟩ (.slice ta AA.length tc)) (V4.heap.size + 1) NN 15 (.slice ta AA.length tc)) := hide ((unhide HKG _ (by omega)).trans (unhide TF))
    have SG := hide ((unhide SF).but (L := w.heap.size + 2) (H := w.heap.size + 3) (by rw [HSG]; exact Nat.le_refl _) (fun k hk h => unhide HKG k (by omega)) (.inr (by omega)))
    have MG := hide ((unhide MF).but (p := fun k => k ≠ w.heap.size + 2) (by rw [HSG]; exact Nat.le_refl _) (fun k hk h => unhide HKG k h) (fun k h1 h2 => by omega))
    clear ZF YF AF PF TF SF MF HKG
    generalize hWG : (((wy.setCell ⟨w.heap.size + 2, 0, none⟩ (.int .i64 NN)).setCell ⟨w.heap.size + 2, 1, none⟩ (.int .i64 15)).setCell ⟨w.heap.size + 2, 2, none⟩ (.slice ta AA.length tc)) = wx at *
    clear hWG
    refine hK.out _ _ ⟨unhide PG, (unhide TG).bx⟩ (fun hHeld => ?_)
    clear hK K
    (try simp only [Act.put, List.setIfInBounds_toArray, List.set_cons_zero, List.set_cons_succ])
    (refine Rg.tk (i := 5) (d := 4) (v := ?_) rfl rfl (by kernel_rfl) (by kernel_rfl) (by kernel_rfl) (fun _ _ _ h => h) (by rfl) ?_ (by assumption) ?_; rotate_left; (focus (intro w0 hSw; (try dsimp only at hSw); go_simp; (try with_reducible rfl))); (try simp only [Act.put, List.setIfInBounds_toArray, List.set_cons_zero, List.set_cons_succ]))
    refine wpAnyH_done (by kernel_rfl) (NoPanic.normal ?_) _
    clear hHeld
    go_wp2_with fail
    refine bodyPost_ret (resultsRTC rfl _ _ rfl rfl rfl (unhide ZG) (unhide YG)) rfl ⟨b1, b2, b3, b4, b5, b6, b7, d1, d2, d3, d4, d5, d6, d7, ta, tc, V1.heap.size, V4.heap.size, rfl, unhide AG, (unhide SG).mono (by omega) (by omega), unhide MG, by omega, by omega, by omega⟩
end Rt
namespace Av
theorem HV.but {w w' : World} {b : Nat} {x y : Int} {v : Value} (h : HV w b x y v) (hb : w'.heap[b]? = w.heap[b]?) : HV w' b x y v := hb.trans h
end Av
namespace Rt
end Rt
end Go.Proofs.YtiipppfkpgbpeaaGreat
namespace Go.Proofs.YtiipppfkpgbpeaaGreat
open Go.ChangeShapes Go.WideShapes Go.ChangeAt Go.RowKit
set_option linter.unusedVariables false
set_option maxRecDepth 100000
set_option linter.unusedSimpArgs false
attribute [local go_sem ↓] Go.wp_at_zero Go.wp_at_succ
namespace Ts
open W1
set_option maxHeartbeats 1000000 in
theorem eq (x y : Int) (a b : Option Addr) (ms : List Ed.R) (ca cb : Nat) (w : World) (hm : ms.length ≤ 1048576) (hr : Ed.RM w a ms) (hr' : Ed.RM w b ms) :
    Calls Tryz.prog 27 #[.agg #[.int .i64 x, .int .i64 y, .slice a ms.length ca], .agg #[.int .i64 x, .int .i64 y, .slice b ms.length cb]] w fun e w' => e = .returned (.bool true) ∧ Below w.heap.size w w' := by
  have HR := hide hr
  have HR' := hide hr'
  clear hr hr'
  go_enter Tryz.func27, Tryz.ntmps27
  go_wp2_with fail
  refine (Ed.eqS a b ms ca cb _ hm ((unhide HR).below (by repeat (first | exact Below.refl _ _ | refine Below.alloc ?_ (by simp <;> omega) _))) ((unhide HR').below (by repeat (first | exact Below.refl _ _ | refine Below.alloc ?_ (by simp <;> omega) _)))).mono ?_
  rintro e w1 ⟨rfl, b1⟩
  have B1 : Hid (Below w.heap.size w w1) := hide ((by repeat (first | exact Below.refl _ _ | refine Below.alloc ?_ (by simp <;> omega) _) : Below w.heap.size w _).trans (b1.mono (by simp <;> omega)))
  clear b1
  go_wp2_with fail
  go_ret
  exact ⟨rfl, unhide B1⟩
set_option maxHeartbeats 1000000 in
theorem mark (x y : Int) (a : Option Addr) (c lo hi : Nat) (K : Int) (ms : List Ed.R) (w : World) (hK : 0 ≤ K) (hK1 : K ≤ 1073741824) (hn : ms.length ≤ 1048576) (h : Ed.Lst w a ms lo hi) :
    Calls Tryz.prog 28 #[.agg #[.int .i64 x, .int .i64 y, .slice a ms.length c], .int .i64 K] w fun e w' => e = .returned (.int .i64 (K + 2 * (ms.length : Int))) ∧ w.heap.size ≤ w'.heap.size ∧ Below (min lo w.heap.size) w w' ∧ Ed.Lst w' a (Ed.marks K ms.length) lo hi ∧ ∀ k, k < w.heap.size → (k < lo ∨ hi ≤ k) → w'.heap[k]? = w.heap[k]? := by
  have HL := hide h
  clear h
  go_enter Tryz.func28, Tryz.ntmps28
  go_wp2_with fail
  refine (Ed.markF a c lo hi K ms _ hK hK1 hn ((unhide HL).below ((Below.refl _ _).alloc (Nat.le_refl _) _))).mono ?_
  rintro e w1 ⟨rfl, hz, b1, f1, k1⟩
  have HZ := hide hz
  have B1 := hide b1
  have F1 := hide f1
  have K1 := hide k1
  clear hz b1 f1 k1
  go_wp2_with fail
  go_ret
  refine ⟨rfl, ?_, ?_, unhide F1, fun k hk hor => ?_⟩
  · have := unhide HZ; simp at this; omega
  · exact ((Below.refl _ _).alloc (Nat.min_le_right _ _) _).trans ((unhide B1).mono (by simp; omega))
  · exact (unhide K1 k (by simp; omega) hor).trans (((Below.refl w.heap.size w).alloc (Nat.le_refl _) _).block k hk)
set_option maxHeartbeats 1000000 in
theorem held (x y : Int) (a : Option Addr) (c n lo hi : Nat) (K : Int) (w : World) (hK : 0 ≤ K) (hK1 : K ≤ 1073741824) (hn : n ≤ 1048576) (h : Ed.Lst w a (Ed.marks K n) lo hi) :
    Calls Tryz.prog 29 #[.agg #[.int .i64 x, .int .i64 y, .slice a n c], .int .i64 K] w fun e w' => e = .returned (.int .i64 (K + 2 * (n : Int))) ∧ Below w.heap.size w w' := by
  have HL := hide h
  clear h
  go_enter Tryz.func29, Tryz.ntmps29
  go_wp2_with fail
  refine (Ed.heldF a c n lo hi K _ hK hK1 hn ((unhide HL).below ((Below.refl _ _).alloc (Nat.le_refl _) _))).mono ?_
  rintro e w1 ⟨rfl, rfl⟩
  have hnn : ¬ (K + 2 * (n : Int)) < 0 := by omega
  go_wp2_with fail
  go_ret
  exact ⟨rfl, (Below.refl _ _).alloc (Nat.le_refl _) _⟩
end Ts
end Go.Proofs.YtiipppfkpgbpeaaGreat
