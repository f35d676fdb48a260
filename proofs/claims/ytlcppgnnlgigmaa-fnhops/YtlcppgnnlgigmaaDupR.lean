/-
  Ranging over a map of marks: what has been collected so far, in whatever order; at the end it is all that the map held.
-/
import Derived.Test.YtlcppgnnlgigmaaMpm
import Derived.Maps.RangeWalk
namespace Go.Proofs.Ytlcppgnnlgigmaa
open Go.ChangeShapes Go.WideShapes Go.ChangeAt Go.RowKit
set_option linter.unusedVariables false
set_option linter.unusedSimpArgs false
set_option maxRecDepth 100000
namespace Mm
open W1 Tu St Du Go.Maps
/-- A list of marks as a map may hold it. -/
def Lm (L : List R) : Prop := Rise L ∧ ∀ m ∈ L, 0 ≤ m.key ∧ m.key ≤ 1000000
theorem wfI {x : Int} (h0 : 0 ≤ x) (h1 : x ≤ 1000000) : (Lit.int .i64 x).wf = true := by
  simp [Lit.wf]
  exact ⟨Int.le_trans (by decide) h0, by omega⟩
theorem key_of {L : List R} (h : Lm L) {m : R} (hm : m ∈ L) : (Lit.int .i64 (hv m)).wf = true ∧ (Lit.int .i64 (ha m)).wf = true ∧ ∃ l, keyOf Try.prog 110 (kv (hv m) (ha m)) = some l := by
  obtain ⟨h0, h1⟩ := h.2 m hm
  have := hv_lo h0
  have w1 := wfI (x := hv m) (by omega) (by omega)
  have w2 := wfI (x := ha m) (by omega) (by omega)
  exact ⟨w1, w2, kv_key w1 w2⟩
/-- What has been met so far, in a range over the map in block b by the iterator in block r. -/
def Coll (w : World) (b r n : Nat) (L ss : List R) : Prop :=
  ∃ (D : DataW R) (left : Lit → Bool) (cnt : Nat), w.ranges Try.prog 110 rdR b r n D left cnt ∧ (∀ l, has D l = true → KL l) ∧ (∀ v a l, keyOf Try.prog 110 (kv v a) = some l → has D l = (findT L v a).isSome ∧ ∀ m, findT L v a = some m → ∀ z, D.atKey l z = .held m) ∧
    ss.Nodup ∧ (∀ m, m ∈ ss ↔ m ∈ L ∧ ∀ l, keyOf Try.prog 110 (kv (hv m) (ha m)) = some l → left l = false) ∧ ss.length + cnt ≤ n
theorem Coll.kept {w w' : World} {b r n : Nat} {L ss : List R} {row : Option Nat} (h : Coll w b r n L ss) (hg : w.grownBy w' row) (hb : some b ≠ row) (hr : some r ≠ row) : Coll w' b r n L ss := by
  obtain ⟨D, left, cnt, h1, h2⟩ := h
  exact ⟨D, left, cnt, h1.kept hg hb hr, h2⟩
theorem Coll.below {w w' : World} {b r n : Nat} {L ss : List R} (h : Coll w b r n L ss) (hb : Below w.heap.size w w') : Coll w' b r n L ss := h.kept (row := none) ⟨hb.os, hb.tape, hb.output, hb.size, fun k hk _ => hb.block k hk⟩ (by simp) (by simp)
theorem Coll.len {w : World} {b r n : Nat} {L ss : List R} (h : Coll w b r n L ss) : ss.length ≤ n := by
  obtain ⟨D, left, cnt, _, _, _, _, _, h⟩ := h
  omega
theorem Coll.lt {w : World} {b r n : Nat} {L ss : List R} (h : Coll w b r n L ss) : b < w.heap.size ∧ r < w.heap.size := by
  obtain ⟨D, left, cnt, h1, h2⟩ := h
  exact ⟨h1.owns.lt, h1.lt⟩
theorem coll_start {w w' : World} {b r n : Nat} {L : List R} {D : DataW R} (hL : Lm L) (hz : size D = n) (hq : ∀ l, has D l = true → KL l) (hf : ∀ v a l, keyOf Try.prog 110 (kv v a) = some l → has D l = (findT L v a).isSome ∧ ∀ m, findT L v a = some m → ∀ z, D.atKey l z = .held m)
    (h : w'.ranges Try.prog 110 rdR b r n D (has D) (size D)) : Coll w' b r n L [] := by
  refine ⟨D, has D, size D, h, hq, hf, List.nodup_nil, fun m => ⟨(fun h => absurd h (by simp)), fun ⟨hm, hl⟩ => ?_⟩, by rw [hz]; simp⟩
  exfalso
  obtain ⟨_, _, l, hk⟩ := key_of hL hm
  have h1 := (hf _ _ l hk).1
  rw [hl l hk, (find_iff hL.1).2 ⟨hm, rfl, rfl⟩] at h1
  cases h1
theorem rdR_form {v : Value} {y : DataW R × List MemPlace} (h : rdR v = some y) : ∃ c : R, v = c.value ∧ y = (.held c, []) := by
  obtain ⟨d, ps⟩ := y
  unfold rdR at h
  split at h
  · rename_i cs
    split at h
    · rename_i a b c hl
      cases h
      refine ⟨⟨a, b, c⟩, ?_, rfl⟩
      unfold R.value
      congr 1
      exact Array.toList_inj.1 hl
    · cases h
  · cases h
section
variable {ops : Array Oper} {rest : List Oper} {o : Oper} {a : Act} {Q : Exit → Act → World → Prop}
/-- 'range m'. -/
theorem wpList_range (w : World) (hg : o.guard = none) (m : Operand) (hop : o.op = Op.range 112 m) (b n : Nat) (L : List R) (hm : a.eval m = .map (some b)) (hL : Lm L) (h : OM w b n (findT L))
    (hK : ∀ w', Coll w' b w.heap.size n L [] → w.grownBy w' none → w'.heap.size = w.heap.size + 1 → wpList Try.prog ops Q rest (a.put o.dst (.pointer (some ⟨w.heap.size, 0, none⟩))) w') : wpList Try.prog ops Q (o :: rest) a w := by
  obtain ⟨D, h, hz, hq, hf⟩ := h
  exact wpList_range_own w hg m 112 hop 110 _ law Try.underlying112 rdR b n D hm h (fun w' h1 h2 h3 => hK w' (coll_start (w := w) hL hz hq hf h1) h2 h3)
/-- The step. -/
theorem wpList_nextM (w : World) (hg : o.guard = none) (it : Operand) (hop : o.op = Op.next it false) (b r n : Nat) (L ss : List R) (hL : Lm L) (hit : a.eval it = .pointer (some ⟨r, 0, none⟩)) (h : Coll w b r n L ss)
    (hDone : ss.Nodup → (∀ m, m ∈ ss ↔ m ∈ L) → wpList Try.prog ops Q rest (a.put o.dst (.tuple #[.bool false])) w)
    (hMore : ∀ (key : Value) (m : R) (w' : World), m ∈ L → Coll w' b r n L (ss ++ [m]) → w'.rangeLeft b r < w.rangeLeft b r → w.grownBy w' (some r) → w'.heap.size = w.heap.size → (Instr.entry (.pointer (some ⟨r, 0, none⟩))).run Try.prog w' = .ok (.tuple #[key, m.value]) w' → wpList Try.prog ops Q rest (a.put o.dst (.tuple #[.bool true, key, m.value])) w') :
    wpList Try.prog ops Q (o :: rest) a w := by
  obtain ⟨D, left, cnt, h, hq, hf, hnd, hmm, hlen⟩ := h
  refine wpList_next_ranges w hg it hop 110 law rdR (fun v : Value => v) R.value (fun key _ _ => ⟨key, rfl⟩) (fun v y hv => by obtain ⟨c, e, _⟩ := rdR_form hv; exact ⟨c, e⟩) b r n D left cnt hit h (fun _ hl => ?_) (fun key c kl y w' cnt' hkey hlk hv hat hrg hlt hgr hsz hen => ?_)
  · exact hDone hnd (fun m => ⟨fun h => ((hmm m).1 h).1, fun h => (hmm m).2 ⟨h, fun l _ => hl l⟩⟩)
  · obtain ⟨c2, ec, rfl⟩ := rdR_form hv
    have hhas : has D kl = true := by
      cases e : has D kl
      · exfalso
        have h1 := hat (.held ⟨0, 0, 0⟩)
        have h2 := hat (.held ⟨1, 0, 0⟩)
        rw [atKey_of_not_has e] at h1 h2
        rw [← h1] at h2
        cases h2
      · rfl
    obtain ⟨v, u, w1, w2, hk⟩ := hq kl hhas
    obtain ⟨q1, q2⟩ := hf v u kl hk
    rw [hhas] at q1
    obtain ⟨m, hm⟩ := Option.isSome_iff_exists.1 q1.symm
    have e3 := q2 m hm (.held ⟨0, 0, 0⟩)
    rw [hat] at e3
    obtain rfl : c2 = m := by cases e3; rfl
    obtain ⟨hmL, rfl, rfl⟩ := (find_iff hL.1).1 hm
    have ecc : c = c2 := by
      cases c; cases c2
      unfold R.value at ec
      simpa using ec
    subst ecc
    refine hMore key c w' hmL ⟨D, _, cnt', hrg, hq, hf, ?_, fun m => ?_, by simp; omega⟩ (by rw [hrg.left_eq, h.left_eq]; exact hlt) hgr hsz hen
    · rw [List.nodup_append]
      refine ⟨hnd, by simp, fun x hx y hy e => ?_⟩
      rw [List.mem_singleton] at hy
      subst hy e
      have := ((hmm x).1 hx).2 kl hk
      rw [hlk] at this
      cases this
    · rw [List.mem_append, List.mem_singleton]
      constructor
      · rintro (hx | rfl)
        · obtain ⟨p1, p2⟩ := (hmm m).1 hx
          exact ⟨p1, fun l hl => by rw [p2 l hl]; rfl⟩
        · refine ⟨hmL, fun l hl => ?_⟩
          rw [hk] at hl
          cases hl
          rw [WideAt.sameKey_self (law.key hk)]
          simp
      · rintro ⟨p1, p2⟩
        by_cases e : m = c
        · exact .inr e
        · refine .inl ((hmm m).2 ⟨p1, fun l hl => ?_⟩)
          have := p2 l hl
          have hne : l.sameKey kl = false := by
            cases es : l.sameKey kl
            · rfl
            · exfalso
              have el := WideAt.sameKey_eq es
              subst el
              have hh := kv_inj (law.inj hl hk)
              exact e (rise_inj hL.1 p1 hmL (key_hop.1 hh))
          rw [hne] at this
          simpa using this
end
end Mm
end Go.Proofs.Ytlcppgnnlgigmaa
