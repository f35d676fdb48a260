/-
  Of the texts HepB, Rl, HepC, HepD, HepE, WysN, EndK, HepF, HepG, HepH: what this claim needs of them. (put together by mkprune.py)
-/
import Derived.Test.YtfooahhdikobeaaGreatQw8
import Derived.BigRegion
import Derived.OrdersHeld
import Derived.Deep.AppendLies
import Derived.Laws.NewBlocks
import Derived.Deep.LoopGhost
import Derived.Deep.MidRow
import Derived.Laws.EntriesVeiled
namespace Go.Proofs.YtfooahhdikobeaaGreat
open Go.ChangeShapes Go.WideShapes Go.ChangeAt Go.RowKit
set_option linter.unusedVariables false
set_option linter.unusedSimpArgs false
set_option maxRecDepth 100000
attribute [local go_sem ↓] Go.wp_at_zero Go.wp_at_succ
namespace Wd
open W1 Ro Rw
theorem flat_set : ∀ (hs : List R) (i : Nat) (m : R), i < hs.length → flat (hs.set i m) = ((((flat hs).set (i * 4) (.int .i64 m.ds)).set (i * 4 + 1) (.int .i64 m.nx)).set (i * 4 + 2) (.int .i64 m.co)).set (i * 4 + 3) (.int .i64 m.hp)
  | [], i, m, h => by simp at h
  | x :: t, 0, m, _ => rfl
  | x :: t, i + 1, m, h => by
    have ih := flat_set t i m (by simpa using h)
    have e : flat (x :: t) = .int .i64 x.ds :: .int .i64 x.nx :: .int .i64 x.co :: .int .i64 x.hp :: flat t := rfl
    have e' : flat ((x :: t).set (i + 1) m) = .int .i64 x.ds :: .int .i64 x.nx :: .int .i64 x.co :: .int .i64 x.hp :: flat (t.set i m) := rfl
    rw [e', e, ih, show (i + 1) * 4 = i * 4 + 1 + 1 + 1 + 1 by omega]
    rw [show i * 4 + 1 + 1 + 1 + 1 + 1 = (i * 4 + 1) + 1 + 1 + 1 + 1 by omega, show i * 4 + 1 + 1 + 1 + 1 + 2 = (i * 4 + 2) + 1 + 1 + 1 + 1 by omega, show i * 4 + 1 + 1 + 1 + 1 + 3 = (i * 4 + 3) + 1 + 1 + 1 + 1 by omega]
    simp only [List.set_cons_succ]
/-- One of a row of one's own is written. -/
theorem own_put {w : World} {base g n cap : Nat} {hs : List R} (hn : n = hs.length) (h : w.ownsRow base 87 4 (.slice (some ⟨g, 0, none⟩) n cap) n (flat hs)) {i : Nat} (hi : i < hs.length) (m : R) :
    (put w g (i * 4) m).ownsRow base 87 4 (.slice (some ⟨g, 0, none⟩) n cap) n (flat (hs.set i m)) := by
  obtain ⟨hl, ⟨h1, _⟩ | ⟨g', cap', cur, e, hb, hg, hc1, hc2, hsz, ht⟩⟩ := h
  · cases h1
  · cases e
    refine ⟨by rw [flat_len, List.length_set, hn], .inr ⟨g, cap, (((cur.setIfInBounds (i * 4) (.int .i64 m.ds)).setIfInBounds (i * 4 + 1) (.int .i64 m.nx)).setIfInBounds (i * 4 + 2) (.int .i64 m.co)).setIfInBounds (i * 4 + 3) (.int .i64 m.hp), rfl, hb, ?_, hc1, hc2, ?_, ?_⟩⟩
    · unfold put; exact heap_set _ (heap_set _ (heap_set _ (heap_set _ hg)))
    · simpa using hsz
    · rw [flat_set hs i m hi, ← ht]
      simp only [Array.toList_setIfInBounds, List.take_set]
theorem own_cut {w : World} {base n cap : Nat} {a : Addr} {hs : List R} (hn : n = hs.length) (h : w.ownsRow base 87 4 (.slice (some a) n cap) n (flat hs)) {k : Nat} (hk : k ≤ n) :
    w.ownsRow base 87 4 (.slice (some a) k cap) k (flat (hs.take k)) := by
  obtain ⟨hl, ⟨h1, _⟩ | ⟨g', cap', cur, e, hb, hg, hc1, hc2, hsz, ht⟩⟩ := h
  · cases h1
  · cases e
    refine ⟨by rw [flat_len, List.length_take]; rw [Nat.min_eq_left (by omega)], .inr ⟨g', cap, cur, rfl, hb, hg, by omega, hc2, hsz, ?_⟩⟩
    have e2 : flat hs = flat (hs.take k) ++ flat (hs.drop k) := by rw [← flat_append, List.take_append_drop]
    have e3 : (flat (hs.take k)).length = k * 4 := by rw [flat_len, List.length_take, Nat.min_eq_left (by omega)]
    have : cur.toList.take (k * 4) = (cur.toList.take (n * 4)).take (k * 4) := by rw [List.take_take, Nat.min_eq_left (by omega)]
    rw [this, ht, e2, ← e3, List.take_left]
/-- A heap in block p: its items' slice v, whose row of its own stands above block p. -/
def HP (w : World) (p : Nat) (v : Value) (hs : List R) : Prop :=
  w.heap[p]? = some (.cells #[v, (Value.func (.func 158) #[] #[])] 189 (0, 0)) ∧ w.ownsRow (p + 1) 87 4 v hs.length (flat hs)
/-- Nothing is written but block p and the row of v, and what is new. -/
structure Frm (p : Nat) (v : Value) (w w' : World) : Prop where
  os : w'.os = w.os
  tape : w'.tape = w.tape
  output : w'.output = w.output
  size : w.heap.size ≤ w'.heap.size
  block : ∀ k, k < w.heap.size → k ≠ p → some k ≠ v.ownBlock → w'.heap[k]? = w.heap[k]?
/-- The slice has the row that it had, or one that is new. -/
def Nxt (w : World) (v v' : Value) : Prop := v'.ownBlock = v.ownBlock ∨ v'.ownBlock = none ∨ ∃ k, v'.ownBlock = some k ∧ w.heap.size ≤ k
theorem Frm.refl (p : Nat) (v : Value) (w : World) : Frm p v w w := ⟨rfl, rfl, rfl, Nat.le_refl _, fun _ _ _ _ => rfl⟩
theorem Frm.of_below {p : Nat} {v : Value} {w w' : World} (h : Below w.heap.size w w') : Frm p v w w' := ⟨h.os, h.tape, h.output, h.size, fun k hk _ _ => h.block k hk⟩
theorem Frm.trans {p : Nat} {v v' : Value} {a b c : World} (h : Frm p v a b) (k : Frm p v' b c) (hn : Nxt a v v') : Frm p v a c :=
  ⟨k.os.trans h.os, k.tape.trans h.tape, k.output.trans h.output, Nat.le_trans h.size k.size, fun i hi hp hv => (k.block i (Nat.lt_of_lt_of_le hi h.size) hp (by
    rcases hn with e | e | ⟨q, e, hq⟩
    · rw [e]; exact hv
    · rw [e]; simp
    · rw [e]; intro e'; cases e'; omega)).trans (h.block i hi hp hv)⟩
theorem Nxt.refl (w : World) (v : Value) : Nxt w v v := .inl rfl
theorem Nxt.trans {a b : World} {v v' v'' : Value} (h : Nxt a v v') (k : Nxt b v' v'') (hs : a.heap.size ≤ b.heap.size) : Nxt a v v'' := by
  rcases k with e | e | ⟨q, e, hq⟩
  · rcases h with f | f | f
    · exact .inl (e.trans f)
    · exact .inr (.inl (e.trans f))
    · obtain ⟨q, f, hq⟩ := f; exact .inr (.inr ⟨q, e.trans f, hq⟩)
  · exact .inr (.inl e)
  · exact .inr (.inr ⟨q, e, by omega⟩)
/-- What stands below block p is as it was. -/
theorem Frm.below {p : Nat} {v : Value} {w w' : World} {hs : List R} (h : Frm p v w w') (hp : HP w p v hs) : Below p w w' :=
  ⟨h.os, h.tape, h.output, h.size, fun k hk => h.block k (Nat.lt_trans hk (lt_block hp.1)) (by omega) (fun e => by have := hp.2.lt k e.symm; omega)⟩
theorem HP.lt {w : World} {p : Nat} {v : Value} {hs : List R} (h : HP w p v hs) : p < w.heap.size := lt_block h.1
theorem HP.below {w w' : World} {p : Nat} {v : Value} {hs : List R} (h : HP w p v hs) (hb : Below w.heap.size w w') : HP w' p v hs := by
  refine ⟨(hb.block p h.lt).trans h.1, ?_⟩
  exact h.2.kept (row := none) ⟨hb.os, hb.tape, hb.output, hb.size, fun k hk _ => hb.block k hk⟩ (by cases hv : v.ownBlock <;> simp)
theorem HP.c0 {w : World} {p : Nat} {v : Value} {hs : List R} (h : HP w p v hs) : w.cell? ⟨p, 0, none⟩ = some v := by simp [World.cell?, h.1]
theorem HP.c1 {w : World} {p : Nat} {v : Value} {hs : List R} (h : HP w p v hs) : w.cell? ⟨p, 1, none⟩ = some (Value.func (.func 158) #[] #[]) := by simp [World.cell?, h.1]
theorem HP.free {w : World} {p : Nat} {v : Value} {hs : List R} (h : HP w p v hs) (i : Nat) : w.frozen? ⟨p, i, none⟩ = false := by simp [World.frozen?, h.1]
theorem HP.form {w : World} {p : Nat} {v : Value} {hs : List R} (h : HP w p v hs) (h0 : 0 < hs.length) : ∃ g cap, v = .slice (some ⟨g, 0, none⟩) hs.length cap ∧ p < g ∧ g < w.heap.size ∧ hs.length ≤ cap ∧ cap ≤ maxLen := by
  obtain ⟨hl, ⟨e, h1⟩ | ⟨g, cap, cur, e, hb, hg, hc1, hc2, hsz, ht⟩⟩ := h.2
  · omega
  · exact ⟨g, cap, e, by omega, lt_block hg, hc1, hc2⟩
theorem HP.at {w : World} {p g cap : Nat} {hs : List R} (h : HP w p (.slice (some ⟨g, 0, none⟩) hs.length cap) hs) {i : Nat} (hi : i < hs.length) : At w g (i * 4) (at' hs i) := at_own rfl h.2 i hi
theorem HP.gfree {w : World} {p g n cap : Nat} {hs : List R} (h : HP w p (.slice (some ⟨g, 0, none⟩) n cap) hs) (i : Nat) : w.frozen? ⟨g, i, none⟩ = false := by
  obtain ⟨hl, ⟨e, h1⟩ | ⟨g', cap', cur, e, hb, hg, _⟩⟩ := h.2
  · cases e
  · cases e; simp [World.frozen?, hg]
theorem HP.slice {w : World} {p : Nat} {v : Value} {hs : List R} (h : HP w p v hs) : ∃ a cap, v = .slice a hs.length cap ∧ (hs.length ≤ cap) := by
  obtain ⟨hl, ⟨e, h1⟩ | ⟨g, cap, cur, e, hb, hg, hc1, hc2, hsz, ht⟩⟩ := h.2
  · exact ⟨none, 0, by rw [h1]; exact e, by omega⟩
  · exact ⟨_, cap, e, hc1⟩
theorem isEmpty (p : Nat) (v : Value) (hs : List R) (w : World) (h : HP w p v hs) :
    Calls Tryz.prog 160 #[.pointer (some ⟨p, 0, none⟩)] w fun e w' => e = .returned (.bool (decide (hs.length = 0))) ∧ w' = w := by
  have c0 := h.c0
  obtain ⟨a, cap, rfl, _⟩ := h.slice
  generalize hs.length = n at *
  by_cases hn : n = 0
  · have h1 : ((n : Int) == 0) = true := by simpa using hn
    rw [decide_eq_true hn]
    go_enter Tryz.func160, Tryz.ntmps160
    go_wp2_with fail
    go_ret
    exact ⟨rfl, rfl⟩
  · have h1 : ((n : Int) == 0) = false := by simpa using hn
    rw [decide_eq_false hn]
    go_enter Tryz.func160, Tryz.ntmps160
    go_wp2_with fail
    go_ret
    exact ⟨rfl, rfl⟩
set_option maxHeartbeats 8000000 in
theorem swap0 (p g cap n i j : Nat) (x y : R) (w : World) (hi : i < n) (hj : j < n) (c0 : w.cell? ⟨p, 0, none⟩ = some (.slice (some ⟨g, 0, none⟩) n cap)) (hpg : p ≠ g)
    (hx : At w g (i * 4) x) (hy : At w g (j * 4) y) (hf : ∀ k, w.frozen? ⟨g, k, none⟩ = false) (hne : i ≠ j) :
    Calls Tryz.prog 193 #[.pointer (some ⟨p, 0, none⟩), .int .i64 (i : Int), .int .i64 (j : Int)] w fun e w' => e = .returned (.tuple #[]) ∧ w' = (put (put w g (i * 4) y) g (j * 4) x).drew := by
  obtain ⟨xa, xn, xc, xh⟩ := x
  obtain ⟨ya, yn, yc, yh⟩ := y
  obtain ⟨x0, x1, x2, x3⟩ := hx
  obtain ⟨y0, y1, y2, y3⟩ := hy
  dsimp only at x0 x1 x2 x3 y0 y1 y2 y3
  have i0 : (0 : Int) ≤ (i : Int) := by omega
  have j0 : (0 : Int) ≤ (j : Int) := by omega
  have i1 : (i : Int) < (n : Int) := by omega
  have j1 : (j : Int) < (n : Int) := by omega
  unfold put
  dsimp only
  go_enter Tryz.func193, Tryz.ntmps193
  go_wp2_with fail
  go_region
  go_wp2_with fail
  refine bodyPost_end (v := .tuple #[]) (by simp [results, Tryz.results193, go_sem]) rfl ⟨rfl, ?_⟩
  rfl
set_option maxHeartbeats 8000000 in
theorem swap1 (p g cap n i : Nat) (x : R) (w : World) (hi : i < n) (c0 : w.cell? ⟨p, 0, none⟩ = some (.slice (some ⟨g, 0, none⟩) n cap)) (hpg : p ≠ g)
    (hx : At w g (i * 4) x) (hf : ∀ k, w.frozen? ⟨g, k, none⟩ = false) :
    Calls Tryz.prog 193 #[.pointer (some ⟨p, 0, none⟩), .int .i64 (i : Int), .int .i64 (i : Int)] w fun e w' => e = .returned (.tuple #[]) ∧ w' = (put (put w g (i * 4) x) g (i * 4) x).drew := by
  obtain ⟨xa, xn, xc, xh⟩ := x
  obtain ⟨x0, x1, x2, x3⟩ := hx
  dsimp only at x0 x1 x2 x3
  have i0 : (0 : Int) ≤ (i : Int) := by omega
  have i1 : (i : Int) < (n : Int) := by omega
  unfold put
  dsimp only
  go_enter Tryz.func193, Tryz.ntmps193
  go_wp2_with fail
  go_region
  go_wp2_with fail
  refine bodyPost_end (v := .tuple #[]) (by simp [results, Tryz.results193, go_sem]) rfl ⟨rfl, ?_⟩
  rfl
theorem put_other {w : World} {g o b : Nat} {m : R} (h : b ≠ g) : (put w g o m).heap[b]? = w.heap[b]? := by
  unfold put
  rw [Below.heap_setCell _ _ _ _ h, Below.heap_setCell _ _ _ _ h, Below.heap_setCell _ _ _ _ h, Below.heap_setCell _ _ _ _ h]
theorem HP.drew {w : World} {p : Nat} {v : Value} {hs : List R} (h : HP w p v hs) : HP w.drew p v hs := h
theorem Frm.drew {p : Nat} {v : Value} {w w' : World} (h : Frm p v w w') : Frm p v w w'.drew := ⟨h.os, h.tape, h.output, h.size, h.block⟩
theorem put_os (w : World) (g o : Nat) (m : R) : (put w g o m).os = w.os ∧ (put w g o m).tape = w.tape ∧ (put w g o m).output = w.output := by
  unfold put; exact ⟨rfl, rfl, rfl⟩
theorem put_hp {p g n cap : Nat} {hs : List R} {w : World} (hn : n = hs.length) (h : HP w p (.slice (some ⟨g, 0, none⟩) n cap) hs) {i : Nat} (hi : i < hs.length) (hne : p ≠ g) (m : R) : HP (put w g (i * 4) m) p (.slice (some ⟨g, 0, none⟩) n cap) (hs.set i m) := by
  refine ⟨(put_other hne).trans h.1, ?_⟩
  subst hn
  have := own_put rfl h.2 hi m
  rw [List.length_set]; exact this
theorem put_frm {p g n cap o : Nat} {w : World} {m : R} : Frm p (.slice (some ⟨g, 0, none⟩) n cap) w (put w g o m) := by
  obtain ⟨h1, h2, h3⟩ := put_os w g o m
  exact ⟨h1, h2, h3, by rw [put_size]; exact Nat.le_refl _, fun k hk hkp hkv => put_other (fun e => hkv (by rw [e]; rfl))⟩
theorem swap_ok (p g cap : Nat) (hs : List R) (i j : Nat) (w : World) (h : HP w p (.slice (some ⟨g, 0, none⟩) hs.length cap) hs) (hi : i < hs.length) (hj : j < hs.length) (hne : p ≠ g) :
    HP (put (put w g (i * 4) (at' hs j)) g (j * 4) (at' hs i)).drew p (.slice (some ⟨g, 0, none⟩) hs.length cap) (swp hs i j) ∧ Frm p (.slice (some ⟨g, 0, none⟩) hs.length cap) w (put (put w g (i * 4) (at' hs j)) g (j * 4) (at' hs i)).drew := by
  have h1 := put_hp rfl h hi hne (at' hs j)
  have h2 := put_hp (by simp) h1 (i := j) (by simpa using hj) hne (at' hs i)
  have f1 : Frm p (.slice (some ⟨g, 0, none⟩) hs.length cap) w (put w g (i * 4) (at' hs j)) := put_frm
  have f2 : Frm p (.slice (some ⟨g, 0, none⟩) hs.length cap) (put w g (i * 4) (at' hs j)) (put (put w g (i * 4) (at' hs j)) g (j * 4) (at' hs i)) := put_frm
  exact ⟨h2.drew, (f1.trans f2 (Nxt.refl _ _)).drew⟩
theorem swap (p : Nat) (v : Value) (hs : List R) (i j : Nat) (w : World) (h : HP w p v hs) (hi : i < hs.length) (hj : j < hs.length) :
    Calls Tryz.prog 193 #[.pointer (some ⟨p, 0, none⟩), .int .i64 (i : Int), .int .i64 (j : Int)] w fun e w' => e = .returned (.tuple #[]) ∧ HP w' p v (swp hs i j) ∧ Frm p v w w' := by
  obtain ⟨g, cap, rfl, hpg, hgl, hc1, hc2⟩ := h.form (by omega)
  have hne : p ≠ g := by omega
  have key : Calls Tryz.prog 193 #[.pointer (some ⟨p, 0, none⟩), .int .i64 (i : Int), .int .i64 (j : Int)] w fun e w' => e = .returned (.tuple #[]) ∧ w' = (put (put w g (i * 4) (at' hs j)) g (j * 4) (at' hs i)).drew := by
    by_cases hij : i = j
    · subst hij; exact swap1 p g cap hs.length i (at' hs i) w hi h.c0 hne (h.at hi) (fun k => h.gfree k)
    · exact swap0 p g cap hs.length i j (at' hs i) (at' hs j) w hi hj h.c0 hne (h.at hi) (h.at hj) (fun k => h.gfree k) hij
  have hw : ∀ w', w' = (put (put w g (i * 4) (at' hs j)) g (j * 4) (at' hs i)).drew → HP w' p (.slice (some ⟨g, 0, none⟩) hs.length cap) (swp hs i j) ∧ Frm p (.slice (some ⟨g, 0, none⟩) hs.length cap) w w' := by
    intro w' hw'
    subst hw'
    exact swap_ok p g cap hs i j w h hi hj hne
  refine key.mono ?_
  rintro e w' ⟨rfl, hw'⟩
  exact ⟨rfl, hw w' hw'⟩
end Wd
end Go.Proofs.YtfooahhdikobeaaGreat
namespace Go.Proofs.YtfooahhdikobeaaGreat
namespace Rl
variable {P : Program} {ops : Array Oper} {Q : Exit → Act → World → Prop} {md : Region.Mode} {S T : World → Prop} {k : Nat}
/-- Whatever order is picked from here on, S holds behind every operation that is carried out, and T as long as k has not come up. -/
def wpAnyL (P : Program) (md : Region.Mode) (ops : Array Oper) (Q : Exit → Act → World → Prop) (S T : World → Prop) (k : Nat) : Nat → Array Bool → Act → World → Prop
  | 0, listed, a, w => Region.ready md ops listed = [] ∧ Q .normal a w
  | fuel + 1, listed, a, w =>
    (Region.ready md ops listed = [] → Q .normal a w) ∧
    ∀ i ∈ Region.ready md ops listed, wpOp P ops Q i (fun a' w' => (S w' ∧ ((listed.setIfInBounds i true).getD k true = false → T w')) ∧ wpAnyL P md ops Q S T k fuel (listed.setIfInBounds i true) a' w') a w
theorem wpAny_of : ∀ (fuel : Nat) (listed : Array Bool) (a : Act) (w : World), wpAnyL P md ops Q S T k fuel listed a w → wpAny P md ops Q fuel listed a w
  | 0, _, _, _, h => h
  | fuel + 1, _, _, _, h => ⟨h.1, fun i hi => wpOp_mono (fun a' w' h' => wpAny_of fuel _ a' w' h'.2) (h.2 i hi)⟩
theorem first {i : Nat} {oi ok : Oper} {v : Value} (hi : ops[i]? = some oi) (hk : ops[k]? = some ok) (hki : k ≠ i) (hsel : ∀ (j : Nat) (o : Oper) cs b, ops[j]? = some o → o.op ≠ .select cs b)
    (hwait : ∃ e ∈ ok.after, Region.binds md e = true ∧ e.on = i)
    (hQ : ∀ c a w, Q (.panic c) (a.put oi.dst v) w → Q (.panic c) a w) :
    ∀ (fuel : Nat) (listed : Array Bool) (a : Act) (w : World),
      (∀ j oj, ops[j]? = some oj → j ≠ i → listed.getD j true = false → (∀ e ∈ oj.after, Region.binds md e = true → e.on ≠ i) → oi.apart ops oj = true) →
      i ∈ Region.ready md ops listed → YieldsIf P ops (fun w => S w ∧ T w) oi v a → listed.getD k true = false → S w ∧ T w →
      wpAnyL P md ops Q S T k fuel (listed.setIfInBounds i true) (a.put oi.dst v) w → wpAnyL P md ops Q S T k (fuel + 1) listed a w := by
  intro fuel
  induction fuel with
  | zero =>
    intro listed a w _ hr hy hlk hS H
    refine ⟨fun h => (by rw [h] at hr; cases hr), fun j hj => ?_⟩
    by_cases hji : j = i
    · subst hji; exact hy.wpOp hi hS ⟨⟨hS.1, fun _ => hS.2⟩, H⟩
    · have := ready_mono hj hji
      rw [H.1] at this
      cases this
  | succ fuel ih =>
    intro listed a w hfree hr hy hlk hS H
    refine ⟨fun h => (by rw [h] at hr; cases hr), fun j hj => ?_⟩
    by_cases hji : j = i
    · subst hji; exact hy.wpOp hi hS ⟨⟨hS.1, fun _ => hS.2⟩, H⟩
    · have h1 := H.2 j (ready_mono hj hji)
      obtain ⟨hjun, oj, hoj, hall⟩ := mem_ready.1 hj
      have hnot : ∀ e ∈ oj.after, Region.binds md e = true → e.on ≠ i := fun e he hb heq => by
        have h1 := hall e he hb
        have h0 := (mem_ready.1 hr).1
        rw [heq] at h1
        rcases Nat.lt_or_ge i listed.size with h' | h'
        · simp [h'] at h0 h1; rw [h0] at h1; cases h1
        · simp [Array.getElem?_eq_none h'] at h1
      have hjk : j ≠ k := fun e => by
        subst e
        rw [hk] at hoj; cases hoj
        obtain ⟨e, he, hb, hon⟩ := hwait
        exact hnot e he hb hon
      have hlj : (listed.setIfInBounds j true).getD k true = false := by rw [getD_set_ne true hjk]; exact hlk
      have hlij : ((listed.setIfInBounds i true).setIfInBounds j true).getD k true = false := by rw [getD_set_ne true hjk, getD_set_ne true (Ne.symm hki)]; exact hlk
      have h2 := wpOp_putIf hoj (hfree j oj hoj hji hjun hnot) (fun cs b => hsel i oi cs b hi) (fun cs b => hsel j oj cs b hoj) hQ hy h1
      have hfree' : ∀ k ok, ops[k]? = some ok → k ≠ i → (listed.setIfInBounds j true).getD k true = false →
          (∀ e ∈ ok.after, Region.binds md e = true → e.on ≠ i) → oi.apart ops ok = true := fun k ok hk hki hun hno => by
        refine hfree k ok hk hki ?_ hno
        by_cases hjk : j = k
        · subst hjk; exact hjun
        · rw [getD_set_ne true hjk] at hun; exact hun
      refine wpOp_mono (fun a' w' h3 => ⟨⟨h3.2.1.1, fun _ => h3.2.1.2 hlij⟩, ih (listed.setIfInBounds j true) a' w' hfree' (ready_mono hr (Ne.symm hji)) h3.1 hlj ⟨h3.2.1.1, h3.2.1.2 hlij⟩ ?_⟩) h2
      rw [Array.setIfInBounds_comm _ _ hji]
      exact h3.2.2
/-- Whether operation k waits for i. -/
def waits (md : Region.Mode) (ops : Array Oper) (k i : Nat) : Bool := match ops[k]? with | some ok => ok.after.any (fun e => Region.binds md e && e.on == i) | none => false
theorem waits_spec {i : Nat} (h : waits md ops k i = true) : ∃ ok, ops[k]? = some ok ∧ ∃ e ∈ ok.after, Region.binds md e = true ∧ e.on = i := by
  unfold waits at h
  split at h
  · rename_i ok ho
    obtain ⟨e, he, hh⟩ := Array.any_eq_true'.1 h
    rw [Bool.and_eq_true] at hh
    exact ⟨ok, ho, e, he, hh.1, by simpa using hh.2⟩
  · cases h
/-- Take number i first, into slot d. -/
theorem tk {i d : Nat} {oi : Oper} {v : Value} {fuel : Nat} {listed : Array Bool} {a : Act} {w : World} (hi : ops[i]? = some oi) (hd : oi.dst = some d)
    (hs : Region.noSelect ops = true) (hf : Region.free md ops listed i = true) (hr : (Region.ready md ops listed).contains i = true) (hw : waits md ops k i = true) (hki : (k == i) = false) (hlk : listed.getD k true = false)
    (hQ : ∀ c a w, Q (.panic c) (a.put oi.dst v) w → Q (.panic c) a w) (hy : Region.wanted oi (yielded ops a.tmps) = true) (hv : ∀ w, S w ∧ T w → (execOp a.eval oi).run P w = .ok (.value v) w) (hS : S w ∧ T w)
    (h : wpAnyL P md ops Q S T k fuel (listed.setIfInBounds i true) (a.put (some d) v) w) : wpAnyL P md ops Q S T k (fuel + 1) listed a w := by
  obtain ⟨ok, hok, hwt⟩ := waits_spec hw
  exact first hi hok (fun e => by subst e; simp at hki) (Region.noSelect_spec hs) hwt hQ fuel listed a w (Region.free_spec hi hf) (by simpa using hr) (.inl ⟨hy, hv⟩) hlk hS (by rw [hd]; exact h)
/-- What yields under S alone may be taken first whether k waits for it or not. -/
theorem firstS {i : Nat} {oi : Oper} {v : Value} (hi : ops[i]? = some oi) (hki : k ≠ i) (hsel : ∀ (j : Nat) (o : Oper) cs b, ops[j]? = some o → o.op ≠ .select cs b)
    (hQ : ∀ c a w, Q (.panic c) (a.put oi.dst v) w → Q (.panic c) a w) :
    ∀ (fuel : Nat) (listed : Array Bool) (a : Act) (w : World),
      (∀ j oj, ops[j]? = some oj → j ≠ i → listed.getD j true = false → (∀ e ∈ oj.after, Region.binds md e = true → e.on ≠ i) → oi.apart ops oj = true) →
      i ∈ Region.ready md ops listed → YieldsIf P ops S oi v a → S w ∧ (listed.getD k true = false → T w) →
      wpAnyL P md ops Q S T k fuel (listed.setIfInBounds i true) (a.put oi.dst v) w → wpAnyL P md ops Q S T k (fuel + 1) listed a w := by
  intro fuel
  induction fuel with
  | zero =>
    intro listed a w _ hr hy hS H
    refine ⟨fun h => (by rw [h] at hr; cases hr), fun j hj => ?_⟩
    by_cases hji : j = i
    · subst hji; exact hy.wpOp hi hS.1 ⟨⟨hS.1, fun h => hS.2 (by rw [getD_set_ne true (Ne.symm hki)] at h; exact h)⟩, H⟩
    · have := ready_mono hj hji
      rw [H.1] at this
      cases this
  | succ fuel ih =>
    intro listed a w hfree hr hy hS H
    refine ⟨fun h => (by rw [h] at hr; cases hr), fun j hj => ?_⟩
    by_cases hji : j = i
    · subst hji; exact hy.wpOp hi hS.1 ⟨⟨hS.1, fun h => hS.2 (by rw [getD_set_ne true (Ne.symm hki)] at h; exact h)⟩, H⟩
    · have h1 := H.2 j (ready_mono hj hji)
      obtain ⟨hjun, oj, hoj, hall⟩ := mem_ready.1 hj
      have hnot : ∀ e ∈ oj.after, Region.binds md e = true → e.on ≠ i := fun e he hb heq => by
        have h1 := hall e he hb
        have h0 := (mem_ready.1 hr).1
        rw [heq] at h1
        rcases Nat.lt_or_ge i listed.size with h' | h'
        · simp [h'] at h0 h1; rw [h0] at h1; cases h1
        · simp [Array.getElem?_eq_none h'] at h1
      have hsame : ((listed.setIfInBounds i true).setIfInBounds j true).getD k true = (listed.setIfInBounds j true).getD k true := by rw [Array.setIfInBounds_comm _ _ (Ne.symm hji), getD_set_ne true (Ne.symm hki)]
      have h2 := wpOp_putIf hoj (hfree j oj hoj hji hjun hnot) (fun cs b => hsel i oi cs b hi) (fun cs b => hsel j oj cs b hoj) hQ hy h1
      have hfree' : ∀ k ok, ops[k]? = some ok → k ≠ i → (listed.setIfInBounds j true).getD k true = false →
          (∀ e ∈ ok.after, Region.binds md e = true → e.on ≠ i) → oi.apart ops ok = true := fun k ok hk hki hun hno => by
        refine hfree k ok hk hki ?_ hno
        by_cases hjk : j = k
        · subst hjk; exact hjun
        · rw [getD_set_ne true hjk] at hun; exact hun
      refine wpOp_mono (fun a' w' h3 => ⟨⟨h3.2.1.1, fun h => h3.2.1.2 (hsame.trans h)⟩, ih (listed.setIfInBounds j true) a' w' hfree' (ready_mono hr (Ne.symm hji)) h3.1 ⟨h3.2.1.1, fun h => h3.2.1.2 (hsame.trans h)⟩ ?_⟩) h2
      rw [Array.setIfInBounds_comm _ _ hji]
      exact h3.2.2
theorem tkS {i d : Nat} {oi : Oper} {v : Value} {fuel : Nat} {listed : Array Bool} {a : Act} {w : World} (hi : ops[i]? = some oi) (hd : oi.dst = some d)
    (hs : Region.noSelect ops = true) (hf : Region.free md ops listed i = true) (hr : (Region.ready md ops listed).contains i = true) (hki : (k == i) = false)
    (hQ : ∀ c a w, Q (.panic c) (a.put oi.dst v) w → Q (.panic c) a w) (hy : Region.wanted oi (yielded ops a.tmps) = true) (hv : ∀ w, S w → (execOp a.eval oi).run P w = .ok (.value v) w) (hS : S w ∧ T w)
    (h : wpAnyL P md ops Q S T k fuel (listed.setIfInBounds i true) (a.put (some d) v) w) : wpAnyL P md ops Q S T k (fuel + 1) listed a w :=
  firstS hi (fun e => by subst e; simp at hki) (Region.noSelect_spec hs) hQ fuel listed a w (Region.free_spec hi hf) (by simpa using hr) (.inl ⟨hy, hv⟩) ⟨hS.1, fun _ => hS.2⟩ (by rw [hd]; exact h)
/-- Each of the operations rs comes up next. -/
def AllReadyL (P : Program) (md : Region.Mode) (ops : Array Oper) (Q : Exit → Act → World → Prop) (S T : World → Prop) (k : Nat) (fuel : Nat) (listed : Array Bool) (a : Act) (w : World) (rs : List Nat) : Prop :=
  ∀ i ∈ rs, wpOp P ops Q i (fun a' w' => (S w' ∧ ((listed.setIfInBounds i true).getD k true = false → T w')) ∧ wpAnyL P md ops Q S T k fuel (listed.setIfInBounds i true) a' w') a w
theorem AllReadyL.nil {fuel : Nat} {listed : Array Bool} {a : Act} {w : World} : AllReadyL P md ops Q S T k fuel listed a w [] := fun _ h => by cases h
theorem AllReadyL.cons {fuel : Nat} {listed : Array Bool} {a : Act} {w : World} {i : Nat} {o : Oper} {rs : List Nat} (ho : ops[i]? = some o) (hik : (i == k) = false)
    (h : ∀ K' : Act → World → Prop, Shut (∀ a w, S w ∧ T w → (S w ∧ T w → wpAnyL P md ops Q S T k fuel (listed.setIfInBounds i true) a w) → K' a w) → if Region.wanted o (yielded ops a.tmps) = true then Oper.wp P o a w K' Q else K' (a.put o.dst undef) w)
    (hs : AllReadyL P md ops Q S T k fuel listed a w rs) : AllReadyL P md ops Q S T k fuel listed a w (i :: rs) := fun j hj => by
  rcases List.mem_cons.1 hj with rfl | hj
  · exact wpOp_step ho (fun K' hK => h K' (fun a w hS hW => hK a w ⟨⟨hS.1, fun _ => hS.2⟩, hW hS⟩))
  · exact hs j hj
theorem AllReadyL.last {fuel : Nat} {listed : Array Bool} {a : Act} {w : World} {o : Oper} (ho : ops[k]? = some o) (hlk : (listed.setIfInBounds k true).getD k true = true)
    (h : ∀ K' : Act → World → Prop, Shut (∀ a w, S w → (S w → wpAnyL P md ops Q S T k fuel (listed.setIfInBounds k true) a w) → K' a w) → if Region.wanted o (yielded ops a.tmps) = true then Oper.wp P o a w K' Q else K' (a.put o.dst undef) w) :
    AllReadyL P md ops Q S T k fuel listed a w [k] := fun j hj => by
  rcases List.mem_cons.1 hj with rfl | hj
  · exact wpOp_step ho (fun K' hK => h K' (fun a w hS hW => hK a w ⟨⟨hS, fun e => by rw [hlk] at e; cases e⟩, hW hS⟩))
  · cases hj
theorem ready {rs : List Nat} {fuel : Nat} {listed : Array Bool} {a : Act} {w : World} (hr : Region.ready md ops listed = rs) (hne : rs ≠ [])
    (h : AllReadyL P md ops Q S T k fuel listed a w rs) : wpAnyL P md ops Q S T k (fuel + 1) listed a w :=
  ⟨fun h0 => absurd (hr ▸ h0) hne, hr ▸ h⟩
theorem done {listed : Array Bool} {a : Act} {w : World} (hr : Region.ready md ops listed = []) (h : Q .normal a w) : ∀ fuel, wpAnyL P md ops Q S T k fuel listed a w
  | 0 => ⟨hr, h⟩
  | _ + 1 => ⟨fun _ => h, by rw [hr]; simp⟩
/-- The beginning. -/
theorem drew {id : Nat} {a : Act} {w : World} (k : Nat) (hm : P.follows .mixedOrders = true) (hS : S w.drew ∧ T w.drew)
    (h : S w.drew ∧ T w.drew → wpAnyL P .any ops Q S T k ops.size (Array.replicate ops.size false) a w.drew) : (Code.region id ops true).wp P Q a w :=
  wp_region_any hm (wpAny_of _ _ _ _ (h hS))
end Rl
end Go.Proofs.YtfooahhdikobeaaGreat
namespace Go.Proofs.YtfooahhdikobeaaGreat
open Go.ChangeShapes Go.WideShapes Go.ChangeAt Go.RowKit
set_option linter.unusedVariables false
set_option linter.unusedSimpArgs false
set_option maxRecDepth 100000
attribute [local go_sem ↓] Go.wp_at_zero Go.wp_at_succ
namespace Wd
open W1 Ro Rw
/-- append of one to a row of one's own, inside a region that draws its order: where it lies. -/
theorem wp_apL {o : Oper} {a : Act} {K : Act → World → Prop} {Q : Exit → Act → World → Prop} {w : World} {base d : Nat} {v : Value} {xs : List R} (hown : w.ownsRow base 87 4 v xs.length (flat xs)) (g off c : Nat) (m : R) (hr : RM w (some ⟨g, off, none⟩) [m]) (hlen : xs.length ≤ 4194303) (hbase : base ≤ w.heap.size)
    (s x : Operand) (ho : o.op = .call { callee := .builtin .append, args := #[s, x], argTypes := #[88, 88] }) (hd : o.dst = some d) (hs : a.eval s = v) (hx : a.eval x = .slice (some ⟨g, off, none⟩) 1 c)
    (h : ∀ g' cap w', w'.ownsRow base 87 4 (.slice (some ⟨g', 0, none⟩) (xs.length + 1) cap) (xs ++ [m]).length (flat (xs ++ [m])) → w.grownBy w' v.ownBlock → (v.ownBlock = some g' ∨ g' = w.heap.size) → K (a.put (some d) (.slice (some ⟨g', 0, none⟩) (xs.length + 1) cap)) w') : o.wp Tryz.prog a w K Q := by
  obtain ⟨i0, hi, hz0, hz1, hz2⟩ := infoR
  refine wp_append_lies w s x _ ho base 87 i0 _ 4 32 Tryz.underlying88 hi hz0 hz1 hz2 rfl (by decide) v xs.length (flat xs) hs hown ⟨g, off, none⟩ 1 c (flat [m]) hx (flat_len [m]) hr.cells (fun u hu => flat_one_cell hu) (by omega) (by unfold maxLen; omega) (by omega) hbase _ rfl (fun g' cap w' h1 h2 h3 h4 => ?_)
  rw [hd]
  refine h g' cap w' ?_ h2 h3
  rw [List.length_append, flat_append]; exact h1
theorem sBx {w : World} {b : Nat} {x : R} (h : Bx w b x) : Bx w b x ∧ w.cell? ⟨b, 0, none⟩ = some (.int .i64 x.ds) ∧ w.cell? ⟨b, 1, none⟩ = some (.int .i64 x.nx) ∧ w.cell? ⟨b, 2, none⟩ = some (.int .i64 x.co) ∧ w.cell? ⟨b, 3, none⟩ = some (.int .i64 x.hp) := ⟨h, h⟩
/-- The slice of a heap is written anew. -/
theorem hp_set {w : World} {p : Nat} {v v' : Value} {hs hs' : List R} (h : w.heap[p]? = some (.cells #[v, (Value.func (.func 158) #[] #[])] 189 (0, 0))) (ho : w.ownsRow (p + 1) 87 4 v' hs'.length (flat hs')) : HP (w.setCell ⟨p, 0, none⟩ v') p v' hs' := by
  refine ⟨heap_set v' h, ?_⟩
  refine ho.kept (row := some p) ⟨rfl, rfl, rfl, by simp [World.setCell], fun k hk hne => Below.heap_setCell _ _ _ _ (by simpa using hne)⟩ ?_
  cases hv : v'.ownBlock with
  | none => exact .inl rfl
  | some k => right; intro e; cases e; have := ho.lt p hv; omega
def sHP (w : World) (p g cap n i j : Nat) (x y : R) : Prop := w.cell? ⟨p, 0, none⟩ = some (.slice (some ⟨g, 0, none⟩) n cap) ∧ w.cell? ⟨p, 1, none⟩ = some (Value.func (.func 158) #[] #[]) ∧ At w g (i * 4) x ∧ At w g (j * 4) y
theorem sHP_of {w : World} {p g cap n : Nat} {hs : List R} {i j : Nat} (hn : hs.length = n) (h : HP w p (.slice (some ⟨g, 0, none⟩) n cap) hs) (hi : i < n) (hj : j < n) : sHP w p g cap n i j (at' hs i) (at' hs j) := by subst hn; exact ⟨h.c0, h.c1, h.at hi, h.at hj⟩
theorem sHPc {w : World} {p g cap n i j : Nat} {xa xn xc xh ya yn yc yh : Int} (h : sHP w p g cap n i j ⟨xa, xn, xc, xh⟩ ⟨ya, yn, yc, yh⟩) :
    sHP w p g cap n i j ⟨xa, xn, xc, xh⟩ ⟨ya, yn, yc, yh⟩ ∧ w.cell? ⟨p, 0, none⟩ = some (.slice (some ⟨g, 0, none⟩) n cap) ∧ w.cell? ⟨p, 1, none⟩ = some (Value.func (.func 158) #[] #[]) ∧ w.cell? ⟨g, i * 4, none⟩ = some (.int .i64 xa) ∧ w.cell? ⟨g, i * 4 + 1, none⟩ = some (.int .i64 xn) ∧ w.cell? ⟨g, i * 4 + 2, none⟩ = some (.int .i64 xc) ∧ w.cell? ⟨g, i * 4 + 3, none⟩ = some (.int .i64 xh) ∧ w.cell? ⟨g, j * 4, none⟩ = some (.int .i64 ya) ∧ w.cell? ⟨g, j * 4 + 1, none⟩ = some (.int .i64 yn) ∧ w.cell? ⟨g, j * 4 + 2, none⟩ = some (.int .i64 yc) ∧ w.cell? ⟨g, j * 4 + 3, none⟩ = some (.int .i64 yh) :=
  ⟨h, h.1, h.2.1, h.2.2.1.1, h.2.2.1.2.1, h.2.2.1.2.2.1, h.2.2.1.2.2.2, h.2.2.2.1, h.2.2.2.2.1, h.2.2.2.2.2.1, h.2.2.2.2.2.2⟩
theorem sHP.below {w w' : World} {p g cap n i j : Nat} {x y : R} (h : sHP w p g cap n i j x y) (hb : Below w.heap.size w w') : sHP w' p g cap n i j x y := by
  obtain ⟨h0, h1, h2, h3⟩ := h
  have hp : p < w.heap.size := World.block_lt_of_cell? _ _ h0
  exact ⟨(hb.cell (p := ⟨p, 0, none⟩) hp).trans h0, (hb.cell (p := ⟨p, 1, none⟩) hp).trans h1, h2.below hb, h3.below hb⟩
set_option maxHeartbeats 16000000 in
theorem push (p : Nat) (v : Value) (hs : List R) (x : R) (w : World) (h : HP w p v hs) (hh : Heap hs) (hl : hs.length ≤ 4096) :
    Calls Tryz.prog 159 #[.pointer (some ⟨p, 0, none⟩), x.value] w fun e w' => e = .returned (.tuple #[]) ∧ ∃ v' hs', HP w' p v' hs' ∧ Heap hs' ∧ hs'.length = hs.length + 1 ∧ (∀ y, y ∈ hs' ↔ y ∈ hs ∨ y = x) ∧ Frm p v w w' ∧ Nxt w v v' := by
  have HUS := hide (up_start hh x)
  have HPA := hide (h.below ((Below.refl _ _).alloc (Nat.le_refl _) (.cells #[.int .i64 x.ds, .int .i64 x.nx, .int .i64 x.co, .int .i64 x.hp] 87)))
  have HBX := hide (bx_new w x 87)
  have HPL := h.lt
  have HF1 : Hid (Frm p v w (w.alloc (.cells #[.int .i64 x.ds, .int .i64 x.nx, .int .i64 x.co, .int .i64 x.hp] 87))) := hide (Frm.of_below ((Below.refl _ _).alloc (Nat.le_refl _) _))
  have hnv0 : ∀ k, v.ownBlock = some k → k < w.heap.size := fun k hk => (h.2.lt k hk).2
  obtain ⟨a, cap0, rfl, hcap⟩ := h.slice
  have hnv : ∀ e : Nat, some w.heap.size = (Value.slice a hs.length cap0).ownBlock → False := fun _ e => by have := hnv0 _ e.symm; omega
  clear hh h hcap
  show Calls Tryz.prog 159 #[.pointer (some ⟨p, 0, none⟩), .agg #[.int .i64 x.ds, .int .i64 x.nx, .int .i64 x.co, .int .i64 x.hp]] w _
  go_enter Tryz.func159, Tryz.ntmps159
  go_wp2_with fail
  generalize hW : w.alloc (.cells #[.int .i64 x.ds, .int .i64 x.nx, .int .i64 x.co, .int .i64 x.hp] 87) = W0 at *
  have hsz0 : W0.heap.size = w.heap.size + 1 := by rw [← hW]; simp
  clear hW
  refine wp_region_noPanic ?_
  refine Rl.drew (S := fun w' => Bx w' w.heap.size x ∧ w'.cell? ⟨w.heap.size, 0, none⟩ = some (.int .i64 x.ds) ∧ w'.cell? ⟨w.heap.size, 1, none⟩ = some (.int .i64 x.nx) ∧ w'.cell? ⟨w.heap.size, 2, none⟩ = some (.int .i64 x.co) ∧ w'.cell? ⟨w.heap.size, 3, none⟩ = some (.int .i64 x.hp)) (T := fun w' => w'.cell? ⟨p, 0, none⟩ = some (.slice a hs.length cap0)) 10 (by kernel_rfl) ⟨sBx (unhide HBX), (unhide HPA).c0⟩ (fun hHeld => ?_)

  (refine Rl.tkS (k := 10) (i := 0) (d := 5) (v := ?_) rfl rfl (by kernel_rfl) (by kernel_rfl) (by kernel_rfl) rfl (fun _ _ _ h => h) (by rfl) ?_ (by assumption) ?_; rotate_left; (focus (intro w0 hSw; (try dsimp only at hSw); go_simp; (try with_reducible rfl))); (try simp only [Act.put, List.setIfInBounds_toArray, List.set_cons_zero, List.set_cons_succ]))
  (refine Rl.tkS (k := 10) (i := 1) (d := 6) (v := ?_) rfl rfl (by kernel_rfl) (by kernel_rfl) (by kernel_rfl) rfl (fun _ _ _ h => h) (by rfl) ?_ (by assumption) ?_; rotate_left; (focus (intro w0 hSw; (try dsimp only at hSw); go_simp; (try with_reducible rfl))); (try simp only [Act.put, List.setIfInBounds_toArray, List.set_cons_zero, List.set_cons_succ]))
  (refine Rl.tkS (k := 10) (i := 2) (d := 7) (v := ?_) rfl rfl (by kernel_rfl) (by kernel_rfl) (by kernel_rfl) rfl (fun _ _ _ h => h) (by rfl) ?_ (by assumption) ?_; rotate_left; (focus (intro w0 hSw; (try dsimp only at hSw); go_simp; (try with_reducible rfl))); (try simp only [Act.put, List.setIfInBounds_toArray, List.set_cons_zero, List.set_cons_succ]))
  (refine Rl.tkS (k := 10) (i := 3) (d := 8) (v := ?_) rfl rfl (by kernel_rfl) (by kernel_rfl) (by kernel_rfl) rfl (fun _ _ _ h => h) (by rfl) ?_ (by assumption) ?_; rotate_left; (focus (intro w0 hSw; (try dsimp only at hSw); go_simp; (try with_reducible rfl))); (try simp only [Act.put, List.setIfInBounds_toArray, List.set_cons_zero, List.set_cons_succ]))
  (refine Rl.tk (k := 10) (i := 4) (d := 9) (v := ?_) rfl rfl (by kernel_rfl) (by kernel_rfl) (by kernel_rfl) (by kernel_rfl) rfl (by kernel_rfl) (fun _ _ _ h => h) (by rfl) ?_ (by assumption) ?_; rotate_left; (focus (intro w0 hSw; (try dsimp only at hSw); go_simp; (try with_reducible rfl))); (try simp only [Act.put, List.setIfInBounds_toArray, List.set_cons_zero, List.set_cons_succ]))
  (refine Rl.tkS (k := 10) (i := 5) (d := 10) (v := ?_) rfl rfl (by kernel_rfl) (by kernel_rfl) (by kernel_rfl) rfl (fun _ _ _ h => h) (by rfl) ?_ (by assumption) ?_; rotate_left; (focus (intro w0 hSw; (try dsimp only at hSw); go_simp; (try with_reducible rfl))); (try simp only [Act.put, List.setIfInBounds_toArray, List.set_cons_zero, List.set_cons_succ]))
  (refine Rl.ready (rs := [6]) (by kernel_rfl) (by simp) ?_; refine Rl.AllReadyL.cons (o := _) rfl rfl (fun K hK => ?_) Rl.AllReadyL.nil; go_simp)
  have HBX2 : Hid (Bx (W0.alloc (.cells #[.int .i64 x.ds, .int .i64 x.nx, .int .i64 x.co, .int .i64 x.hp] 87)).drew w.heap.size x) := hide ((unhide HBX).below (((Below.refl _ _).alloc (Nat.le_refl _) _).drew))
  have HPA2 : Hid (HP (W0.alloc (.cells #[.int .i64 x.ds, .int .i64 x.nx, .int .i64 x.co, .int .i64 x.hp] 87)).drew p (.slice a hs.length cap0) hs) := hide ((unhide HPA).below (((Below.refl _ _).alloc (Nat.le_refl _) _).drew))
  have HRN : Hid (RM (W0.alloc (.cells #[.int .i64 x.ds, .int .i64 x.nx, .int .i64 x.co, .int .i64 x.hp] 87)).drew (some ⟨W0.heap.size, 0, none⟩) [x]) := hide (rm_new W0 x).drew
  have HF2 : Hid (Frm p (.slice a hs.length cap0) w (W0.alloc (.cells #[.int .i64 x.ds, .int .i64 x.nx, .int .i64 x.co, .int .i64 x.hp] 87)).drew) := hide ((unhide HF1).trans (Frm.of_below (((Below.refl _ _).alloc (Nat.le_refl _) _).drew)) (Nxt.refl _ _))
  have hsz1 : (W0.alloc (.cells #[.int .i64 x.ds, .int .i64 x.nx, .int .i64 x.co, .int .i64 x.hp] 87)).drew.heap.size = w.heap.size + 2 := by show (W0.alloc (.cells #[.int .i64 x.ds, .int .i64 x.nx, .int .i64 x.co, .int .i64 x.hp] 87)).heap.size = _; rw [World.size_alloc]; omega
  rw [hsz0] at HRN
  clear hHeld HBX HPA HF1
  refine hK.out _ _ ⟨sBx (unhide HBX2), (unhide HPA2).c0⟩ (fun hHeld => ?_)
  clear hK K
  (try simp only [Act.put, List.setIfInBounds_toArray, List.set_cons_zero, List.set_cons_succ])
  generalize hW : (W0.alloc (.cells #[.int .i64 x.ds, .int .i64 x.nx, .int .i64 x.co, .int .i64 x.hp] 87)).drew = W1 at *
  clear hW
  (refine Rl.ready (rs := [7]) (by kernel_rfl) (by simp) ?_; refine Rl.AllReadyL.cons (o := _) rfl rfl (fun K hK => ?_) Rl.AllReadyL.nil; rw [if_pos (by rfl)])
  refine wp_apL (unhide HPA2).2 _ 0 1 x (unhide HRN) (by omega) (by omega) _ _ rfl rfl rfl rfl ?_
  intro g cap w3 ho hg hv
  have hb3 : w3.heap[p]? = some (.cells #[.slice a hs.length cap0, (Value.func (.func 158) #[] #[])] 189 (0, 0)) := (hg.block p (by omega) (fun e => by have := (unhide HPA2).2.lt p e.symm; omega)).trans (unhide HPA2).1
  have HBX3 : Hid (Bx w3 w.heap.size x) := hide (by
    obtain ⟨x0, x1, x2, x3⟩ := unhide HBX2
    have hne : some w.heap.size ≠ (Value.slice a hs.length cap0).ownBlock := fun e => hnv 0 e
    exact ⟨hg.cell x0 hne, hg.cell x1 hne, hg.cell x2 hne, hg.cell x3 hne⟩)
  have c3 : w3.cell? ⟨p, 0, none⟩ = some (.slice a hs.length cap0) := by simp [World.cell?, hb3]
  have f3 : w3.frozen? ⟨p, 0, none⟩ = false := by simp [World.frozen?, hb3]
  have HN : Hid (HP (w3.setCell ⟨p, 0, none⟩ (.slice (some ⟨g, 0, none⟩) (hs.length + 1) cap)) p (.slice (some ⟨g, 0, none⟩) (hs.length + 1) cap) (hs ++ [x])) := hide (hp_set (hs := hs) hb3 ho)
  have HX : Hid (Nxt w (.slice a hs.length cap0) (.slice (some ⟨g, 0, none⟩) (hs.length + 1) cap)) := hide (by
    rcases hv with e | e
    · exact .inl e.symm
    · exact .inr (.inr ⟨g, rfl, by omega⟩))
  have HF3 : Hid (Frm p (.slice a hs.length cap0) w (w3.setCell ⟨p, 0, none⟩ (.slice (some ⟨g, 0, none⟩) (hs.length + 1) cap))) := hide ((unhide HF2).trans (v' := .slice a hs.length cap0) ⟨hg.os, hg.tape, hg.output, by simpa [World.setCell] using hg.size, fun k hk hkp hkv => (Below.heap_setCell _ _ _ _ hkp).trans (hg.block k hk hkv)⟩ (Nxt.refl _ _))
  have HBX4 : Hid (Bx (w3.setCell ⟨p, 0, none⟩ (.slice (some ⟨g, 0, none⟩) (hs.length + 1) cap)) w.heap.size x) := hide (by
    obtain ⟨x0, x1, x2, x3⟩ := unhide HBX3
    refine ⟨?_, ?_, ?_, ?_⟩ <;> (rw [World.cell?_setCell_other _ _ _ _ (by intro e; have := congrArg Addr.block e; dsimp only at this; omega)]; assumption))
  clear hHeld ho hg hv HRN HPA2 HF2 hb3
  refine hK.out _ _ ⟨sBx (unhide HBX3), c3⟩ (fun hHeld => ?_)
  clear hK K
  (try simp only [Act.put, List.setIfInBounds_toArray, List.set_cons_zero, List.set_cons_succ])
  (refine Rl.tkS (k := 10) (i := 8) (d := 13) (v := ?_) rfl rfl (by kernel_rfl) (by kernel_rfl) (by kernel_rfl) rfl (fun _ _ _ h => h) (by rfl) ?_ (by assumption) ?_; rotate_left; (focus (intro w0 hSw; (try dsimp only at hSw); go_simp; (try with_reducible rfl))); (try simp only [Act.put, List.setIfInBounds_toArray, List.set_cons_zero, List.set_cons_succ]))
  (refine Rl.tkS (k := 10) (i := 9) (d := 14) (v := ?_) rfl rfl (by kernel_rfl) (by kernel_rfl) (by kernel_rfl) rfl (fun _ _ _ h => h) (by rfl) ?_ (by assumption) ?_; rotate_left; (focus (intro w0 hSw; (try dsimp only at hSw); go_simp; (try with_reducible rfl))); (try simp only [Act.put, List.setIfInBounds_toArray, List.set_cons_zero, List.set_cons_succ]))
  (refine Rl.ready (rs := [10]) (by kernel_rfl) (by simp) ?_; refine Rl.AllReadyL.last (o := _) rfl (by kernel_rfl) (fun K hK => ?_); go_simp)
  clear hHeld
  refine hK.out _ _ (sBx (unhide HBX4)) (fun hHeld => ?_)
  clear hK K
  (try simp only [Act.put, List.setIfInBounds_toArray, List.set_cons_zero, List.set_cons_succ])
  refine Rl.done (by kernel_rfl) (NoPanic.normal ?_) _
  clear hHeld HBX2 HBX3 HBX4
  generalize hW4 : w3.setCell ⟨p, 0, none⟩ (.slice (some ⟨g, 0, none⟩) (hs.length + 1) cap) = W4 at *
  clear hW4 c3 f3
  have c4 := (unhide HN).c0
  have HLN : Hid ((hs ++ [x]).length = hs.length + 1) := hide (by simp)
  have HME : Hid (∀ y, y ∈ hs ++ [x] ↔ y ∈ hs ∨ y = x) := hide (fun y => by simp)
  go_wp2_with fail
  clear c4
  generalize hN : hs.length + 1 = n at *
  have HNN := hide hN
  have hn1 : hs.length < n := by omega
  have hn2 : n ≤ 4097 := by omega
  clear hN
  go_loopw [4] (fun iv wr => ∃ (j : Nat) (L : List R), iv = .int .i64 (j : Int) ∧ j < n ∧ Hid (L.length = n) ∧ Hid (HP wr p (.slice (some ⟨g, 0, none⟩) n cap) L) ∧ Hid (UpI L j) ∧ Hid (∀ y, y ∈ L ↔ y ∈ hs ∨ y = x) ∧ Hid (Frm p (.slice a hs.length cap0) w wr)) (fun iv _ => (intOf iv).toNat)
  case atStart => exact ⟨hs.length, hs ++ [x], by go_num, hn1, HLN, HN, HUS, HME, HF3⟩
  case round =>
    obtain ⟨i, L, rfl, hin, hLn, hHP, hUP, hME, hFR⟩ := hrel
    by_cases hi0 : i = 0
    · subst hi0
      have HG : Hid (Heap L) := hide (up_done (unhide hUP) (.inl rfl))
      have hz : ¬ (0 : Int) < ((0 : Nat) : Int) := by simp
      go_wp2_with fail
      refine wp_region_noPanic ?_
      refine wp_region_held_drew (S := fun w' => True) (by kernel_rfl) trivial (fun hHeld => ?_)
      refine Rg.t 0 21 ?_
      refine Rg.t 1 22 ?_
      refine Rg.t 2 23 ?_
      refine Rg.s 3 24 ?_
      refine Rg.s 4 25 ?_
      refine Rg.s 5 26 ?_
      refine Rg.s 6 27 ?_
      refine Rg.s 7 28 ?_
      refine Rg.s 8 29 ?_
      refine Rg.s 9 30 ?_
      refine Rg.s 10 31 ?_
      refine Rg.s 11 32 ?_
      refine Rg.s 12 33 ?_
      refine Rg.s 13 34 ?_
      refine Rg.s 14 35 ?_
      refine Rg.s 15 36 ?_
      refine Rg.s 16 37 ?_
      refine Rg.s 17 38 ?_
      refine Rg.s 18 39 ?_
      refine Rg.s 19 40 ?_
      refine Rg.s 20 41 ?_
      refine Rg.s 21 42 ?_
      refine Rg.s 22 43 ?_
      refine Rg.s 23 44 ?_
      refine Rg.t 24 45 ?_
      refine wpAnyH_done (by kernel_rfl) (NoPanic.normal ?_) _
      clear hHeld
      go_wp2_with fail
      refine bodyPost_end (v := .tuple #[]) (by simp [results, Tryz.results159, go_sem]) rfl ⟨rfl, _, L, (unhide hHP).drew, unhide HG, by rw [unhide hLn, unhide HNN], unhide hME, (unhide hFR).drew, unhide HX⟩
    · obtain ⟨t, hit⟩ : ∃ t, i = t + 1 := ⟨i - 1, by omega⟩
      have e1 : (i : Int) - 1 = (t : Int) := by omega
      obtain ⟨q, hq⟩ : ∃ q, q = (i - 1) / 2 := ⟨_, rfl⟩
      have e2 : (t : Int).tdiv 2 = (q : Int) := by rw [Int.tdiv_eq_ediv_of_nonneg (by omega)]; omega
      have t0 : (0 : Int) ≤ (t : Int) := by omega
      have q0 : (0 : Int) ≤ (q : Int) := by omega
      have i0 : (0 : Int) ≤ (i : Int) := by omega
      have wt : IntKind.i64.wrap (t : Int) = (t : Int) := by rw [IntKind.wrap_i64]; omega
      have wq : IntKind.i64.wrap (q : Int) = (q : Int) := by rw [IntKind.wrap_i64]; omega
      have i1 : (0 : Int) < (i : Int) := by omega
      have i3 : 0 < i := by omega
      have i2 : (i : Int) < (n : Int) := by omega
      have q2 : (q : Int) < (n : Int) := by omega
      have hqn : q < n := by omega
      have hqi : q < i := by omega
      have HSP := hide (sHP_of (unhide hLn) (unhide hHP) hin hqn)
      have HDN : Hid (btB (at' L i) (at' L q) = false → Heap L) := hide (fun hb => up_done (unhide hUP) (.inr (by rw [← hq]; exact btB_no.1 hb)))
      have HST : Hid (btB (at' L i) (at' L q) = true → UpI (swp L i q) q) := hide (fun hb => by
        have := up_step (unhide hUP) (by omega) (by rw [unhide hLn]; exact hin) (by rw [← hq]; exact btB_iff.1 hb)
        rw [← hq] at this; exact this)
      clear hit hq
      obtain ⟨X, hX⟩ : ∃ X, at' L i = X := ⟨_, rfl⟩
      obtain ⟨Y, hY⟩ : ∃ Y, at' L q = Y := ⟨_, rfl⟩
      rw [hX, hY] at HSP HDN HST
      clear hX hY
      obtain ⟨B, hB⟩ : ∃ B, btB X Y = B := ⟨_, rfl⟩
      rw [hB] at HDN HST
      have HBT := hide hB
      clear hB
      obtain ⟨xa, xn, xc, xh⟩ := X
      obtain ⟨ya, yn, yc, yh⟩ := Y
      go_wp2_with fail
      refine wp_region_noPanic ?_
      refine wp_region_held_drew (S := fun w' => sHP w' p g cap n i q ⟨xa, xn, xc, xh⟩ ⟨ya, yn, yc, yh⟩ ∧ w'.cell? ⟨p, 0, none⟩ = some (.slice (some ⟨g, 0, none⟩) n cap) ∧ w'.cell? ⟨p, 1, none⟩ = some (Value.func (.func 158) #[] #[]) ∧ w'.cell? ⟨g, i * 4, none⟩ = some (.int .i64 xa) ∧ w'.cell? ⟨g, i * 4 + 1, none⟩ = some (.int .i64 xn) ∧ w'.cell? ⟨g, i * 4 + 2, none⟩ = some (.int .i64 xc) ∧ w'.cell? ⟨g, i * 4 + 3, none⟩ = some (.int .i64 xh) ∧ w'.cell? ⟨g, q * 4, none⟩ = some (.int .i64 ya) ∧ w'.cell? ⟨g, q * 4 + 1, none⟩ = some (.int .i64 yn) ∧ w'.cell? ⟨g, q * 4 + 2, none⟩ = some (.int .i64 yc) ∧ w'.cell? ⟨g, q * 4 + 3, none⟩ = some (.int .i64 yh)) (by kernel_rfl) (sHPc (unhide HSP)) (fun hHeld => ?_)
      refine Rg.t 0 21 ?_
      refine Rg.t 1 22 ?_
      refine Rg.t 2 23 ?_
      refine Rg.t 3 24 ?_
      refine Rg.t 4 25 ?_
      refine Rg.t 5 26 ?_
      refine Rg.t 6 27 ?_
      refine Rg.t 7 28 ?_
      refine Rg.t 8 29 ?_
      refine Rg.t 9 30 ?_
      refine Rg.t 10 31 ?_
      refine Rg.t 11 32 ?_
      refine Rg.t 12 33 ?_
      refine Rg.t 13 34 ?_
      refine Rg.t 14 35 ?_
      refine Rg.t 15 36 ?_
      refine Rg.t 16 37 ?_
      refine Rg.t 17 38 ?_
      refine Rg.t 18 39 ?_
      refine Rg.t 19 40 ?_
      refine Rg.t 20 41 ?_
      refine Rg.t 21 42 ?_
      refine Rg.t 22 43 ?_
      (refine Rg.o 23 (fun K hK => ?_); go_simp)
      refine (isBetter ⟨xa, xn, xc, xh⟩ ⟨ya, yn, yc, yh⟩ _).mono ?_
      rintro e w5 ⟨rfl, b5_⟩
      rw [unhide HBT]
      have b5 : Below wr.heap.size wr w5 := (Below.refl _ _).drew.trans b5_
      have HSP5 := hide ((unhide HSP).below b5)
      have HP5 := hide ((unhide hHP).below b5)
      have HF5 := hide ((unhide hFR).trans (Frm.of_below b5 (v := .slice (some ⟨g, 0, none⟩) n cap)) (unhide HX))
      clear b5 b5_ hHeld HSP hHP hFR
      refine hK.out _ _ (sHPc (unhide HSP5)) (fun hHeld => ?_)
      clear hK K
      (try simp only [Act.put, List.setIfInBounds_toArray, List.set_cons_zero, List.set_cons_succ])
      refine Rg.t 24 45 ?_
      refine wpAnyH_done (by kernel_rfl) (NoPanic.normal ?_) _
      clear hHeld
      cases B
      · have HG := hide (unhide HDN rfl)
        go_wp2_with fail
        refine bodyPost_end (v := .tuple #[]) (by simp [results, Tryz.results159, go_sem]) rfl ⟨rfl, _, L, unhide HP5, unhide HG, by rw [unhide hLn, unhide HNN], unhide hME, unhide HF5, unhide HX⟩
      · have HG := hide (unhide HST rfl)
        go_wp2_with fail
        refine (swap p _ L i q _ (unhide HP5) (by rw [unhide hLn]; exact hin) (by rw [unhide hLn]; exact hqn)).mono ?_
        rintro e w6 ⟨rfl, h6, f6⟩
        have HP6 := hide h6
        have HF6 := hide ((unhide HF5).trans f6 (unhide HX))
        have HL6 : Hid ((swp L i q).length = n) := hide (by rw [swp_len]; exact unhide hLn)
        have HM6 : Hid (∀ y, y ∈ swp L i q ↔ y ∈ hs ∨ y = x) := hide (fun y => by rw [swp_mem (by rw [unhide hLn]; exact hin) (by rw [unhide hLn]; exact hqn)]; exact unhide hME y)
        clear h6 f6
        go_wp2_with fail
        go_roundw
        case rel => exact ⟨q, swp L i q, rfl, hqn, HL6, HP6, HG, HM6, HF6⟩
        case measure => simp [intOf]; omega
end Wd
end Go.Proofs.YtfooahhdikobeaaGreat
namespace Go.Proofs.YtfooahhdikobeaaGreat
open Go.ChangeShapes Go.WideShapes Go.ChangeAt Go.RowKit
set_option linter.unusedVariables false
set_option linter.unusedSimpArgs false
set_option maxRecDepth 100000
attribute [local go_sem ↓] Go.wp_at_zero Go.wp_at_succ
namespace Wd
open W1 Ro Rw
theorem fst_far {hs : List R} {i b f : Nat} (h : ¬ b < hs.length) : fst1 hs i b f = f := by unfold fst1; rw [if_neg (fun e => h e.1)]
theorem fst_near {hs : List R} {i b f : Nat} (h : b < hs.length) : fst1 hs i b f = if btB (at' hs b) (at' hs f) = true then b else f := by unfold fst1; simp only [h, true_and]
/-- What firstOf has found behind k of the two. -/
def fstK (hs : List R) (i : Nat) : Nat → Nat
  | 0 => i
  | 1 => fst1 hs i (2 * i + 1) i
  | _ => fstOf hs i
set_option maxHeartbeats 16000000 in
theorem firstOf (p : Nat) (v : Value) (hs : List R) (i : Nat) (w : World) (h : HP w p v hs) (hi : i ≤ 4097) (hl : hs.length ≤ 4097) :
    Calls Tryz.prog 194 #[.pointer (some ⟨p, 0, none⟩), .int .i64 (i : Int)] w fun e w' => e = .returned (.int .i64 (fstOf hs i : Int)) ∧ Below w.heap.size w w' := by
  have HPP := hide h
  clear h
  have i0 : (0 : Int) ≤ (i : Int) := by omega
  obtain ⟨b1, hb1⟩ : ∃ b1 : Nat, b1 = 2 * i + 1 := ⟨_, rfl⟩
  obtain ⟨b2, hb2⟩ : ∃ b2 : Nat, b2 = 2 * i + 2 := ⟨_, rfl⟩
  have e1 : 2 * (i : Int) + 1 = (b1 : Int) := by omega
  have e2 : 2 * (i : Int) + 2 = (b2 : Int) := by omega
  have HB1 := hide hb1
  have HB2 := hide hb2
  have q1 : (0 : Int) ≤ (b1 : Int) := by omega
  have q2 : (0 : Int) ≤ (b2 : Int) := by omega
  have q3 : (b1 : Int) ≤ 10000 := by omega
  have q4 : (b2 : Int) ≤ 10000 := by omega
  have w1 : IntKind.i64.wrap (b1 : Int) = (b1 : Int) := by rw [IntKind.wrap_i64]; omega
  have w2 : IntKind.i64.wrap (b2 : Int) = (b2 : Int) := by rw [IntKind.wrap_i64]; omega
  clear hb1 hb2
  obtain ⟨a, cap, rfl, hcap⟩ := (unhide HPP).slice
  obtain ⟨n, hn⟩ : ∃ n, hs.length = n := ⟨_, rfl⟩
  have HNN := hide hn
  rw [hn] at HPP hl
  clear hn hcap
  have hx0 : ∀ W : World, (Instr.index 193 (.agg #[.int .i64 (b1 : Int), .int .i64 (b2 : Int)]) (.int .i64 0)).run Tryz.prog W = .ok (.int .i64 (b1 : Int)) W := fun W => by kernel_rfl
  have hx1 : ∀ W : World, (Instr.index 193 (.agg #[.int .i64 (b1 : Int), .int .i64 (b2 : Int)]) (.int .i64 1)).run Tryz.prog W = .ok (.int .i64 (b2 : Int)) W := fun W => by kernel_rfl
  go_enter Tryz.func194, Tryz.ntmps194
  go_wp2_with fail
  go_loopw [5, 16] (fun fv kv wr => ∃ k : Nat, k ≤ 2 ∧ kv = .int .i64 (k : Int) ∧ fv = .int .i64 (fstK hs i k : Int) ∧ Hid (Below w.heap.size w wr)) (fun _ kv _ => 2 - (intOf kv).toNat)
  case atStart => exact ⟨0, by omega, rfl, rfl, hide (Below.refl _ _)⟩
  case round =>
    obtain ⟨k, hk, rfl, rfl, hbl⟩ := hrel
    have hk3 : k = 0 ∨ k = 1 ∨ k = 2 := by omega
    rcases hk3 with rfl | rfl | rfl
    · obtain ⟨f, hf⟩ : ∃ f : Nat, fstK hs i 0 = f := ⟨_, rfl⟩
      have hfb : f < b1 := by
        rw [← hf, unhide HB1]
        show i < 2 * i + 1; omega
      have HS1 : Hid (∀ z, fst1 hs i b1 f = z → fstK hs i (0 + 1) = z) := hide (fun z hz => by rw [← hz, ← hf, unhide HB1]; rfl)
      rw [hf]
      have HFF := hide hf
      clear hf
      have b0 : (0 : Int) ≤ (b1 : Int) := by omega
      have f0 : (0 : Int) ≤ (f : Int) := by omega
      have HPr := hide ((unhide HPP).below (unhide hbl))
      by_cases hlt : (b1 : Int) < (n : Int)
      · obtain ⟨g, cap', hv', hpg, hgl, hc1, hc2⟩ := (unhide HPr).form (by rw [unhide HNN]; omega)
        rw [unhide HNN] at hv'
        obtain ⟨rfl, rfl⟩ : a = some ⟨g, 0, none⟩ ∧ cap = cap' := by cases hv'; exact ⟨rfl, rfl⟩
        have hfn : (f : Int) < (n : Int) := by omega
        have hltn : b1 < n := by omega
        have HSP := hide (sHP_of (unhide HNN) (unhide HPr) (i := b1) (j := f) (by omega) (by omega))
        have HT : Hid (fst1 hs i b1 f = if btB (at' hs b1) (at' hs f) = true then b1 else f) := hide (fst_near (by rw [unhide HNN]; omega))
        obtain ⟨X, hX⟩ : ∃ X, at' hs b1 = X := ⟨_, rfl⟩
        obtain ⟨Y, hY⟩ : ∃ Y, at' hs f = Y := ⟨_, rfl⟩
        rw [hX, hY] at HSP HT
        clear hX hY hv' hpg hgl hc1 hc2
        obtain ⟨B, hB⟩ : ∃ B, btB X Y = B := ⟨_, rfl⟩
        rw [hB] at HT
        have HBT := hide hB
        clear hB
        obtain ⟨xa, xn, xc, xh⟩ := X
        obtain ⟨ya, yn, yc, yh⟩ := Y
        go_wp2_with fail
        refine wp_region_noPanic ?_
        refine wp_region_held_drew (S := fun w' => sHP w' p g cap n b1 f ⟨xa, xn, xc, xh⟩ ⟨ya, yn, yc, yh⟩ ∧ w'.cell? ⟨p, 0, none⟩ = some (.slice (some ⟨g, 0, none⟩) n cap) ∧ w'.cell? ⟨p, 1, none⟩ = some (Value.func (.func 158) #[] #[]) ∧ w'.cell? ⟨g, b1 * 4, none⟩ = some (.int .i64 xa) ∧ w'.cell? ⟨g, b1 * 4 + 1, none⟩ = some (.int .i64 xn) ∧ w'.cell? ⟨g, b1 * 4 + 2, none⟩ = some (.int .i64 xc) ∧ w'.cell? ⟨g, b1 * 4 + 3, none⟩ = some (.int .i64 xh) ∧ w'.cell? ⟨g, f * 4, none⟩ = some (.int .i64 ya) ∧ w'.cell? ⟨g, f * 4 + 1, none⟩ = some (.int .i64 yn) ∧ w'.cell? ⟨g, f * 4 + 2, none⟩ = some (.int .i64 yc) ∧ w'.cell? ⟨g, f * 4 + 3, none⟩ = some (.int .i64 yh)) (by kernel_rfl) (sHPc (unhide HSP)) (fun hHeld => ?_)
        refine Rg.t 0 19 ?_
        refine Rg.t 1 20 ?_
        refine Rg.t 2 21 ?_
        refine Rg.t 3 22 ?_
        refine Rg.t 4 23 ?_
        refine Rg.t 5 24 ?_
        refine Rg.t 6 25 ?_
        refine Rg.t 7 26 ?_
        refine Rg.t 8 27 ?_
        refine Rg.t 9 28 ?_
        refine Rg.t 10 29 ?_
        refine Rg.t 11 30 ?_
        refine Rg.t 12 31 ?_
        refine Rg.t 13 32 ?_
        refine Rg.t 14 33 ?_
        refine Rg.t 15 34 ?_
        refine Rg.t 16 35 ?_
        refine Rg.t 17 36 ?_
        refine Rg.t 18 37 ?_
        refine Rg.t 19 38 ?_
        refine Rg.t 20 39 ?_
        refine Rg.t 21 40 ?_
        refine Rg.t 22 41 ?_
        refine Rg.t 23 42 ?_
        refine Rg.t 24 43 ?_
        refine Rg.t 25 44 ?_
        (refine Rg.o 26 (fun K hK => ?_); go_simp)
        refine (isBetter ⟨xa, xn, xc, xh⟩ ⟨ya, yn, yc, yh⟩ _).mono ?_
        rintro e w5 ⟨rfl, b5_⟩
        rw [unhide HBT]
        have b5 : Below wr.heap.size wr w5 := (Below.refl _ _).drew.trans b5_
        have HSP5 := hide ((unhide HSP).below b5)
        have HB5 := hide ((unhide hbl).trans (b5.mono (unhide hbl).size))
        clear b5 b5_ hHeld HSP
        refine hK.out _ _ (sHPc (unhide HSP5)) (fun hHeld => ?_)
        clear hK K
        (try simp only [Act.put, List.setIfInBounds_toArray, List.set_cons_zero, List.set_cons_succ])
        refine Rg.t 27 46 ?_
        refine wpAnyH_done (by kernel_rfl) (NoPanic.normal ?_) _
        clear hHeld
        cases B
        · have HZ := hide (unhide HS1 f (by rw [unhide HT]; rfl))
          go_wp2_with fail
          go_roundw
          case rel => exact ⟨0 + 1, by omega, by go_num, by rw [unhide HZ], HB5⟩
          case measure => simp [intOf]
        · have HZ := hide (unhide HS1 b1 (by rw [unhide HT]; rfl))
          go_wp2_with fail
          go_roundw
          case rel => exact ⟨0 + 1, by omega, by go_num, by rw [unhide HZ], HB5⟩
          case measure => simp [intOf]
      · have HZ := hide (unhide HS1 f (fst_far (by rw [unhide HNN]; omega)))
        have hltn : ¬ b1 < n := by omega
        have hltm : n ≤ b1 := by omega
        have c0 := (unhide HPr).c0
        go_wp2_with fail
        refine wp_region_noPanic ?_
        refine wp_region_held_drew (S := fun w' => w'.cell? ⟨p, 0, none⟩ = some (.slice a n cap)) (by kernel_rfl) c0 (fun hHeld => ?_)
        refine Rg.t 0 19 ?_
        refine Rg.t 1 20 ?_
        refine Rg.t 2 21 ?_
        refine Rg.t 3 22 ?_
        refine Rg.t 4 23 ?_
        refine Rg.t 5 24 ?_
        refine Rg.t 6 25 ?_
        refine Rg.t 7 26 ?_
        refine Rg.s 8 27 ?_
        refine Rg.s 9 28 ?_
        refine Rg.s 10 29 ?_
        refine Rg.s 11 30 ?_
        refine Rg.s 12 31 ?_
        refine Rg.s 13 32 ?_
        refine Rg.s 14 33 ?_
        refine Rg.s 15 34 ?_
        refine Rg.s 16 35 ?_
        refine Rg.s 17 36 ?_
        refine Rg.s 18 37 ?_
        refine Rg.s 19 38 ?_
        refine Rg.s 20 39 ?_
        refine Rg.s 21 40 ?_
        refine Rg.s 22 41 ?_
        refine Rg.s 23 42 ?_
        refine Rg.s 24 43 ?_
        refine Rg.s 25 44 ?_
        refine Rg.s 26 45 ?_
        refine Rg.t 27 46 ?_
        refine wpAnyH_done (by kernel_rfl) (NoPanic.normal ?_) _
        clear hHeld
        go_wp2_with fail
        go_roundw
        case rel => exact ⟨0 + 1, by omega, by go_num, by rw [unhide HZ], hide (unhide hbl).drew⟩
        case measure => simp [intOf]
    · obtain ⟨f, hf⟩ : ∃ f : Nat, fstK hs i 1 = f := ⟨_, rfl⟩
      have hfb : f < b2 := by
        rw [← hf, unhide HB2]
        show fst1 hs i (2 * i + 1) i < 2 * i + 2; unfold fst1; split <;> omega
      have HS1 : Hid (∀ z, fst1 hs i b2 f = z → fstK hs i (1 + 1) = z) := hide (fun z hz => by rw [← hz, ← hf, unhide HB2]; rfl)
      rw [hf]
      have HFF := hide hf
      clear hf
      have b0 : (0 : Int) ≤ (b2 : Int) := by omega
      have f0 : (0 : Int) ≤ (f : Int) := by omega
      have HPr := hide ((unhide HPP).below (unhide hbl))
      by_cases hlt : (b2 : Int) < (n : Int)
      · obtain ⟨g, cap', hv', hpg, hgl, hc1, hc2⟩ := (unhide HPr).form (by rw [unhide HNN]; omega)
        rw [unhide HNN] at hv'
        obtain ⟨rfl, rfl⟩ : a = some ⟨g, 0, none⟩ ∧ cap = cap' := by cases hv'; exact ⟨rfl, rfl⟩
        have hfn : (f : Int) < (n : Int) := by omega
        have hltn : b2 < n := by omega
        have HSP := hide (sHP_of (unhide HNN) (unhide HPr) (i := b2) (j := f) (by omega) (by omega))
        have HT : Hid (fst1 hs i b2 f = if btB (at' hs b2) (at' hs f) = true then b2 else f) := hide (fst_near (by rw [unhide HNN]; omega))
        obtain ⟨X, hX⟩ : ∃ X, at' hs b2 = X := ⟨_, rfl⟩
        obtain ⟨Y, hY⟩ : ∃ Y, at' hs f = Y := ⟨_, rfl⟩
        rw [hX, hY] at HSP HT
        clear hX hY hv' hpg hgl hc1 hc2
        obtain ⟨B, hB⟩ : ∃ B, btB X Y = B := ⟨_, rfl⟩
        rw [hB] at HT
        have HBT := hide hB
        clear hB
        obtain ⟨xa, xn, xc, xh⟩ := X
        obtain ⟨ya, yn, yc, yh⟩ := Y
        go_wp2_with fail
        refine wp_region_noPanic ?_
        refine wp_region_held_drew (S := fun w' => sHP w' p g cap n b2 f ⟨xa, xn, xc, xh⟩ ⟨ya, yn, yc, yh⟩ ∧ w'.cell? ⟨p, 0, none⟩ = some (.slice (some ⟨g, 0, none⟩) n cap) ∧ w'.cell? ⟨p, 1, none⟩ = some (Value.func (.func 158) #[] #[]) ∧ w'.cell? ⟨g, b2 * 4, none⟩ = some (.int .i64 xa) ∧ w'.cell? ⟨g, b2 * 4 + 1, none⟩ = some (.int .i64 xn) ∧ w'.cell? ⟨g, b2 * 4 + 2, none⟩ = some (.int .i64 xc) ∧ w'.cell? ⟨g, b2 * 4 + 3, none⟩ = some (.int .i64 xh) ∧ w'.cell? ⟨g, f * 4, none⟩ = some (.int .i64 ya) ∧ w'.cell? ⟨g, f * 4 + 1, none⟩ = some (.int .i64 yn) ∧ w'.cell? ⟨g, f * 4 + 2, none⟩ = some (.int .i64 yc) ∧ w'.cell? ⟨g, f * 4 + 3, none⟩ = some (.int .i64 yh)) (by kernel_rfl) (sHPc (unhide HSP)) (fun hHeld => ?_)
        refine Rg.t 0 19 ?_
        refine Rg.t 1 20 ?_
        refine Rg.t 2 21 ?_
        refine Rg.t 3 22 ?_
        refine Rg.t 4 23 ?_
        refine Rg.t 5 24 ?_
        refine Rg.t 6 25 ?_
        refine Rg.t 7 26 ?_
        refine Rg.t 8 27 ?_
        refine Rg.t 9 28 ?_
        refine Rg.t 10 29 ?_
        refine Rg.t 11 30 ?_
        refine Rg.t 12 31 ?_
        refine Rg.t 13 32 ?_
        refine Rg.t 14 33 ?_
        refine Rg.t 15 34 ?_
        refine Rg.t 16 35 ?_
        refine Rg.t 17 36 ?_
        refine Rg.t 18 37 ?_
        refine Rg.t 19 38 ?_
        refine Rg.t 20 39 ?_
        refine Rg.t 21 40 ?_
        refine Rg.t 22 41 ?_
        refine Rg.t 23 42 ?_
        refine Rg.t 24 43 ?_
        refine Rg.t 25 44 ?_
        (refine Rg.o 26 (fun K hK => ?_); go_simp)
        refine (isBetter ⟨xa, xn, xc, xh⟩ ⟨ya, yn, yc, yh⟩ _).mono ?_
        rintro e w5 ⟨rfl, b5_⟩
        rw [unhide HBT]
        have b5 : Below wr.heap.size wr w5 := (Below.refl _ _).drew.trans b5_
        have HSP5 := hide ((unhide HSP).below b5)
        have HB5 := hide ((unhide hbl).trans (b5.mono (unhide hbl).size))
        clear b5 b5_ hHeld HSP
        refine hK.out _ _ (sHPc (unhide HSP5)) (fun hHeld => ?_)
        clear hK K
        (try simp only [Act.put, List.setIfInBounds_toArray, List.set_cons_zero, List.set_cons_succ])
        refine Rg.t 27 46 ?_
        refine wpAnyH_done (by kernel_rfl) (NoPanic.normal ?_) _
        clear hHeld
        cases B
        · have HZ := hide (unhide HS1 f (by rw [unhide HT]; rfl))
          go_wp2_with fail
          go_roundw
          case rel => exact ⟨1 + 1, by omega, by go_num, by rw [unhide HZ], HB5⟩
          case measure => simp [intOf]
        · have HZ := hide (unhide HS1 b2 (by rw [unhide HT]; rfl))
          go_wp2_with fail
          go_roundw
          case rel => exact ⟨1 + 1, by omega, by go_num, by rw [unhide HZ], HB5⟩
          case measure => simp [intOf]
      · have HZ := hide (unhide HS1 f (fst_far (by rw [unhide HNN]; omega)))
        have hltn : ¬ b2 < n := by omega
        have hltm : n ≤ b2 := by omega
        have c0 := (unhide HPr).c0
        go_wp2_with fail
        refine wp_region_noPanic ?_
        refine wp_region_held_drew (S := fun w' => w'.cell? ⟨p, 0, none⟩ = some (.slice a n cap)) (by kernel_rfl) c0 (fun hHeld => ?_)
        refine Rg.t 0 19 ?_
        refine Rg.t 1 20 ?_
        refine Rg.t 2 21 ?_
        refine Rg.t 3 22 ?_
        refine Rg.t 4 23 ?_
        refine Rg.t 5 24 ?_
        refine Rg.t 6 25 ?_
        refine Rg.t 7 26 ?_
        refine Rg.s 8 27 ?_
        refine Rg.s 9 28 ?_
        refine Rg.s 10 29 ?_
        refine Rg.s 11 30 ?_
        refine Rg.s 12 31 ?_
        refine Rg.s 13 32 ?_
        refine Rg.s 14 33 ?_
        refine Rg.s 15 34 ?_
        refine Rg.s 16 35 ?_
        refine Rg.s 17 36 ?_
        refine Rg.s 18 37 ?_
        refine Rg.s 19 38 ?_
        refine Rg.s 20 39 ?_
        refine Rg.s 21 40 ?_
        refine Rg.s 22 41 ?_
        refine Rg.s 23 42 ?_
        refine Rg.s 24 43 ?_
        refine Rg.s 25 44 ?_
        refine Rg.s 26 45 ?_
        refine Rg.t 27 46 ?_
        refine wpAnyH_done (by kernel_rfl) (NoPanic.normal ?_) _
        clear hHeld
        go_wp2_with fail
        go_roundw
        case rel => exact ⟨1 + 1, by omega, by go_num, by rw [unhide HZ], hide (unhide hbl).drew⟩
        case measure => simp [intOf]
    · have HE : Hid (fstK hs i 2 = fstOf hs i) := hide rfl
      rw [unhide HE]
      go_wp2_with fail
      go_ret
      exact ⟨rfl, unhide hbl⟩
end Wd
end Go.Proofs.YtfooahhdikobeaaGreat
namespace Go.Proofs.YtfooahhdikobeaaGreat
open Go.ChangeShapes Go.WideShapes Go.ChangeAt Go.RowKit
set_option linter.unusedVariables false
set_option linter.unusedSimpArgs false
set_option maxRecDepth 100000
attribute [local go_sem ↓] Go.wp_at_zero Go.wp_at_succ
namespace Wd
open W1 Ro Rw
theorem rv_frm {w w' : World} {b p : Nat} {v : Value} {m : R} (h : RV w b m) (hf : Frm p v w w') (hp : b ≠ p) (hv : some b ≠ v.ownBlock) : RV w' b m := (hf.block b h.lt hp hv).trans h
theorem hp_other {w : World} {p b o : Nat} {v u : Value} {hs : List R} (h : HP w p v hs) (hb : b ≠ p) (hv : some b ≠ v.ownBlock) : HP (w.setCell ⟨b, o, none⟩ u) p v hs := by
  refine ⟨(Below.heap_setCell _ _ _ _ (show p ≠ b from fun e => hb e.symm)).trans h.1, ?_⟩
  refine h.2.kept (row := some b) ⟨rfl, rfl, rfl, by simp [World.setCell], fun k hk hne => Below.heap_setCell _ _ _ _ (by simpa using hne)⟩ ?_
  exact .inr (fun e => hv e.symm)
theorem frm_new {w w1 : World} {p b o : Nat} {v u : Value} (h : Frm p v w w1) (hb : w.heap.size ≤ b) : Frm p v w (w1.setCell ⟨b, o, none⟩ u) :=
  ⟨h.os, h.tape, h.output, by simpa [World.setCell] using h.size, fun k hk hp hv => (Below.heap_setCell _ _ _ _ (show k ≠ b by omega)).trans (h.block k hk hp hv)⟩
set_option maxHeartbeats 16000000 in
theorem pop (p : Nat) (v : Value) (hs : List R) (w : World) (h : HP w p v hs) (hh : Heap hs) (h0 : 0 < hs.length) (hl : hs.length ≤ 4097) :
    Calls Tryz.prog 161 #[.pointer (some ⟨p, 0, none⟩)] w fun e w' => e = .returned (at' hs 0).value ∧ ∃ v' hs', HP w' p v' hs' ∧ Heap hs' ∧ hs'.length + 1 = hs.length ∧ (∀ y ∈ hs, y = at' hs 0 ∨ y ∈ hs') ∧ (∀ y ∈ hs', y ∈ hs) ∧ Frm p v w w' ∧ Nxt w v v' := by
  obtain ⟨g, cap, rfl, hpg, hgl, hc1, hc2⟩ := h.form h0
  have HDN := hide (cut_dn hh)
  have HLN : Hid ((cutL hs).length = hs.length - 1) := hide cut_len
  have HMA : Hid (∀ y ∈ hs, y = at' hs 0 ∨ y ∈ cutL hs) := hide (fun y hy => mem_cut hy)
  have HMB : Hid (∀ y ∈ cutL hs, y ∈ hs) := hide (fun y hy => cut_mem hy)
  have HPP := hide h
  clear hh h
  obtain ⟨n, hn⟩ : ∃ n, hs.length = n := ⟨_, rfl⟩
  have HNN := hide hn
  rw [hn] at HPP HLN h0 hl hc1 ⊢
  clear hn
  obtain ⟨m, hm⟩ : ∃ m, n = m + 1 := ⟨n - 1, by omega⟩
  have HMN := hide hm
  have em : (n : Int) - 1 = (m : Int) := by omega
  have m0 : (0 : Int) ≤ (m : Int) := by omega
  have m1 : (m : Int) ≤ (n : Int) := by omega
  have m2 : (m : Int) ≤ (cap : Int) := by omega
  have wm : IntKind.i64.wrap (m : Int) = (m : Int) := by rw [IntKind.wrap_i64]; omega
  have n0 : (0 : Int) < (n : Int) := by omega
  obtain ⟨X, hX⟩ : ∃ X, at' hs 0 = X := ⟨_, rfl⟩
  have HX := hide hX
  have hA : At w g (0 * 4) X := by have := sHP_of (unhide HNN) (unhide HPP) (i := 0) (j := 0) (by omega) (by omega); rw [← hX]; exact this.2.2.1
  rw [Nat.zero_mul] at hA
  rw [hX] at HMA ⊢
  clear hX hm
  obtain ⟨xa, xn, xc, xh⟩ := X
  show Calls Tryz.prog 161 #[.pointer (some ⟨p, 0, none⟩)] w _
  have HB1 : Hid (Below w.heap.size w (w.alloc (.cells #[.int .i64 0, .int .i64 0, .int .i64 0, .int .i64 0] 87))) := hide ((Below.refl _ _).alloc (Nat.le_refl _) _)
  have HP1 := hide ((unhide HPP).below (unhide HB1))
  have HA1 := hide (hA.below (unhide HB1))
  have HZ1 : Hid (RV (w.alloc (.cells #[.int .i64 0, .int .i64 0, .int .i64 0, .int .i64 0] 87)) w.heap.size R.zero) := hide (rv_new w R.zero)
  go_enter Tryz.func161, Tryz.ntmps161
  go_wp2_with fail
  generalize hW : w.alloc (.cells #[.int .i64 0, .int .i64 0, .int .i64 0, .int .i64 0] 87) = W1 at *
  have hs1 : W1.heap.size = w.heap.size + 1 := by rw [← hW]; simp
  clear hW
  have c0 := (unhide HP1).c0
  have hp1 : p < W1.heap.size := by omega
  have hp2 : ¬ p = W1.heap.size := by omega
  have hg1 : g < W1.heap.size := by omega
  have hg2 : ¬ g = W1.heap.size := by omega
  obtain ⟨x0, x1, x2, x3⟩ := unhide HA1
  simp only [Nat.zero_add] at x1 x2 x3
  dsimp only at x0 x1 x2 x3
  have HBA : Hid (Below W1.heap.size W1 (W1.alloc (.cells #[.int .i64 0, .int .i64 0, .int .i64 0, .int .i64 0] 87))) := hide ((Below.refl _ _).alloc (Nat.le_refl _) _)
  have cA := ((unhide HP1).below (unhide HBA)).c0
  obtain ⟨y0, y1, y2, y3⟩ := (unhide HA1).below (unhide HBA)
  simp only [Nat.zero_add] at y1 y2 y3
  dsimp only at y0 y1 y2 y3
  have HBB : Hid (Below W1.heap.size W1 (W1.alloc (.cells #[.int .i64 xa, .int .i64 xn, .int .i64 xc, .int .i64 xh] 87))) := hide ((Below.refl _ _).alloc (Nat.le_refl _) _)
  have cB := ((unhide HP1).below (unhide HBB)).c0
  go_region
  have b12 : Below W1.heap.size W1 (W1.alloc (.cells #[.int .i64 xa, .int .i64 xn, .int .i64 xc, .int .i64 xh] 87)).drew := (unhide HBB).drew
  have HP2 := hide ((unhide HP1).below b12)
  have HZ2 := hide ((unhide HZ1).below b12)
  have HT2 : Hid (RV (W1.alloc (.cells #[.int .i64 xa, .int .i64 xn, .int .i64 xc, .int .i64 xh] 87)).drew (w.heap.size + 1) ⟨xa, xn, xc, xh⟩) := hide (by have := (rv_new W1 ⟨xa, xn, xc, xh⟩).drew; rw [hs1] at this; exact this)
  have HF2 : Hid (Frm p (.slice (some ⟨g, 0, none⟩) n cap) w (W1.alloc (.cells #[.int .i64 xa, .int .i64 xn, .int .i64 xc, .int .i64 xh] 87)).drew) := hide (Frm.of_below ((unhide HB1).trans (b12.mono (by omega))))
  have hs2 : (W1.alloc (.cells #[.int .i64 xa, .int .i64 xn, .int .i64 xc, .int .i64 xh] 87)).drew.heap.size = w.heap.size + 2 := by show (W1.alloc (.cells #[.int .i64 xa, .int .i64 xn, .int .i64 xc, .int .i64 xh] 87)).heap.size = _; rw [World.size_alloc]; omega
  clear b12 HBA HBB cA cB c0 x0 x1 x2 x3 y0 y1 y2 y3 HP1 HZ1 HA1 HB1
  generalize hW : (W1.alloc (.cells #[.int .i64 xa, .int .i64 xn, .int .i64 xc, .int .i64 xh] 87)).drew = W2 at *
  clear hW
  have hsw : ∀ W, HP W p (.slice (some ⟨g, 0, none⟩) n cap) hs → Calls Tryz.prog 193 #[.pointer (some ⟨p, 0, none⟩), .int .i64 0, .int .i64 (m : Int)] W fun e w' => e = .returned (.tuple #[]) ∧ HP w' p (.slice (some ⟨g, 0, none⟩) n cap) (swp hs 0 m) ∧ Frm p (.slice (some ⟨g, 0, none⟩) n cap) W w' := fun W hW => swap p _ hs 0 m W hW (by rw [unhide HNN]; omega) (by rw [unhide HNN]; have := unhide HMN; omega)
  have HSW := hide hsw
  clear hsw
  go_wp2_with fail
  refine (unhide HSW _ (unhide HP2)).mono ?_
  rintro e w3 ⟨rfl, h3, f3⟩
  have HZ3 := hide (rv_frm (unhide HZ2) f3 (by omega) (by simp [Value.ownBlock]; omega))
  have HT3 := hide (rv_frm (unhide HT2) f3 (by omega) (by simp [Value.ownBlock]; omega))
  have HF3 := hide ((unhide HF2).trans f3 (Nxt.refl _ _))
  have c3 := h3.c0
  have g3 := h3.free 0
  have HP4 : Hid (HP (w3.setCell ⟨p, 0, none⟩ (.slice (some ⟨g, 0, none⟩) m cap)) p (.slice (some ⟨g, 0, none⟩) m cap) (cutL hs)) := hide (by
    have hmn := unhide HMN
    have hnn := unhide HNN
    have hlm : (cutL hs).length = m := by rw [cut_len, hnn]; omega
    refine hp_set (hs := swp hs 0 m) h3.1 ?_
    rw [hlm]
    have hsl : (swp hs 0 m).length = n := by rw [swp_len]; exact hnn
    have ho := h3.2
    rw [hsl] at ho
    have := own_cut hsl.symm ho (k := m) (by omega)
    have e : cutL hs = (swp hs 0 m).take m := by unfold cutL; rw [hnn, show n - 1 = m by omega]
    rw [e]; exact this)
  have HZ4 : Hid (RV (w3.setCell ⟨p, 0, none⟩ (.slice (some ⟨g, 0, none⟩) m cap)) w.heap.size R.zero) := hide ((Below.heap_setCell _ _ _ _ (show w.heap.size ≠ p by omega)).trans (unhide HZ3))
  have HT4 : Hid (RV (w3.setCell ⟨p, 0, none⟩ (.slice (some ⟨g, 0, none⟩) m cap)) (w.heap.size + 1) ⟨xa, xn, xc, xh⟩) := hide ((Below.heap_setCell _ _ _ _ (show w.heap.size + 1 ≠ p by omega)).trans (unhide HT3))
  have HF4 : Hid (Frm p (.slice (some ⟨g, 0, none⟩) n cap) w (w3.setCell ⟨p, 0, none⟩ (.slice (some ⟨g, 0, none⟩) m cap))) := hide ((unhide HF3).trans (v' := .slice (some ⟨g, 0, none⟩) n cap) ⟨rfl, rfl, rfl, by simp [World.setCell], fun k hk hkp hkv => Below.heap_setCell _ _ _ _ hkp⟩ (Nxt.refl _ _))
  have hs4 : w.heap.size + 2 ≤ (w3.setCell ⟨p, 0, none⟩ (.slice (some ⟨g, 0, none⟩) m cap)).heap.size := by have := f3.size; simp [World.setCell]; omega
  clear h3 f3 HZ2 HT2 HF2 HP2 HZ3 HT3 HF3 HSW
  go_wp2_with fail
  clear c3 g3
  generalize hW4 : w3.setCell ⟨p, 0, none⟩ (.slice (some ⟨g, 0, none⟩) m cap) = W4 at *
  clear hW4
  have HLM : Hid ((cutL hs).length = m) := hide (by have := unhide HLN; have := unhide HMN; omega)
  have hm4 : m ≤ 4097 := by omega
  have HFO : Hid (∀ (L : List R) (i : Nat) W, L.length = m → i ≤ 4097 → HP W p (.slice (some ⟨g, 0, none⟩) m cap) L → Calls Tryz.prog 194 #[.pointer (some ⟨p, 0, none⟩), .int .i64 (i : Int)] W fun e w' => e = .returned (.int .i64 (fstOf L i : Int)) ∧ Below W.heap.size W w') := hide (fun L i W hLm hi hW => firstOf p _ L i W hW hi (by rw [hLm]; exact hm4))
  have HF0 : Hid (∀ (L : List R) W, L.length = m → HP W p (.slice (some ⟨g, 0, none⟩) m cap) L → Calls Tryz.prog 194 #[.pointer (some ⟨p, 0, none⟩), .int .i64 0] W fun e w' => e = .returned (.int .i64 (fstOf L 0 : Int)) ∧ Below W.heap.size W w') := hide (fun L W hLm hW => firstOf p _ L 0 W hW (by omega) (by rw [hLm]; exact hm4))
  refine (unhide HF0 _ _ (unhide HLM) (unhide HP4)).mono ?_
  rintro e w5 ⟨rfl, b5⟩
  have HP5 := hide ((unhide HP4).below b5)
  have HZ5 := hide ((unhide HZ4).below b5)
  have HT5 := hide ((unhide HT4).below b5)
  have HF5 := hide ((unhide HF4).trans (Frm.of_below b5 (v := .slice (some ⟨g, 0, none⟩) n cap)) (Nxt.refl _ _))
  have hs5 : w.heap.size + 2 ≤ w5.heap.size := by have := b5.size; omega
  have HVN : Hid (Nxt w (.slice (some ⟨g, 0, none⟩) n cap) (.slice (some ⟨g, 0, none⟩) m cap)) := hide (.inl rfl)
  clear b5 HP4 HZ4 HT4 HF4 HF0
  go_wp2_with fail
  go_loopw [5, 6] (fun iv fv wr => ∃ (i : Nat) (L : List R), iv = .int .i64 (i : Int) ∧ fv = .int .i64 (fstOf L i : Int) ∧ (i < m ∨ m = 0 ∧ i = 0) ∧ Hid (L.length = m) ∧ Hid (HP wr p (.slice (some ⟨g, 0, none⟩) m cap) L) ∧ Hid (DnI L i) ∧ Hid (∀ y, y ∈ L ↔ y ∈ cutL hs) ∧ Hid (RV wr w.heap.size R.zero) ∧ Hid (RV wr (w.heap.size + 1) ⟨xa, xn, xc, xh⟩) ∧ Hid (Frm p (.slice (some ⟨g, 0, none⟩) n cap) w wr)) (fun iv _ _ => m - (intOf iv).toNat)
  case atStart => exact ⟨0, cutL hs, rfl, rfl, by omega, HLM, HP5, HDN, hide (fun y => Iff.rfl), HZ5, HT5, HF5⟩
  case round =>
    obtain ⟨i, L, rfl, rfl, him, hLm, hHP, hDN, hME, hZ, hT, hFR⟩ := hrel
    have hlz := (unhide hZ).lt
    have hlt := (unhide hT).lt
    by_cases hk : fstOf L i = i
    · have HG : Hid (Heap L) := hide (by
        rcases him with h | ⟨h, _⟩
        · exact dn_done (unhide hDN) (by rw [unhide hLm]; exact h) hk
        · intro j h0 hj; rw [unhide hLm] at hj; omega)
      have hk' : ((fstOf L i : Int) != (i : Int)) = false := by rw [hk]; simp
      have HMA2 : Hid (∀ y ∈ hs, y = ⟨xa, xn, xc, xh⟩ ∨ y ∈ L) := hide (fun y hy => (unhide HMA y hy).imp id (fun h => (unhide hME y).2 h))
      have HMB2 : Hid (∀ y ∈ L, y ∈ hs) := hide (fun y hy => unhide HMB y ((unhide hME y).1 hy))
      have HLL : Hid (L.length + 1 = n) := hide (by have := unhide hLm; have := unhide HMN; omega)
      clear hk HMA HMB hME HFO him
      generalize fstOf L i = k at *
      obtain ⟨z0, z1, z2, z3⟩ := (unhide hZ).cells
      have y0 := (unhide hZ).free 0
      have y1 := (unhide hZ).free 1
      have y2 := (unhide hZ).free 2
      have y3 := (unhide hZ).free 3
      unfold R.zero at z0 z1 z2 z3
      dsimp only at z0 z1 z2 z3
      obtain ⟨x0, x1, x2, x3⟩ := (unhide hT).cells
      dsimp only at x0 x1 x2 x3
      have HFV : Hid (RV ((((wr.setCell ⟨w.heap.size, 0, none⟩ (.int .i64 xa)).setCell ⟨w.heap.size, 1, none⟩ (.int .i64 xn)).setCell ⟨w.heap.size, 2, none⟩ (.int .i64 xc)).setCell ⟨w.heap.size, 3, none⟩ (.int .i64 xh)) w.heap.size ⟨xa, xn, xc, xh⟩) := hide (rv_put (unhide hZ) xa xn xc xh)
      obtain ⟨v0, v1, v2, v3⟩ := (unhide HFV).cells
      dsimp only at v0 v1 v2 v3
      go_wp2_with fail
      have hne1 : some w.heap.size ≠ (Value.slice (some ⟨g, 0, none⟩) m cap).ownBlock := by simp [Value.ownBlock]; omega
      have hne2 : w.heap.size ≠ p := by omega
      refine bodyPost_ret (v := .agg #[.int .i64 xa, .int .i64 xn, .int .i64 xc, .int .i64 xh]) (by simp [results, Tryz.results161, go_sem, v0, v1, v2, v3]) rfl ⟨rfl, _, L, ?_, unhide HG, unhide HLL, unhide HMA2, unhide HMB2, ?_, unhide HVN⟩
      · exact hp_other (hp_other (hp_other (hp_other (unhide hHP) hne2 hne1) hne2 hne1) hne2 hne1) hne2 hne1
      · exact frm_new (frm_new (frm_new (frm_new (unhide hFR) (Nat.le_refl _)) (Nat.le_refl _)) (Nat.le_refl _)) (Nat.le_refl _)
    · have him' : i < m := by
        rcases him with h | ⟨h, h'⟩
        · exact h
        · exfalso; apply hk; subst h'; unfold fstOf fst1; rw [unhide hLm, h]; simp
      obtain ⟨k, hkk⟩ : ∃ k, fstOf L i = k := ⟨_, rfl⟩
      have HST := hide (dn_step (unhide hDN) (by rw [unhide hLm]; exact him') hkk (by rw [← hkk]; exact hk))
      have hik := (unhide HST).1
      have hkm : k < m := by have := (unhide HST).2.1; rw [unhide hLm] at this; exact this
      have hk' : ((k : Int) != (i : Int)) = true := by simp; omega
      rw [hkk]
      have HKK := hide hkk
      clear hk hkk him
      have HL6 : Hid ((swp L i k).length = m) := hide (by rw [swp_len]; exact unhide hLm)
      have HM6 : Hid (∀ y, y ∈ swp L i k ↔ y ∈ cutL hs) := hide (fun y => by rw [swp_mem (by rw [unhide hLm]; exact him') (by rw [unhide hLm]; exact hkm)]; exact unhide hME y)
      have hne1 : some w.heap.size ≠ (Value.slice (some ⟨g, 0, none⟩) m cap).ownBlock := by simp [Value.ownBlock]; omega
      have hne3 : some (w.heap.size + 1) ≠ (Value.slice (some ⟨g, 0, none⟩) m cap).ownBlock := by simp [Value.ownBlock]; omega
      go_wp2_with fail
      refine (swap p _ L i k _ (unhide hHP) (by rw [unhide hLm]; exact him') (by rw [unhide hLm]; exact hkm)).mono ?_
      rintro e w6 ⟨rfl, h6, f6⟩
      have HP6 := hide h6
      have HF6 := hide ((unhide hFR).trans f6 (unhide HVN))
      have HZ6 := hide (rv_frm (unhide hZ) f6 (by omega) hne1)
      have HT6 := hide (rv_frm (unhide hT) f6 (by omega) hne3)
      clear h6 f6 hHP hFR hZ hT hlz hlt
      go_wp2_with fail
      refine (unhide HFO (swp L i k) k _ (unhide HL6) (by omega) (unhide HP6)).mono ?_
      rintro e w7 ⟨rfl, b7⟩
      have HP7 := hide ((unhide HP6).below b7)
      have HZ7 := hide ((unhide HZ6).below b7)
      have HT7 := hide ((unhide HT6).below b7)
      have HF7 := hide ((unhide HF6).trans (Frm.of_below b7 (v := .slice (some ⟨g, 0, none⟩) n cap)) (Nxt.refl _ _))
      clear b7
      go_wp2_with fail
      go_roundw
      case rel => exact ⟨k, swp L i k, rfl, rfl, .inl hkm, HL6, HP7, hide (unhide HST).2.2, HM6, HZ7, HT7, HF7⟩
      case measure => simp [intOf]; omega
end Wd
end Go.Proofs.YtfooahhdikobeaaGreat
namespace Go.Proofs.YtfooahhdikobeaaGreat
set_option linter.unusedVariables false
set_option linter.unusedSimpArgs false
namespace Wd
open W1 Ro Tw
/-- What a list of eight tells: of an address its way, none where the route there is to nowhere. -/
def WL (ws : List R) (v : Int) : Option R := if 1 ≤ v ∧ v ≤ 8 then (if (at' ws (v - 1).toNat).ds = 0 then none else some (at' ws (v - 1).toNat)) else none
theorem wl_some {ws : List R} {v : Int} {x : R} (h : WL ws v = some x) : (1 ≤ v ∧ v ≤ 8) ∧ x = at' ws (v - 1).toNat ∧ x.ds ≠ 0 := by
  unfold WL at h
  split at h
  · split at h
    · cases h
    · cases h; exact ⟨by assumption, rfl, by assumption⟩
  · cases h
theorem wl_at {ws : List R} {v : Int} (hv : 1 ≤ v ∧ v ≤ 8) (h : (at' ws (v - 1).toNat).ds ≠ 0) : WL ws v = some (at' ws (v - 1).toNat) := by
  unfold WL; rw [if_pos hv, if_neg h]
theorem wl_none {ws : List R} {v : Int} (h : (at' ws (v - 1).toNat).ds = 0) : WL ws v = none := by
  unfold WL
  by_cases hv : 1 ≤ v ∧ v ≤ 8
  · rw [if_pos hv, if_pos h]
  · rw [if_neg hv]
theorem at_set {ws : List R} {i : Nat} {m : R} (h : i < ws.length) (k : Nat) : at' (ws.set i m) k = if k = i then m else at' ws k := by
  unfold at'
  simp only [List.getD_eq_getElem?_getD, List.getElem?_set]
  by_cases e : k = i
  · subst e; simp [h]
  · rw [if_neg (by omega), if_neg e]
theorem wl_set {ws : List R} (hl : ws.length = 8) {b : R} (hb : 1 ≤ b.ds ∧ b.ds ≤ 8) : WL (ws.set (b.ds - 1).toNat b) = upW (WL ws) b := by
  funext v
  unfold upW
  by_cases e : v = b.ds
  · rw [if_pos e]
    have h1 : at' (ws.set (b.ds - 1).toNat b) (v - 1).toNat = b := by rw [at_set (by omega), if_pos (by rw [e])]
    rw [wl_at (by omega) (by rw [h1]; omega), h1]
  · rw [if_neg e]
    unfold WL
    by_cases hv : 1 ≤ v ∧ v ≤ 8
    · have e1 : at' (ws.set (b.ds - 1).toNat b) (v - 1).toNat = at' ws (v - 1).toNat := by rw [at_set (by omega), if_neg (by omega)]
      rw [e1]
    · rw [if_neg hv, if_neg hv]
/-- The state of the search. -/
structure Sta (g : List Tu.R) (f : Int) (ws hs : List R) : Prop where
  len : ws.length = 8
  heap : Heap hs
  inv : Inv g f (WL ws) (fun x => x ∈ hs)
  okh : ∀ x ∈ hs, okN (cntW (WL ws)) x
  okw : ∀ v x, WL ws v = some x → okN (cntW (WL ws)) x
  size : hs.length ≤ 1 + 64 * cntW (WL ws)
  zero : ∀ i, i < 8 → (at' ws i).ds = 0 → at' ws i = R.zero
def zs8 : List R := [R.zero, R.zero, R.zero, R.zero, R.zero, R.zero, R.zero, R.zero]
theorem zs8_at (i : Nat) : at' zs8 i = R.zero := by
  unfold at' zs8
  match i with
  | 0 | 1 | 2 | 3 | 4 | 5 | 6 | 7 => rfl
  | n + 8 => simp
theorem zs8_wl (v : Int) : WL zs8 v = none := wl_none (by rw [zs8_at]; rfl)
theorem sta_start {g : List Tu.R} {f : Int} (hf : 1 ≤ f ∧ f ≤ 8) {hs : List R} (hh : Heap hs) (hl : hs.length = 1) (hm : ∀ y, y ∈ hs ↔ y = zl f) : Sta g f zs8 hs := by
  have hW : WL zs8 = fun _ => none := funext zs8_wl
  refine ⟨rfl, hh, ?_, fun x hx => ?_, fun v x h => ?_, by omega, fun i _ _ => zs8_at i⟩
  · rw [hW, show (fun x => x ∈ hs) = fun x => x = zl f from funext (fun x => propext (hm x))]
    exact inv_start g f
  · rw [(hm x).1 hx, cnt_none _ zs8_wl]; exact okN_zl hf
  · rw [zs8_wl] at h; cases h
theorem sta_top {g : List Tu.R} {f : Int} {ws hs : List R} (h : Sta g f ws hs) {b : R} (hb : b ∈ hs) : (1 ≤ b.ds ∧ b.ds ≤ 8) ∧ (0 ≤ b.co ∧ b.co ≤ 8589934592) ∧ (0 ≤ b.hp ∧ b.hp ≤ 8) := by
  have h1 := h.okh b hb
  have h2 := cnt_le (WL ws)
  unfold okN at h1
  refine ⟨by omega, by omega, by omega⟩
theorem sta_skip {g : List Tu.R} {f : Int} {ws hs hs' : List R} (h : Sta g f ws hs) {b : R} (hb : b ∈ hs) (hz : (at' ws (b.ds - 1).toNat).ds ≠ 0)
    (hh : Heap hs') (hl : hs'.length + 1 = hs.length) (h1 : ∀ y ∈ hs, y = b ∨ y ∈ hs') (h2 : ∀ y ∈ hs', y ∈ hs) : Sta g f ws hs' := by
  have hr := (sta_top h hb).1
  exact ⟨h.len, hh, inv_skip h.inv hb (wl_at hr hz) h1 h2, fun x hx => h.okh x (h2 x hx), h.okw, by have := h.size; omega, h.zero⟩
/-- What was pushed by the first j edges. -/
def psh (g : List Tu.R) (b : R) (j : Nat) (y : R) : Prop := ∃ m ∈ g.take j, hv m = b.ds ∧ y = ext b (ha m) m.val
theorem psh_zero (g : List Tu.R) (b y : R) : ¬ psh g b 0 y := by rintro ⟨m, hm, _⟩; simp at hm
theorem psh_yes {g : List Tu.R} {b : R} {j : Nat} (hj : j < g.length) (h : hv (g.getD j Tu.R.zero) = b.ds) (y : R) : psh g b (j + 1) y ↔ psh g b j y ∨ y = ext b (ha (g.getD j Tu.R.zero)) (g.getD j Tu.R.zero).val := by
  unfold psh
  rw [take_one hj]
  constructor
  · rintro ⟨m, hm, h1, h2⟩
    rcases List.mem_append.1 hm with hm | hm
    · exact .inl ⟨m, hm, h1, h2⟩
    · rw [List.mem_singleton] at hm; subst hm; exact .inr h2
  · rintro (⟨m, hm, h1, h2⟩ | e)
    · exact ⟨m, List.mem_append_left _ hm, h1, h2⟩
    · exact ⟨_, List.mem_append_right _ (List.mem_singleton.2 rfl), h, e⟩
theorem psh_no {g : List Tu.R} {b : R} {j : Nat} (hj : j < g.length) (h : hv (g.getD j Tu.R.zero) ≠ b.ds) (y : R) : psh g b (j + 1) y ↔ psh g b j y := by
  unfold psh
  rw [take_one hj]
  constructor
  · rintro ⟨m, hm, h1, h2⟩
    rcases List.mem_append.1 hm with hm | hm
    · exact ⟨m, hm, h1, h2⟩
    · rw [List.mem_singleton] at hm; subst hm; exact absurd h1 h
  · rintro ⟨m, hm, h1, h2⟩
    exact ⟨m, List.mem_append_left _ hm, h1, h2⟩
theorem psh_all {g : List Tu.R} {b y : R} : psh g b g.length y ↔ ∃ c, Ed g b.ds y.ds c ∧ y = ext b y.ds c := by
  unfold psh Ed
  rw [List.take_length]
  constructor
  · rintro ⟨m, hm, h1, h2⟩
    have e : y.ds = ha m := by rw [h2]; rfl
    exact ⟨m.val, ⟨m, hm, h1, e.symm, rfl⟩, by rw [e]; exact h2⟩
  · rintro ⟨c, ⟨m, hm, h1, h2, h3⟩, h4⟩
    exact ⟨m, hm, h1, by rw [h2, h3]; exact h4⟩
theorem sta_new {g : List Tu.R} (hg : graphB g = true) {f : Int} {ws hs hs' hs2 : List R} (h : Sta g f ws hs) {b : R} (hb : b ∈ hs) (hmin : ∀ y ∈ hs, ¬ Bt y b) (hz : (at' ws (b.ds - 1).toNat).ds = 0)
    (hl : hs'.length + 1 = hs.length) (h1 : ∀ y ∈ hs, y = b ∨ y ∈ hs') (h2 : ∀ y ∈ hs', y ∈ hs)
    (hh2 : Heap hs2) (hl2 : hs2.length ≤ hs'.length + g.length) (hm : ∀ y, y ∈ hs2 ↔ y ∈ hs' ∨ psh g b g.length y) : Sta g f (ws.set (b.ds - 1).toNat b) hs2 := by
  have hr := (sta_top h hb).1
  have hn : WL ws b.ds = none := wl_none hz
  have hp := graph_pos hg
  have ht := graph_two hg
  have hW := wl_set h.len hr
  have hc : cntW (WL (ws.set (b.ds - 1).toNat b)) = cntW (WL ws) + 1 := by rw [hW]; exact cnt_up hr.1 hr.2 hn
  have hob := h.okh b hb
  refine ⟨by rw [List.length_set]; exact h.len, hh2, ?_, fun x hx => ?_, fun v x hv => ?_, ?_, fun i hi h0 => ?_⟩
  · rw [hW]
    refine inv_new hp h.inv hb hn hmin (fun x hx => ?_) (fun x hx => ?_) (fun v c he => ?_)
    · rcases (hm x).1 hx with hx | hx
      · exact .inl (h2 x hx)
      · exact .inr (psh_all.1 hx)
    · rcases h1 x hx with e | hx'
      · exact .inl e
      · exact .inr (.inr ⟨x, (hm x).2 (.inl hx'), rfl, no_self _⟩)
    · refine .inl ⟨ext b v c, (hm _).2 (.inr (psh_all.2 ⟨c, he, rfl⟩)), rfl, no_self _⟩
  · rw [hc]
    rcases (hm x).1 hx with hx | hx
    · exact okN_mono (by omega) (h.okh x (h2 x hx))
    · obtain ⟨c, he, e⟩ := psh_all.1 hx
      have hrn := ed_rng ht he
      rw [e]
      exact okN_ext hob hrn.2.1 hrn.2.2.2
  · rw [hc]
    rw [hW] at hv
    unfold upW at hv
    split at hv
    · cases hv; exact okN_mono (by omega) hob
    · exact okN_mono (by omega) (h.okw v x hv)
  · rw [hc]
    have := two_len ht
    have := h.size
    omega
  · rw [at_set (by rw [h.len]; omega)] at h0 ⊢
    split at h0
    · omega
    · rename_i e; rw [if_neg e]; exact h.zero i hi h0
/-- The best ways as a list of eight. -/
noncomputable def waysL (g : List Tu.R) (f : Int) : List R := (List.range 8).map (fun i : Nat => (best g f ((i : Int) + 1)).getD R.zero)
theorem waysL_len (g : List Tu.R) (f : Int) : (waysL g f).length = 8 := by unfold waysL; simp
theorem waysL_at (g : List Tu.R) (f : Int) {i : Nat} (h : i < 8) : at' (waysL g f) i = (best g f ((i : Int) + 1)).getD R.zero := by
  unfold at' waysL
  rw [List.getD_eq_getElem?_getD, List.getElem?_map, List.getElem?_range h]; rfl
theorem ext_at {xs ys : List R} (hx : xs.length = 8) (hy : ys.length = 8) (h : ∀ i, i < 8 → at' xs i = at' ys i) : xs = ys := by
  apply List.ext_getElem (by rw [hx, hy])
  intro i h1 h2
  have := h i (by omega)
  unfold at' at this
  rw [List.getD_eq_getElem?_getD, List.getD_eq_getElem?_getD, List.getElem?_eq_getElem h1, List.getElem?_eq_getElem h2] at this
  exact this
theorem sta_good {g : List Tu.R} {f : Int} {ws : List R} (h : Sta g f ws []) : Good g f (WL ws) := inv_done h.inv (fun x hx => by cases hx)
theorem sta_done {g : List Tu.R} (hg : graphB g = true) {f : Int} {ws : List R} (h : Sta g f ws []) : ws = waysL g f ∧ Good g f (best g f) ∧ ∀ v x, best g f v = some x → (1 ≤ v ∧ v ≤ 8) ∧ okN 8 x := by
  have hG := sta_good h
  have e := best_is (graph_pos hg) hG
  refine ⟨ext_at h.len (waysL_len g f) (fun i hi => ?_), by rw [← e]; exact hG, fun v x hx => ?_⟩
  · rw [waysL_at g f hi, ← e]
    have hi' : ((i : Int) + 1 - 1).toNat = i := by omega
    by_cases h0 : (at' ws i).ds = 0
    · rw [wl_none (by rw [hi']; exact h0), h.zero i hi h0]; rfl
    · rw [wl_at (by omega) (by rw [hi']; exact h0), hi']; rfl
  · rw [← e] at hx
    exact ⟨(wl_some hx).1, okN_mono (cnt_le _) (h.okw v x hx)⟩
end Wd
end Go.Proofs.YtfooahhdikobeaaGreat
namespace Go.Proofs.YtfooahhdikobeaaGreat
open Go.ChangeShapes Go.WideShapes Go.ChangeAt Go.RowKit
set_option linter.unusedVariables false
set_option linter.unusedSimpArgs false
set_option maxRecDepth 100000
attribute [local go_sem ↓] Go.wp_at_zero Go.wp_at_succ
namespace Ek
open W1
set_option maxHeartbeats 1000000 in
theorem endsOfKey (k : Int) (w : World) (h0 : 0 ≤ k) (h1 : k ≤ 1000000) : Calls Tryz.prog 162 #[.int .i64 k] w fun e w' => e = .returned (.agg #[.int .i64 (k.tdiv 100), .int .i64 (k.tmod 100)]) ∧ Below w.heap.size w w' := by
  have HB : Hid (Below w.heap.size w (w.alloc (.cells #[.int .i64 0, .int .i64 0] 194))) := hide ((Below.refl _ _).alloc (Nat.le_refl _) _)
  obtain ⟨v, hv⟩ : ∃ v, k.tdiv 100 = v := ⟨_, rfl⟩
  obtain ⟨u, hu⟩ : ∃ u, k.tmod 100 = u := ⟨_, rfl⟩
  rw [hv, hu]
  have HV := hide hv
  have HU := hide hu
  clear hv hu
  go_enter Tryz.func162, Tryz.ntmps162
  go_wp2_with fail
  refine (Tw.hopOfKey k _ h0 h1).mono ?_
  rintro e w1 ⟨rfl, b1⟩
  rw [unhide HV, unhide HU]
  obtain ⟨hc, hf⟩ := bcell b1
  have hz1 := b1.size
  simp at hz1
  have hz2 : w.heap.size < w1.heap.size := by omega
  have hne : ¬ w.heap.size = w1.heap.size := by omega
  have HB1 := hide ((unhide HB).trans (b1.mono (unhide HB).size))
  clear b1
  go_wp2_with fail
  refine bodyPost_ret (v := .agg #[.int .i64 v, .int .i64 u]) (by simp [results, Tryz.results162, go_sem, hc, hz1, hz2, hne]) rfl ⟨rfl, ?_⟩
  have hB := unhide HB1
  (repeat (first | (with_reducible exact hB) | (with_reducible refine Below.drew ?_) | (with_reducible refine Below.setCell ?_ ?_ _; rotate_left; (first | exact Nat.le_refl _ | (simp; done) | (dsimp only; omega))) | (with_reducible refine Below.alloc ?_ ?_ _; rotate_left; (first | exact Nat.le_refl _ | omega | (simp [World.setCell]; omega)))))
end Ek
end Go.Proofs.YtfooahhdikobeaaGreat
namespace Go.Proofs.YtfooahhdikobeaaGreat
open Go.ChangeShapes Go.WideShapes Go.ChangeAt Go.RowKit
set_option linter.unusedVariables false
set_option linter.unusedSimpArgs false
set_option maxRecDepth 100000
attribute [local go_sem ↓] Go.wp_at_zero Go.wp_at_succ
namespace Wd
open W1 Ro Rw Tw
/-- Eight routes in a block that may be written. -/
def AV (w : World) (b : Nat) (ws : List R) : Prop := w.heap[b]? = some (.cells (flat ws).toArray 141 (0, 0))
theorem AV.lt {w : World} {b : Nat} {ws : List R} (h : AV w b ws) : b < w.heap.size := lt_block h
theorem AV.cell {w : World} {b : Nat} {ws : List R} (h : AV w b ws) (j : Nat) : w.cell? ⟨b, j, none⟩ = (flat ws)[j]? := by
  unfold AV at h; simp [World.cell?, h]
theorem AV.free {w : World} {b : Nat} {ws : List R} (h : AV w b ws) (i : Nat) : w.frozen? ⟨b, i, none⟩ = false := by unfold AV at h; simp [World.frozen?, h]
theorem AV.at {w : World} {b : Nat} {ws : List R} (h : AV w b ws) {i : Nat} (hi : i < ws.length) : At w b (i * 4) (at' ws i) := by
  have h0 := flat_get ws i 0 (by omega) hi
  have h1 := flat_get ws i 1 (by omega) hi
  have h2 := flat_get ws i 2 (by omega) hi
  have h3 := flat_get ws i 3 (by omega) hi
  exact ⟨(h.cell _).trans h0, (h.cell _).trans h1, (h.cell _).trans h2, (h.cell _).trans h3⟩
theorem AV.below {w w' : World} {b : Nat} {ws : List R} (h : AV w b ws) (hb : Below w.heap.size w w') : AV w' b ws := (hb.block b h.lt).trans h
theorem AV.under {w w' : World} {B b : Nat} {ws : List R} (h : AV w b ws) (hb : Below B w w') (hl : b < B) : AV w' b ws := (hb.block b hl).trans h
theorem AV.put {w : World} {b : Nat} {ws : List R} (h : AV w b ws) {i : Nat} (hi : i < ws.length) (m : R) : AV (put w b (i * 4) m) b (ws.set i m) := by
  have h' := heap_set (i := i * 4 + 3) (.int .i64 m.hp) (heap_set (i := i * 4 + 2) (.int .i64 m.co) (heap_set (i := i * 4 + 1) (.int .i64 m.nx) (heap_set (i := i * 4) (.int .i64 m.ds) h)))
  simp only [List.setIfInBounds_toArray] at h'
  unfold AV
  rw [flat_set ws i m hi]
  exact h'
theorem AV.range {w : World} {b : Nat} {ws : List R} (h : AV w b ws) : w.rangeAt b 0 (flat ws) := fun j v hv => by rw [Nat.zero_add, h.cell]; exact hv
theorem AV.there {w : World} {b : Nat} {ws : List R} (h : AV w b ws) : w.there b 0 (flat ws).length := fun j hj => ⟨by rw [Nat.zero_add, h.cell]; simp [hj], h.free _⟩
theorem infoA : Tryz.prog.underlying 141 = some (Tryz.prog.underlying 141).get! ∧ ((Tryz.prog.underlying 141).get!).isRow = true ∧ (Tryz.prog.info? 141).map (·.size) = some 32 := ⟨by kernel_rfl, by kernel_rfl, by kernel_rfl⟩
theorem flat_32 {ws : List R} (h : ws.length = 8) : (flat ws).length = 32 := by rw [flat_len, h]
theorem av_base (w : World) : AV (((w.alloc (.cells #[.int .i64 0, .int .i64 0, .int .i64 0, .int .i64 0, .int .i64 0, .int .i64 0, .int .i64 0, .int .i64 0, .int .i64 0, .int .i64 0, .int .i64 0, .int .i64 0, .int .i64 0, .int .i64 0, .int .i64 0, .int .i64 0, .int .i64 0, .int .i64 0, .int .i64 0, .int .i64 0, .int .i64 0, .int .i64 0, .int .i64 0, .int .i64 0, .int .i64 0, .int .i64 0, .int .i64 0, .int .i64 0, .int .i64 0, .int .i64 0, .int .i64 0, .int .i64 0] 141)).alloc (.cells #[.int .i64 0, .int .i64 0, .int .i64 0, .int .i64 0, .int .i64 0, .int .i64 0, .int .i64 0, .int .i64 0, .int .i64 0, .int .i64 0, .int .i64 0, .int .i64 0, .int .i64 0, .int .i64 0, .int .i64 0, .int .i64 0, .int .i64 0, .int .i64 0, .int .i64 0, .int .i64 0, .int .i64 0, .int .i64 0, .int .i64 0, .int .i64 0, .int .i64 0, .int .i64 0, .int .i64 0, .int .i64 0, .int .i64 0, .int .i64 0, .int .i64 0, .int .i64 0] 141)).alloc (.cells #[.slice none 0 0, (Value.func (.func 158) #[] #[])] 189)) w.heap.size zs8 ∧ AV (((w.alloc (.cells #[.int .i64 0, .int .i64 0, .int .i64 0, .int .i64 0, .int .i64 0, .int .i64 0, .int .i64 0, .int .i64 0, .int .i64 0, .int .i64 0, .int .i64 0, .int .i64 0, .int .i64 0, .int .i64 0, .int .i64 0, .int .i64 0, .int .i64 0, .int .i64 0, .int .i64 0, .int .i64 0, .int .i64 0, .int .i64 0, .int .i64 0, .int .i64 0, .int .i64 0, .int .i64 0, .int .i64 0, .int .i64 0, .int .i64 0, .int .i64 0, .int .i64 0, .int .i64 0] 141)).alloc (.cells #[.int .i64 0, .int .i64 0, .int .i64 0, .int .i64 0, .int .i64 0, .int .i64 0, .int .i64 0, .int .i64 0, .int .i64 0, .int .i64 0, .int .i64 0, .int .i64 0, .int .i64 0, .int .i64 0, .int .i64 0, .int .i64 0, .int .i64 0, .int .i64 0, .int .i64 0, .int .i64 0, .int .i64 0, .int .i64 0, .int .i64 0, .int .i64 0, .int .i64 0, .int .i64 0, .int .i64 0, .int .i64 0, .int .i64 0, .int .i64 0, .int .i64 0, .int .i64 0] 141)).alloc (.cells #[.slice none 0 0, (Value.func (.func 158) #[] #[])] 189)) (w.heap.size + 1) zs8 ∧ HP (((w.alloc (.cells #[.int .i64 0, .int .i64 0, .int .i64 0, .int .i64 0, .int .i64 0, .int .i64 0, .int .i64 0, .int .i64 0, .int .i64 0, .int .i64 0, .int .i64 0, .int .i64 0, .int .i64 0, .int .i64 0, .int .i64 0, .int .i64 0, .int .i64 0, .int .i64 0, .int .i64 0, .int .i64 0, .int .i64 0, .int .i64 0, .int .i64 0, .int .i64 0, .int .i64 0, .int .i64 0, .int .i64 0, .int .i64 0, .int .i64 0, .int .i64 0, .int .i64 0, .int .i64 0] 141)).alloc (.cells #[.int .i64 0, .int .i64 0, .int .i64 0, .int .i64 0, .int .i64 0, .int .i64 0, .int .i64 0, .int .i64 0, .int .i64 0, .int .i64 0, .int .i64 0, .int .i64 0, .int .i64 0, .int .i64 0, .int .i64 0, .int .i64 0, .int .i64 0, .int .i64 0, .int .i64 0, .int .i64 0, .int .i64 0, .int .i64 0, .int .i64 0, .int .i64 0, .int .i64 0, .int .i64 0, .int .i64 0, .int .i64 0, .int .i64 0, .int .i64 0, .int .i64 0, .int .i64 0] 141)).alloc (.cells #[.slice none 0 0, (Value.func (.func 158) #[] #[])] 189)) (w.heap.size + 1 + 1) (.slice none 0 0) [] ∧ Below w.heap.size w (((w.alloc (.cells #[.int .i64 0, .int .i64 0, .int .i64 0, .int .i64 0, .int .i64 0, .int .i64 0, .int .i64 0, .int .i64 0, .int .i64 0, .int .i64 0, .int .i64 0, .int .i64 0, .int .i64 0, .int .i64 0, .int .i64 0, .int .i64 0, .int .i64 0, .int .i64 0, .int .i64 0, .int .i64 0, .int .i64 0, .int .i64 0, .int .i64 0, .int .i64 0, .int .i64 0, .int .i64 0, .int .i64 0, .int .i64 0, .int .i64 0, .int .i64 0, .int .i64 0, .int .i64 0] 141)).alloc (.cells #[.int .i64 0, .int .i64 0, .int .i64 0, .int .i64 0, .int .i64 0, .int .i64 0, .int .i64 0, .int .i64 0, .int .i64 0, .int .i64 0, .int .i64 0, .int .i64 0, .int .i64 0, .int .i64 0, .int .i64 0, .int .i64 0, .int .i64 0, .int .i64 0, .int .i64 0, .int .i64 0, .int .i64 0, .int .i64 0, .int .i64 0, .int .i64 0, .int .i64 0, .int .i64 0, .int .i64 0, .int .i64 0, .int .i64 0, .int .i64 0, .int .i64 0, .int .i64 0] 141)).alloc (.cells #[.slice none 0 0, (Value.func (.func 158) #[] #[])] 189)) := by
  have a1 : AV (w.alloc (.cells #[.int .i64 0, .int .i64 0, .int .i64 0, .int .i64 0, .int .i64 0, .int .i64 0, .int .i64 0, .int .i64 0, .int .i64 0, .int .i64 0, .int .i64 0, .int .i64 0, .int .i64 0, .int .i64 0, .int .i64 0, .int .i64 0, .int .i64 0, .int .i64 0, .int .i64 0, .int .i64 0, .int .i64 0, .int .i64 0, .int .i64 0, .int .i64 0, .int .i64 0, .int .i64 0, .int .i64 0, .int .i64 0, .int .i64 0, .int .i64 0, .int .i64 0, .int .i64 0] 141)) w.heap.size zs8 := heap_alloc_new w _
  have a2 : AV ((w.alloc (.cells #[.int .i64 0, .int .i64 0, .int .i64 0, .int .i64 0, .int .i64 0, .int .i64 0, .int .i64 0, .int .i64 0, .int .i64 0, .int .i64 0, .int .i64 0, .int .i64 0, .int .i64 0, .int .i64 0, .int .i64 0, .int .i64 0, .int .i64 0, .int .i64 0, .int .i64 0, .int .i64 0, .int .i64 0, .int .i64 0, .int .i64 0, .int .i64 0, .int .i64 0, .int .i64 0, .int .i64 0, .int .i64 0, .int .i64 0, .int .i64 0, .int .i64 0, .int .i64 0] 141)).alloc (.cells #[.int .i64 0, .int .i64 0, .int .i64 0, .int .i64 0, .int .i64 0, .int .i64 0, .int .i64 0, .int .i64 0, .int .i64 0, .int .i64 0, .int .i64 0, .int .i64 0, .int .i64 0, .int .i64 0, .int .i64 0, .int .i64 0, .int .i64 0, .int .i64 0, .int .i64 0, .int .i64 0, .int .i64 0, .int .i64 0, .int .i64 0, .int .i64 0, .int .i64 0, .int .i64 0, .int .i64 0, .int .i64 0, .int .i64 0, .int .i64 0, .int .i64 0, .int .i64 0] 141)) (w.heap.size + 1) zs8 := by
    have := heap_alloc_new (w.alloc (.cells #[.int .i64 0, .int .i64 0, .int .i64 0, .int .i64 0, .int .i64 0, .int .i64 0, .int .i64 0, .int .i64 0, .int .i64 0, .int .i64 0, .int .i64 0, .int .i64 0, .int .i64 0, .int .i64 0, .int .i64 0, .int .i64 0, .int .i64 0, .int .i64 0, .int .i64 0, .int .i64 0, .int .i64 0, .int .i64 0, .int .i64 0, .int .i64 0, .int .i64 0, .int .i64 0, .int .i64 0, .int .i64 0, .int .i64 0, .int .i64 0, .int .i64 0, .int .i64 0] 141)) (.cells #[.int .i64 0, .int .i64 0, .int .i64 0, .int .i64 0, .int .i64 0, .int .i64 0, .int .i64 0, .int .i64 0, .int .i64 0, .int .i64 0, .int .i64 0, .int .i64 0, .int .i64 0, .int .i64 0, .int .i64 0, .int .i64 0, .int .i64 0, .int .i64 0, .int .i64 0, .int .i64 0, .int .i64 0, .int .i64 0, .int .i64 0, .int .i64 0, .int .i64 0, .int .i64 0, .int .i64 0, .int .i64 0, .int .i64 0, .int .i64 0, .int .i64 0, .int .i64 0] 141); rw [World.size_alloc] at this; exact this
  have b2 : Below (w.alloc (.cells #[.int .i64 0, .int .i64 0, .int .i64 0, .int .i64 0, .int .i64 0, .int .i64 0, .int .i64 0, .int .i64 0, .int .i64 0, .int .i64 0, .int .i64 0, .int .i64 0, .int .i64 0, .int .i64 0, .int .i64 0, .int .i64 0, .int .i64 0, .int .i64 0, .int .i64 0, .int .i64 0, .int .i64 0, .int .i64 0, .int .i64 0, .int .i64 0, .int .i64 0, .int .i64 0, .int .i64 0, .int .i64 0, .int .i64 0, .int .i64 0, .int .i64 0, .int .i64 0] 141)).heap.size (w.alloc (.cells #[.int .i64 0, .int .i64 0, .int .i64 0, .int .i64 0, .int .i64 0, .int .i64 0, .int .i64 0, .int .i64 0, .int .i64 0, .int .i64 0, .int .i64 0, .int .i64 0, .int .i64 0, .int .i64 0, .int .i64 0, .int .i64 0, .int .i64 0, .int .i64 0, .int .i64 0, .int .i64 0, .int .i64 0, .int .i64 0, .int .i64 0, .int .i64 0, .int .i64 0, .int .i64 0, .int .i64 0, .int .i64 0, .int .i64 0, .int .i64 0, .int .i64 0, .int .i64 0] 141)) ((w.alloc (.cells #[.int .i64 0, .int .i64 0, .int .i64 0, .int .i64 0, .int .i64 0, .int .i64 0, .int .i64 0, .int .i64 0, .int .i64 0, .int .i64 0, .int .i64 0, .int .i64 0, .int .i64 0, .int .i64 0, .int .i64 0, .int .i64 0, .int .i64 0, .int .i64 0, .int .i64 0, .int .i64 0, .int .i64 0, .int .i64 0, .int .i64 0, .int .i64 0, .int .i64 0, .int .i64 0, .int .i64 0, .int .i64 0, .int .i64 0, .int .i64 0, .int .i64 0, .int .i64 0] 141)).alloc (.cells #[.int .i64 0, .int .i64 0, .int .i64 0, .int .i64 0, .int .i64 0, .int .i64 0, .int .i64 0, .int .i64 0, .int .i64 0, .int .i64 0, .int .i64 0, .int .i64 0, .int .i64 0, .int .i64 0, .int .i64 0, .int .i64 0, .int .i64 0, .int .i64 0, .int .i64 0, .int .i64 0, .int .i64 0, .int .i64 0, .int .i64 0, .int .i64 0, .int .i64 0, .int .i64 0, .int .i64 0, .int .i64 0, .int .i64 0, .int .i64 0, .int .i64 0, .int .i64 0] 141)) := (Below.refl _ _).alloc (Nat.le_refl _) _
  have b3 : Below ((w.alloc (.cells #[.int .i64 0, .int .i64 0, .int .i64 0, .int .i64 0, .int .i64 0, .int .i64 0, .int .i64 0, .int .i64 0, .int .i64 0, .int .i64 0, .int .i64 0, .int .i64 0, .int .i64 0, .int .i64 0, .int .i64 0, .int .i64 0, .int .i64 0, .int .i64 0, .int .i64 0, .int .i64 0, .int .i64 0, .int .i64 0, .int .i64 0, .int .i64 0, .int .i64 0, .int .i64 0, .int .i64 0, .int .i64 0, .int .i64 0, .int .i64 0, .int .i64 0, .int .i64 0] 141)).alloc (.cells #[.int .i64 0, .int .i64 0, .int .i64 0, .int .i64 0, .int .i64 0, .int .i64 0, .int .i64 0, .int .i64 0, .int .i64 0, .int .i64 0, .int .i64 0, .int .i64 0, .int .i64 0, .int .i64 0, .int .i64 0, .int .i64 0, .int .i64 0, .int .i64 0, .int .i64 0, .int .i64 0, .int .i64 0, .int .i64 0, .int .i64 0, .int .i64 0, .int .i64 0, .int .i64 0, .int .i64 0, .int .i64 0, .int .i64 0, .int .i64 0, .int .i64 0, .int .i64 0] 141)).heap.size ((w.alloc (.cells #[.int .i64 0, .int .i64 0, .int .i64 0, .int .i64 0, .int .i64 0, .int .i64 0, .int .i64 0, .int .i64 0, .int .i64 0, .int .i64 0, .int .i64 0, .int .i64 0, .int .i64 0, .int .i64 0, .int .i64 0, .int .i64 0, .int .i64 0, .int .i64 0, .int .i64 0, .int .i64 0, .int .i64 0, .int .i64 0, .int .i64 0, .int .i64 0, .int .i64 0, .int .i64 0, .int .i64 0, .int .i64 0, .int .i64 0, .int .i64 0, .int .i64 0, .int .i64 0] 141)).alloc (.cells #[.int .i64 0, .int .i64 0, .int .i64 0, .int .i64 0, .int .i64 0, .int .i64 0, .int .i64 0, .int .i64 0, .int .i64 0, .int .i64 0, .int .i64 0, .int .i64 0, .int .i64 0, .int .i64 0, .int .i64 0, .int .i64 0, .int .i64 0, .int .i64 0, .int .i64 0, .int .i64 0, .int .i64 0, .int .i64 0, .int .i64 0, .int .i64 0, .int .i64 0, .int .i64 0, .int .i64 0, .int .i64 0, .int .i64 0, .int .i64 0, .int .i64 0, .int .i64 0] 141)) (((w.alloc (.cells #[.int .i64 0, .int .i64 0, .int .i64 0, .int .i64 0, .int .i64 0, .int .i64 0, .int .i64 0, .int .i64 0, .int .i64 0, .int .i64 0, .int .i64 0, .int .i64 0, .int .i64 0, .int .i64 0, .int .i64 0, .int .i64 0, .int .i64 0, .int .i64 0, .int .i64 0, .int .i64 0, .int .i64 0, .int .i64 0, .int .i64 0, .int .i64 0, .int .i64 0, .int .i64 0, .int .i64 0, .int .i64 0, .int .i64 0, .int .i64 0, .int .i64 0, .int .i64 0] 141)).alloc (.cells #[.int .i64 0, .int .i64 0, .int .i64 0, .int .i64 0, .int .i64 0, .int .i64 0, .int .i64 0, .int .i64 0, .int .i64 0, .int .i64 0, .int .i64 0, .int .i64 0, .int .i64 0, .int .i64 0, .int .i64 0, .int .i64 0, .int .i64 0, .int .i64 0, .int .i64 0, .int .i64 0, .int .i64 0, .int .i64 0, .int .i64 0, .int .i64 0, .int .i64 0, .int .i64 0, .int .i64 0, .int .i64 0, .int .i64 0, .int .i64 0, .int .i64 0, .int .i64 0] 141)).alloc (.cells #[.slice none 0 0, (Value.func (.func 158) #[] #[])] 189)) := (Below.refl _ _).alloc (Nat.le_refl _) _
  refine ⟨(a1.below b2).below b3, a2.below b3, ⟨?_, World.ownsRow_nil _ _ _ _⟩, ?_⟩
  · have := heap_alloc_new ((w.alloc (.cells #[.int .i64 0, .int .i64 0, .int .i64 0, .int .i64 0, .int .i64 0, .int .i64 0, .int .i64 0, .int .i64 0, .int .i64 0, .int .i64 0, .int .i64 0, .int .i64 0, .int .i64 0, .int .i64 0, .int .i64 0, .int .i64 0, .int .i64 0, .int .i64 0, .int .i64 0, .int .i64 0, .int .i64 0, .int .i64 0, .int .i64 0, .int .i64 0, .int .i64 0, .int .i64 0, .int .i64 0, .int .i64 0, .int .i64 0, .int .i64 0, .int .i64 0, .int .i64 0] 141)).alloc (.cells #[.int .i64 0, .int .i64 0, .int .i64 0, .int .i64 0, .int .i64 0, .int .i64 0, .int .i64 0, .int .i64 0, .int .i64 0, .int .i64 0, .int .i64 0, .int .i64 0, .int .i64 0, .int .i64 0, .int .i64 0, .int .i64 0, .int .i64 0, .int .i64 0, .int .i64 0, .int .i64 0, .int .i64 0, .int .i64 0, .int .i64 0, .int .i64 0, .int .i64 0, .int .i64 0, .int .i64 0, .int .i64 0, .int .i64 0, .int .i64 0, .int .i64 0, .int .i64 0] 141)) (.cells #[.slice none 0 0, (Value.func (.func 158) #[] #[])] 189); rw [World.size_alloc, World.size_alloc] at this; exact this
  · exact (((Below.refl _ _).alloc (Nat.le_refl _) _).alloc (by simp) _).alloc (by simp <;> omega) _
theorem hp_put {w : World} {p b o : Nat} {v : Value} {m : R} {hs : List R} (h : HP w p v hs) (hb : b ≠ p) (hv : some b ≠ v.ownBlock) : HP (put w b o m) p v hs := by
  unfold put; exact hp_other (hp_other (hp_other (hp_other h hb hv) hb hv) hb hv) hb hv
/-- Eight routes are read whole, written whole, handed back. -/
theorem wpList_loadA {ops : Array Oper} {rest : List Oper} {op : Oper} {a : Act} {w : World} {Q : Exit → Act → World → Prop} (x : Operand) (hgd : op.guard = none) (ho : op.op = .load 141 x) {b : Nat} {ws : List R} (hl : ws.length = 8) (hx : a.eval x = .pointer (some ⟨b, 0, none⟩)) (h : AV w b ws)
    (hk : wpList Tryz.prog ops Q rest (a.put op.dst (.agg (flat ws).toArray)) w) : wpList Tryz.prog ops Q (op :: rest) a w :=
  wpList_load_mid hgd 141 x ho b 0 hx (flat ws) _ h.range infoA.1 infoA.2.1 (by rw [infoA.2.2, flat_32 hl]) hk
theorem cells_below {B : Nat} {w0 : World} {b : Nat} (hb : B ≤ b) : ∀ (vs : List Value) (o : Nat) (w : World), Below B w0 w → Below B w0 (w.setCells b o vs)
  | [], _, w, h => h
  | v :: r, o, w, h => cells_below hb r (o + 1) _ (h.setCell (p := ⟨b, o, none⟩) hb v)
theorem wpList_storeA {ops : Array Oper} {rest : List Oper} {op : Oper} {a : Act} {w : World} {Q : Exit → Act → World → Prop} (x y : Operand) (hgd : op.guard = none) (ho : op.op = .store 141 x y) {b : Nat} {ws old : List R} (hl : ws.length = 8) (hl' : old.length = 8) (hx : a.eval x = .pointer (some ⟨b, 0, none⟩)) (hy : a.eval y = .agg (flat ws).toArray) (h : AV w b old)
    (hk : ∀ w', w'.rangeAt b 0 (flat ws) → (∀ B w0, Below B w0 w → B ≤ b → Below B w0 w') → wpList Tryz.prog ops Q rest (a.put op.dst undef) w') : wpList Tryz.prog ops Q (op :: rest) a w := by
  have ht : w.there b 0 (flat ws).toArray.size := by have := h.there; rw [flat_32 hl'] at this; simpa [flat_32 hl] using this
  refine wpList_store_mid hgd 141 x y ho b 0 (flat ws).toArray hx hy ht (by rw [infoA.2.2]; simp [flat_32 hl]) (all_oneCell_toArray (fun v hv => flat_one_cell hv)) (hk _ (World.rangeAt_setCells_same w b 0 _ (by simpa using ht)) (fun B w0 h hb => cells_below hb _ _ _ h))
theorem resultsA {fn : Func} {p : Tmp} (h : fn.results = #[.cell p 141]) (tmps : Array Value) (w : World) {b : Nat} {ws : List R} (hl : ws.length = 8) (hp : tmps.getD p undef = .pointer (some ⟨b, 0, none⟩)) (hg : w.rangeAt b 0 (flat ws)) : (results fn tmps).run Tryz.prog w = .ok (.agg (flat ws).toArray) w := by
  have hp' : tmps[p]?.getD undef = .pointer (some ⟨b, 0, none⟩) := by simpa using hp
  have hlv := run_loadVar_mid (P := Tryz.prog) w b 0 141 (flat ws) _ hg infoA.1 infoA.2.1 (by rw [infoA.2.2, flat_32 hl])
  simp only [results, h]
  simp [Sem.run_bind, hp', asAddr, hlv, Result.andThen]
set_option maxHeartbeats 32000000 in
theorem waysFrom (a : Option Addr) (g : List Tu.R) (cap : Nat) (f : Int) (w : World) (hg : graphB g = true) (hf : 1 ≤ f ∧ f ≤ 8) (hr : Tu.RM w a g) :
    Calls Tryz.prog 117 #[.slice a g.length cap, .int .i64 f] w fun e w' => e = .returned (.agg (flat (waysL g f)).toArray) ∧ Below w.heap.size w w' ∧ Good g f (best g f) ∧ ∀ v x, best g f v = some x → (1 ≤ v ∧ v ≤ 8) ∧ okN 8 x := by
  have HR := hide hr
  have HG := hide hg
  have h62 := two_len (graph_two hg)
  obtain ⟨a4, a5, ahp, ab⟩ := av_base w
  have HA4 := hide a4
  have HA5 := hide a5
  have HHP := hide ahp
  have HB0 := hide ab
  have HPU : Hid (Heap ([] : List R)) := hide (fun i _ hi => by simp at hi)
  clear hr hg a4 a5 ahp ab
  obtain ⟨n, hn⟩ : ∃ n, g.length = n := ⟨_, rfl⟩
  have HN := hide hn
  rw [hn] at h62 ⊢
  clear hn
  go_enter Tryz.func117, Tryz.ntmps117
  go_wp2_with fail
  refine (push (w.heap.size + 1 + 1) (.slice none 0 0) [] (zl f) _ (unhide HHP) (unhide HPU) (by simp)).mono ?_
  rintro e w1 ⟨rfl, v1, hs1, p1, q1, l1, m1, f1, _⟩
  have HP1 := hide p1
  have HS1 : Hid (Sta g f zs8 hs1) := hide (sta_start hf q1 (by simpa using l1) (fun y => by rw [m1]; simp))
  have fb := f1.below (unhide HHP)
  have HA51 := hide ((unhide HA5).under fb (by omega))
  have HA41 := hide ((unhide HA4).under fb (by omega))
  have HB1 := hide ((unhide HB0).trans (fb.mono (by omega)))
  have HK1 : Hid (65 * (8 - cntW (WL zs8)) + hs1.length ≤ 521) := hide (by rw [cnt_none _ zs8_wl]; simp at l1; omega)
  clear p1 q1 l1 m1 f1 fb HA4 HA5 HHP HB0 HPU
  generalize hB : w.heap.size = B at *
  have HBB := hide hB
  clear hB
  go_wp2_with fail
  go_loopg [] 521 (fun kx wr => ∃ (ws hs : List R) (v : Value), Hid (HP wr (B + 1 + 1) v hs) ∧ Hid (Sta g f ws hs) ∧ Hid (AV wr (B + 1) ws) ∧ Hid (AV wr B zs8) ∧ Hid (Below B w wr) ∧ Hid (65 * (8 - cntW (WL ws)) + hs.length ≤ kx))
  case atStart => exact ⟨zs8, hs1, v1, HP1, HS1, HA51, HA41, HB1, HK1⟩
  case round =>
    obtain ⟨ws, hs, v, hHP, hST, hA5, hA4, hbl, hkx⟩ := hrel
    by_cases hz : hs.length = 0
    · have hnil : hs = [] := List.eq_nil_of_length_eq_zero hz
      subst hnil
      have HD := hide (sta_done (unhide HG) (unhide hST))
      have hw : ws = waysL g f := (unhide HD).1
      rw [hw] at hA5
      have HL8 := hide (waysL_len g f)
      have HZ8 : Hid (zs8.length = 8) := hide rfl
      generalize hWS : waysL g f = WS at *
      have HWS := hide hWS
      clear hw hz hWS
      go_wp2_with fail
      refine (isEmpty _ _ [] _ (unhide hHP)).mono ?_
      rintro e w2 ⟨rfl, rfl⟩
      have hdz : (decide (([] : List R).length = 0)) = true := rfl
      rw [hdz]
      clear hdz
      go_wp2_with (first | (refine wpList_loadA _ rfl rfl (unhide HL8) rfl (unhide hA5) ?_) | (refine wpList_storeA _ _ rfl rfl (unhide HL8) (unhide HZ8) rfl rfl (unhide hA4) ?_; intro w9 hr9 hb9; have HR9 := hide hr9; have HB9 := hide (hb9 _ _ (unhide hbl) (Nat.le_refl _)); clear hr9 hb9))
      refine bodyPost_ret (resultsA rfl _ _ (unhide HL8) rfl (unhide HR9)) rfl ⟨by rw [unhide HWS], by rw [unhide HBB]; exact unhide HB9, (unhide HD).2⟩
    · have hpos : 0 < hs.length := by omega
      have HTM := hide (at_mem (hs := hs) (i := 0) hpos)
      have HTB := hide (sta_top (unhide hST) (unhide HTM))
      have HMN : Hid (∀ y ∈ hs, ¬ Bt y (at' hs 0)) := hide (fun y hy => heap_min (unhide hST).heap hy)
      have hsl : hs.length ≤ 600 := by have := (unhide hST).size; have := cnt_le (WL ws); omega
      have HWN := hide (unhide hST).len
      have HSK : Hid (∀ hs' : List R, (at' ws ((at' hs 0).ds - 1).toNat).ds ≠ 0 → Heap hs' → hs'.length + 1 = hs.length → (∀ y ∈ hs, y = at' hs 0 ∨ y ∈ hs') → (∀ y ∈ hs', y ∈ hs) → Sta g f ws hs') := hide (fun hs' h0 h1 h2 h3 h4 => sta_skip (unhide hST) (unhide HTM) h0 h1 h2 h3 h4)
      have HNW : Hid (∀ hs' hs2 : List R, (at' ws ((at' hs 0).ds - 1).toNat).ds = 0 → hs'.length + 1 = hs.length → (∀ y ∈ hs, y = at' hs 0 ∨ y ∈ hs') → (∀ y ∈ hs', y ∈ hs) → Heap hs2 → hs2.length ≤ hs'.length + g.length → (∀ y, y ∈ hs2 ↔ y ∈ hs' ∨ psh g (at' hs 0) g.length y) → Sta g f (ws.set ((at' hs 0).ds - 1).toNat (at' hs 0)) hs2) := hide (fun hs' hs2 h0 h1 h2 h3 h4 h5 h6 => sta_new (unhide HG) (unhide hST) (unhide HTM) (unhide HMN) h0 h1 h2 h3 h4 h5 h6)
      have HCN : Hid ((at' ws ((at' hs 0).ds - 1).toNat).ds = 0 → cntW (WL (ws.set ((at' hs 0).ds - 1).toNat (at' hs 0))) = cntW (WL ws) + 1) := hide (fun h0 => by
        rw [wl_set (unhide hST).len (unhide HTB).1]; exact cnt_up (unhide HTB).1.1 (unhide HTB).1.2 (wl_none h0))
      have HHE := hide (unhide hST).heap
      go_wp2_with fail
      refine (isEmpty _ _ hs _ (unhide hHP)).mono ?_
      rintro e w2 ⟨rfl, rfl⟩
      rw [decide_eq_false hz]
      go_wp2_with fail
      refine (pop _ _ hs _ (unhide hHP) (unhide HHE) hpos (by omega)).mono ?_
      rintro e w3 ⟨rfl, v3, hs3, p3, q3, l3, m3, n3, f3, x3⟩
      have fb := f3.below (unhide hHP)
      have HP3 := hide p3
      have HE3 := hide q3
      have HM3 := hide m3
      have HN3 := hide n3
      have HA53 := hide ((unhide hA5).under fb (by omega))
      have HA43 := hide ((unhide hA4).under fb (by omega))
      have HB3 := hide ((unhide hbl).trans (fb.mono (by omega)))
      have HSL3 := hide l3
      have hpl := p3.lt
      clear p3 q3 m3 n3 fb f3 x3 l3
      obtain ⟨b, hb⟩ : ∃ b, at' hs 0 = b := ⟨_, rfl⟩
      rw [hb] at HTB HSK HNW HCN HM3 HTM ⊢
      clear hb HMN
      obtain ⟨bd, bn, bc, bh⟩ := b
      rw [show R.value ⟨bd, bn, bc, bh⟩ = .agg #[.int .i64 bd, .int .i64 bn, .int .i64 bc, .int .i64 bh] from rfl]
      have htb := unhide HTB
      dsimp only at htb HSK HNW HCN
      obtain ⟨k, hk⟩ : ∃ k : Nat, bd = (k : Int) + 1 := ⟨(bd - 1).toNat, by omega⟩
      have hk8 : k < 8 := by omega
      have hkk : (bd - 1).toNat = k := by omega
      rw [hkk] at HSK HNW HCN
      have e1 : bd - 1 = (k : Int) := by omega
      have k0 : (0 : Int) ≤ (k : Int) := by omega
      have k8 : (k : Int) < 8 := by omega
      have wk : IntKind.i64.wrap (k : Int) = (k : Int) := by rw [IntKind.wrap_i64]; omega
      have HDK := hide hk
      clear hk hkk
      have HB4 : Hid (Below w3.heap.size w3 (w3.alloc (.cells #[.int .i64 bd, .int .i64 bn, .int .i64 bc, .int .i64 bh] 87))) := hide ((Below.refl _ _).alloc (Nat.le_refl _) _)
      have HP4 := hide ((unhide HP3).below (unhide HB4))
      have HA54 := hide ((unhide HA53).below (unhide HB4))
      have HA44 := hide ((unhide HA43).below (unhide HB4))
      have HBB4 : Hid (Below B w (w3.alloc (.cells #[.int .i64 bd, .int .i64 bn, .int .i64 bc, .int .i64 bh] 87))) := hide ((unhide HB3).trans ((unhide HB4).mono (by omega)))
      have HR4 := hide (rv_new w3 ⟨bd, bn, bc, bh⟩)
      have HQ4 : Hid (some w3.heap.size ≠ v3.ownBlock) := hide (fun e => by have := (unhide HP3).2.lt _ e.symm; omega)
      obtain ⟨a0, a1, a2, a3⟩ := (unhide HA54).at (i := k) (by rw [unhide HWN]; exact hk8)
      have g0 := (unhide HA54).free (k * 4)
      have g1 := (unhide HA54).free (k * 4 + 1)
      have g2 := (unhide HA54).free (k * 4 + 2)
      have g3 := (unhide HA54).free (k * 4 + 3)
      have hs4 : (w3.alloc (.cells #[.int .i64 bd, .int .i64 bn, .int .i64 bc, .int .i64 bh] 87)).heap.size = w3.heap.size + 1 := by simp
      clear HP3 HA53 HA43 HB3
      by_cases hd : (at' ws k).ds = 0
      · have hd' : ((at' ws k).ds != 0) = false := by simpa using hd
        have hcn := unhide HCN hd
        have HNW2 := hide (fun hs2 => unhide HNW hs3 hs2 hd (unhide HSL3) (unhide HM3) (unhide HN3))
        have hne1 : B + 1 ≠ B + 1 + 1 := by omega
        have HNE : Hid (some (B + 1) ≠ v3.ownBlock) := hide (fun e => by have := (unhide HP4).2.lt _ e.symm; omega)
        have hQB : w3.heap.size ≠ B + 1 := by omega
        have HA55 := hide ((unhide HA54).put (i := k) (by rw [unhide HWN]; exact hk8) ⟨bd, bn, bc, bh⟩)
        have HP5 := hide (hp_put (o := k * 4) (m := ⟨bd, bn, bc, bh⟩) (unhide HP4) hne1 (unhide HNE))
        have HA45 : Hid (AV (put (w3.alloc (.cells #[.int .i64 bd, .int .i64 bn, .int .i64 bc, .int .i64 bh] 87)) (B + 1) (k * 4) ⟨bd, bn, bc, bh⟩) B zs8) := hide ((put_other (show B ≠ B + 1 by omega)).trans (unhide HA44))
        have HR5 : Hid (RV (put (w3.alloc (.cells #[.int .i64 bd, .int .i64 bn, .int .i64 bc, .int .i64 bh] 87)) (B + 1) (k * 4) ⟨bd, bn, bc, bh⟩) w3.heap.size ⟨bd, bn, bc, bh⟩) := hide ((put_other hQB).trans (unhide HR4))
        have HB5 := hide (put_below (g := B + 1) (o := k * 4) (m := ⟨bd, bn, bc, bh⟩) (unhide HBB4) (by omega))
        have hs5 : (put (w3.alloc (.cells #[.int .i64 bd, .int .i64 bn, .int .i64 bc, .int .i64 bh] 87)) (B + 1) (k * 4) ⟨bd, bn, bc, bh⟩).heap.size = w3.heap.size + 1 := by rw [put_size]; exact hs4
        have HPW : Hid (put (w3.alloc (.cells #[.int .i64 bd, .int .i64 bn, .int .i64 bc, .int .i64 bh] 87)) (B + 1) (k * 4) ⟨bd, bn, bc, bh⟩ = (((((w3.alloc (.cells #[.int .i64 bd, .int .i64 bn, .int .i64 bc, .int .i64 bh] 87)).setCell ⟨B + 1, k * 4, none⟩ (.int .i64 bd)).setCell ⟨B + 1, k * 4 + 1, none⟩ (.int .i64 bn)).setCell ⟨B + 1, k * 4 + 2, none⟩ (.int .i64 bc)).setCell ⟨B + 1, k * 4 + 3, none⟩ (.int .i64 bh))) := hide rfl
        have HMJ : Hid (∀ y, y ∈ hs3 ↔ y ∈ hs3 ∨ psh g ⟨bd, bn, bc, bh⟩ 0 y) := hide (fun y => ⟨.inl, fun h => h.elim id (fun h => absurd h (psh_zero _ _ _))⟩)
        have HLJ : Hid (hs3.length ≤ hs3.length + 0) := hide (Nat.le_refl _)
        have HRM : Hid (∀ W, Below B w W → Tu.RM W a g) := hide (fun W h => (unhide HR).below (by rw [unhide HBB]; exact h))
        generalize hws : ws.set k ⟨bd, bn, bc, bh⟩ = ws2 at *
        clear hws
        clear HSK HNW HCN hd HA54 HA44 HBB4 HR4 HP4 hA5 hA4 hbl hHP HTM HHE hST HM3 HN3
        generalize (at' ws k).ds = dk at *
        generalize (at' ws k).nx = nk at *
        generalize (at' ws k).co = ck at *
        generalize (at' ws k).hp = pk at *
        go_wp2_with fail
        rw [← unhide HPW]
        generalize hW5 : put (w3.alloc (.cells #[.int .i64 bd, .int .i64 bn, .int .i64 bc, .int .i64 bh] 87)) (B + 1) (k * 4) ⟨bd, bn, bc, bh⟩ = W5 at *
        clear hW5 a0 a1 a2 a3 g0 g1 g2 g3 HPW
        generalize hQ : w3.heap.size = Q at *
        clear hQ
        go_loopw [32] (fun jv wr => ∃ (j : Nat) (L : List R) (v : Value), j ≤ n ∧ jv = .int .i64 (j : Int) ∧ Hid (HP wr (B + 1 + 1) v L) ∧ Hid (Heap L) ∧ Hid (L.length ≤ hs3.length + j) ∧ Hid (∀ y, y ∈ L ↔ y ∈ hs3 ∨ psh g ⟨bd, bn, bc, bh⟩ j y) ∧ Hid (AV wr (B + 1) ws2) ∧ Hid (AV wr B zs8) ∧ Hid (RV wr Q ⟨bd, bn, bc, bh⟩) ∧ Hid (some Q ≠ v.ownBlock) ∧ Hid (Below B w wr)) (fun jv _ => n - (intOf jv).toNat)
        case atStart => exact ⟨0, hs3, v3, by omega, rfl, HP5, HE3, HLJ, HMJ, HA55, HA45, HR5, HQ4, HB5⟩
        case round =>
          obtain ⟨j, L, v, hj, rfl, hHP, hHE, hLE, hME, hA5, hA4, hRV, hQV, hbl⟩ := hrel
          by_cases hlt : (j : Int) < (n : Int)
          · have k1 : (0 : Int) ≤ (j : Int) := by omega
            have hlen : j < g.length := by rw [unhide HN]; omega
            have HRr := hide (unhide HRM _ (unhide hbl))
            obtain ⟨ga, off, rfl⟩ := (unhide HRr).form (by omega)
            obtain ⟨c0, c1, c2⟩ := (unhide HRr).at hlen
            have hbd := St.ok_bounds (St.setB_ok (two_set (graph_two (unhide HG))) hlen)
            have hbk := ok_k (two_ok (graph_two (unhide HG)) _ (Tu.getD_mem hlen))
            have HPY : Hid (hv (g.getD j Tu.R.zero) = bd → ∀ y, psh g ⟨bd, bn, bc, bh⟩ (j + 1) y ↔ psh g ⟨bd, bn, bc, bh⟩ j y ∨ y = ext ⟨bd, bn, bc, bh⟩ (ha (g.getD j Tu.R.zero)) (g.getD j Tu.R.zero).val) := hide (fun h y => psh_yes hlen h y)
            have HPN : Hid (hv (g.getD j Tu.R.zero) ≠ bd → ∀ y, psh g ⟨bd, bn, bc, bh⟩ (j + 1) y ↔ psh g ⟨bd, bn, bc, bh⟩ j y) := hide (fun h y => psh_no hlen h y)
            unfold hv ha at HPY hbk
            unfold hv at HPN
            generalize g.getD j Tu.R.zero = m at *
            obtain ⟨key, til, val⟩ := m
            dsimp only at c0 c1 c2 hbd hbk HPY HPN
            have hpl2 := (unhide hHP).lt
            have hQl := (unhide hRV).lt
            have B6 : Hid (Below wr.heap.size wr (wr.alloc (.cells #[.int .i64 key, .int .i64 til, .int .i64 val] 99))) := hide ((Below.refl _ _).alloc (Nat.le_refl _) _)
            have HX6 := hide (Tw.bx_new wr ⟨key, til, val⟩ 99)
            have hs6 : (wr.alloc (.cells #[.int .i64 key, .int .i64 til, .int .i64 val] 99)).heap.size = wr.heap.size + 1 := by simp
            go_wp2_with fail
            refine (Ek.endsOfKey key _ (by omega) (by omega)).mono ?_
            rintro e w7 ⟨rfl, b7⟩
            generalize hhh : key.tdiv 100 = hh at *
            generalize haa : key.tmod 100 = aa at *
            clear hhh haa
            have hs7 := b7.size
            rw [hs6] at hs7
            have b8 : Below wr.heap.size wr (w7.alloc (.cells #[.int .i64 hh, .int .i64 aa] 194)) := ((unhide B6).trans (b7.mono (by omega))).alloc (by omega) _
            have HP8 := hide ((unhide hHP).below b8)
            have HA58 := hide ((unhide hA5).below b8)
            have HA48 := hide ((unhide hA4).below b8)
            have HR8 := hide ((unhide hRV).below b8)
            have HB8 := hide ((unhide hbl).trans (b8.mono (by omega)))
            have HX8 := hide (((unhide HX6).below b7).below ((Below.refl _ _).alloc (Nat.le_refl _) (.cells #[.int .i64 hh, .int .i64 aa] 194)))
            have hs8 : (w7.alloc (.cells #[.int .i64 hh, .int .i64 aa] 194)).heap.size = w7.heap.size + 1 := by simp
            obtain ⟨r0, r1, r2, r3⟩ := (unhide HR8).cells
            obtain ⟨y0, y1, y2⟩ := unhide HX8
            dsimp only at r0 r1 r2 r3 y0 y1 y2
            clear B6 HX6 b7 b8 c0 c1 c2 hHP hA5 hA4 hRV hbl HRr
            by_cases hhb : hh = bd
            · have hhb' : (hh == bd) = true := by simpa using hhb
              have HJ := hide (unhide HPY hhb)
              clear hhb HPY HPN
              go_wp2_with fail
              refine (longer ⟨bd, bn, bc, bh⟩ aa val _ (by dsimp only; omega) (by dsimp only; omega) (by omega)).mono ?_
              rintro e w9 ⟨rfl, b9⟩
              have HP9 := hide ((unhide HP8).below b9)
              have HA59 := hide ((unhide HA58).below b9)
              have HA49 := hide ((unhide HA48).below b9)
              have HR9 := hide ((unhide HR8).below b9)
              have HB9 := hide ((unhide HB8).trans (b9.mono (by omega)))
              have hs9 := b9.size
              rw [hs8] at hs9
              clear b9 HP8 HA58 HA48 HR8 HB8 r0 r1 r2 r3 y0 y1 y2 HX8
              generalize ext ⟨bd, bn, bc, bh⟩ aa val = z at *
              go_wp2_with fail
              refine (push _ _ L z _ (unhide HP9) (unhide hHE) (by have := unhide hLE; have := unhide HSL3; omega)).mono ?_
              rintro e w10 ⟨rfl, v', L', p10, q10, l10, m10, f10, x10⟩
              have fb := f10.below (unhide HP9)
              have HP10 := hide p10
              have HE10 := hide q10
              have HLJ2 : Hid (L'.length ≤ hs3.length + (j + 1)) := hide (by have := unhide hLE; omega)
              have HMJ2 : Hid (∀ y, y ∈ L' ↔ y ∈ hs3 ∨ psh g ⟨bd, bn, bc, bh⟩ (j + 1) y) := hide (fun y => by rw [m10, unhide hME, unhide HJ, or_assoc])
              have HA510 := hide ((unhide HA59).under fb (by omega))
              have HA410 := hide ((unhide HA49).under fb (by omega))
              have HB10 := hide ((unhide HB9).trans (fb.mono (by omega)))
              have HR10 := hide (rv_frm (unhide HR9) f10 (by omega) (unhide hQV))
              have HQ10 : Hid (some Q ≠ v'.ownBlock) := hide (by
                rcases x10 with e | e | ⟨t, e, ht⟩
                · rw [e]; exact unhide hQV
                · rw [e]; simp
                · rw [e]; intro e'; cases e'; omega)
              clear p10 q10 l10 m10 f10 x10 fb
              go_wp2_with fail
              go_roundw
              case rel => exact ⟨j + 1, L', v', by omega, by go_num, HP10, HE10, HLJ2, HMJ2, HA510, HA410, HR10, HQ10, HB10⟩
              case measure => simp [intOf]; omega
            · have hhb' : (hh == bd) = false := by simpa using hhb
              have HJ := hide (unhide HPN hhb)
              have HMJ2 : Hid (∀ y, y ∈ L ↔ y ∈ hs3 ∨ psh g ⟨bd, bn, bc, bh⟩ (j + 1) y) := hide (fun y => by rw [unhide hME, unhide HJ])
              have HLJ2 : Hid (L.length ≤ hs3.length + (j + 1)) := hide (by have := unhide hLE; omega)
              clear hhb HPY HPN
              go_wp2_with fail
              go_roundw
              case rel => exact ⟨j + 1, L, v, by omega, by go_num, HP8, hHE, HLJ2, HMJ2, HA58, HA48, HR8, hQV, HB8⟩
              case measure => simp [intOf]; omega
          · obtain rfl : j = n := by omega
            have HS2 := hide (unhide HNW2 L (unhide hHE) (by rw [unhide HN]; exact unhide hLE) (fun y => by rw [unhide HN]; exact unhide hME y))
            have hm2 : 65 * (8 - cntW (WL ws2)) + L.length < gk := by
              have h1 := unhide hkx; have h2 := unhide HSL3; have h3 := unhide hLE; have h4 := cnt_le (WL ws2)
              omega
            go_wp2_with fail
            go_roundg (65 * (8 - cntW (WL ws2)) + L.length)
            case measure => exact hm2
            case rel => exact ⟨ws2, L, v, hHP, HS2, hA5, hA4, hbl, hide (Nat.le_refl _)⟩
      · have hd' : ((at' ws k).ds != 0) = true := by simpa using hd
        have HS2 := hide (unhide HSK hs3 hd (unhide HE3) (unhide HSL3) (unhide HM3) (unhide HN3))
        have hm2 : 65 * (8 - cntW (WL ws)) + hs3.length < gk := by have := unhide hkx; have := unhide HSL3; omega
        have HK2 : Hid (65 * (8 - cntW (WL ws)) + hs3.length ≤ 65 * (8 - cntW (WL ws)) + hs3.length) := hide (Nat.le_refl _)
        generalize (at' ws k).ds = dk at *
        generalize (at' ws k).nx = nk at *
        generalize (at' ws k).co = ck at *
        generalize (at' ws k).hp = pk at *
        go_wp2_with fail
        go_roundg (65 * (8 - cntW (WL ws)) + hs3.length)
        case measure => exact hm2
        case rel => exact ⟨ws, hs3, v3, HP4, HS2, HA54, HA44, HBB4, HK2⟩
end Wd
end Go.Proofs.YtfooahhdikobeaaGreat
namespace Go.Proofs.YtfooahhdikobeaaGreat
open Go.ChangeShapes Go.WideShapes Go.ChangeAt Go.RowKit
set_option linter.unusedVariables false
set_option linter.unusedSimpArgs false
set_option maxRecDepth 100000
attribute [local go_sem ↓] Go.wp_at_zero Go.wp_at_succ
namespace Wd
open W1 Ro Rw Tw
/-- What Distances, RoutesOf answer. -/
def dstV (x : R) : Int := if x.ds = 0 then -1 else x.co
def keptB (f : Int) (x : R) : Bool := x.ds != 0 && x.ds != f
noncomputable def rouL (g : List Tu.R) (f : Int) : List R := (waysL g f).filter (keptB f)
noncomputable def rouA (g : List Tu.R) (f : Int) : List R := if codeG g f = 0 then rouL g f else []
theorem rouL_len (g : List Tu.R) (f : Int) : (rouL g f).length ≤ 8 := by have := List.length_filter_le (keptB f) (waysL g f); rw [waysL_len] at this; exact this
theorem tk1 {α : Type} (z : α) {xs : List α} {j : Nat} (h : j < xs.length) : xs.take (j + 1) = xs.take j ++ [xs.getD j z] := by
  rw [List.take_add_one, List.getElem?_eq_getElem h, List.getD_eq_getElem?_getD, List.getElem?_eq_getElem h]; rfl
theorem eight {ws : List R} (h : ws.length = 8) : ∃ a b c d e f g i, ws = [a, b, c, d, e, f, g, i] := by
  match ws, h with
  | [a, b, c, d, e, f, g, i], _ => exact ⟨a, b, c, d, e, f, g, i, rfl⟩
theorem idx0 (a b c d e f g i : R) (W : World) : (Instr.index 141 (.agg (flat [a, b, c, d, e, f, g, i]).toArray) (.int .i64 0)).run Tryz.prog W = .ok a.value W := by kernel_rfl
theorem idx1 (a b c d e f g i : R) (W : World) : (Instr.index 141 (.agg (flat [a, b, c, d, e, f, g, i]).toArray) (.int .i64 1)).run Tryz.prog W = .ok b.value W := by kernel_rfl
theorem idx2 (a b c d e f g i : R) (W : World) : (Instr.index 141 (.agg (flat [a, b, c, d, e, f, g, i]).toArray) (.int .i64 2)).run Tryz.prog W = .ok c.value W := by kernel_rfl
theorem idx3 (a b c d e f g i : R) (W : World) : (Instr.index 141 (.agg (flat [a, b, c, d, e, f, g, i]).toArray) (.int .i64 3)).run Tryz.prog W = .ok d.value W := by kernel_rfl
theorem idx4 (a b c d e f g i : R) (W : World) : (Instr.index 141 (.agg (flat [a, b, c, d, e, f, g, i]).toArray) (.int .i64 4)).run Tryz.prog W = .ok e.value W := by kernel_rfl
theorem idx5 (a b c d e f g i : R) (W : World) : (Instr.index 141 (.agg (flat [a, b, c, d, e, f, g, i]).toArray) (.int .i64 5)).run Tryz.prog W = .ok f.value W := by kernel_rfl
theorem idx6 (a b c d e f g i : R) (W : World) : (Instr.index 141 (.agg (flat [a, b, c, d, e, f, g, i]).toArray) (.int .i64 6)).run Tryz.prog W = .ok g.value W := by kernel_rfl
theorem idx7 (a b c d e f g i : R) (W : World) : (Instr.index 141 (.agg (flat [a, b, c, d, e, f, g, i]).toArray) (.int .i64 7)).run Tryz.prog W = .ok i.value W := by kernel_rfl
theorem idxA (ws : List R) (hl : ws.length = 8) (i : Nat) (hi : i < 8) (W : World) : (Instr.index 141 (.agg (flat ws).toArray) (.int .i64 (i : Int))).run Tryz.prog W = .ok (at' ws i).value W := by
  obtain ⟨a, b, c, d, e, f, g, h, rfl⟩ := eight hl
  have h8 : i = 0 ∨ i = 1 ∨ i = 2 ∨ i = 3 ∨ i = 4 ∨ i = 5 ∨ i = 6 ∨ i = 7 := by omega
  rcases h8 with rfl | rfl | rfl | rfl | rfl | rfl | rfl | rfl
  · exact idx0 a b c d e f g h W
  · exact idx1 a b c d e f g h W
  · exact idx2 a b c d e f g h W
  · exact idx3 a b c d e f g h W
  · exact idx4 a b c d e f g h W
  · exact idx5 a b c d e f g h W
  · exact idx6 a b c d e f g h W
  · exact idx7 a b c d e f g h W
end Wd
end Go.Proofs.YtfooahhdikobeaaGreat
namespace Go.Proofs.YtfooahhdikobeaaGreat
open Go.ChangeShapes Go.WideShapes Go.ChangeAt Go.RowKit
set_option linter.unusedVariables false
set_option linter.unusedSimpArgs false
set_option maxRecDepth 100000
attribute [local go_sem ↓] Go.wp_at_zero Go.wp_at_succ
namespace Wd
open W1 Ro Rw Tw
set_option maxHeartbeats 8000000 in
theorem implRoutes (a : Option Addr) (g : List Tu.R) (cap : Nat) (f : Int) (w : World) (hm : g.length ≤ 1048576) (hr : Tu.RM w a g) :
    Calls Tryz.prog 71 #[.slice a g.length cap, .int .i64 f] w fun e w' => ∃ v, e = .returned (.tuple #[v, .int .i64 (codeG g f)]) ∧ Below w.heap.size w w' ∧ LstV w' v (rouA g f) w.heap.size w'.heap.size := by
  have HR := hide hr
  clear hr
  by_cases hc : codeG g f = 0
  rotate_left
  · have h1 : rouA g f = [] := by unfold rouA; rw [if_neg hc]
    rw [h1]
    clear h1
    obtain ⟨cd, hcd⟩ : ∃ cd, codeG g f = cd := ⟨_, rfl⟩
    have HC := hide hcd
    rw [hcd] at hc ⊢
    have q1 : (cd != 0) = true := by simpa using hc
    clear hcd hc
    go_enter Tryz.func71, Tryz.ntmps71
    go_wp2_with fail
    refine (graphCode _ g cap f _ hm (unhide HR)).mono ?_
    rintro e w1 ⟨rfl, b1⟩
    rw [unhide HC]
    have HB1 := hide b1
    clear b1
    go_wp2_with fail
    go_ret2
    exact ⟨_, rfl, unhide HB1, lstV_nil _ _ _ _ _⟩
  have h1 : rouA g f = rouL g f := by unfold rouA; rw [if_pos hc]
  rw [h1, hc]
  have HC := hide hc
  have HOK := hide (codeG_ok hc)
  clear h1 hc
  have HL8 := hide (waysL_len g f)
  have HDL : Hid (rouL g f = (waysL g f).filter (keptB f)) := hide rfl
  have HWF : Hid (∀ W, Tu.RM W a g → Calls Tryz.prog 117 #[.slice a g.length cap, .int .i64 f] W fun e w' => e = .returned (.agg (flat (waysL g f)).toArray) ∧ Below W.heap.size W w' ∧ Good g f (best g f) ∧ ∀ v x, best g f v = some x → (1 ≤ v ∧ v ≤ 8) ∧ okN 8 x) := hide (fun W h => waysFrom a g cap f W (unhide HOK).1 (unhide HOK).2 h)
  obtain ⟨DL, hDL⟩ : ∃ DL, rouL g f = DL := ⟨_, rfl⟩
  rw [hDL] at HDL ⊢
  clear hDL
  generalize waysL g f = ws at *
  go_enter Tryz.func71, Tryz.ntmps71
  go_wp2_with fail
  refine (graphCode _ g cap f _ hm (unhide HR)).mono ?_
  rintro e w1 ⟨rfl, b1⟩
  rw [unhide HC]
  have HB1 := hide b1
  have HR1 := hide ((unhide HR).below b1)
  have hs1 := b1.size
  clear b1
  have OW : Hid (w1.ownsRow w1.heap.size 87 4 (.slice none 0 0) ((ws.take 0).filter (keptB f)).length (flat ((ws.take 0).filter (keptB f)))) := hide (own_nil w1 w1.heap.size)
  go_wp2_with fail
  refine (unhide HWF _ (unhide HR1)).mono ?_
  rintro e w2 ⟨rfl, b2, _, _⟩
  have HB2 := hide ((unhide HB1).trans (b2.mono hs1))
  have OW2 : Hid (w2.ownsRow w1.heap.size 87 4 (.slice none 0 0) ((ws.take 0).filter (keptB f)).length (flat ((ws.take 0).filter (keptB f)))) := hide (own_nil w2 w1.heap.size)
  have hs2 := b2.size
  clear b2 OW HR1 HB1 HWF
  have HIX : Hid (∀ (i : Nat) W, i < 8 → (Instr.index 141 (.agg (flat ws).toArray) (.int .i64 (i : Int))).run Tryz.prog W = .ok (at' ws i).value W) := hide (fun i W h => idxA ws (unhide HL8) i h W)
  have HTY : Hid (∀ j, j < 8 → keptB f (at' ws j) = true → (ws.take (j + 1)).filter (keptB f) = (ws.take j).filter (keptB f) ++ [at' ws j]) := hide (fun j hj hk => by
    rw [tk1 R.zero (by rw [unhide HL8]; exact hj), List.filter_append, show ws.getD j R.zero = at' ws j from rfl, List.filter_cons_of_pos hk]; rfl)
  have HTN : Hid (∀ j, j < 8 → keptB f (at' ws j) = false → (ws.take (j + 1)).filter (keptB f) = (ws.take j).filter (keptB f)) := hide (fun j hj hk => by
    rw [tk1 R.zero (by rw [unhide HL8]; exact hj), List.filter_append, List.filter_cons_of_neg (by rw [show ws.getD j R.zero = at' ws j from rfl, hk]; simp)]; simp)
  have HTL : Hid (∀ j, ((ws.take j).filter (keptB f)).length ≤ 8) := hide (fun j => by have := List.length_filter_le (keptB f) (ws.take j); rw [List.length_take, unhide HL8] at this; omega)
  have HFL : Hid ((ws.take 8).filter (keptB f) = DL) := hide (by rw [List.take_of_length_le (by rw [unhide HL8]; exact Nat.le_refl _)]; exact (unhide HDL).symm)
  generalize hAG : Value.agg (flat ws).toArray = AG at *
  clear hAG
  go_wp2_with fail
  go_loopw [7, 19] (fun v iv wr => ∃ j : Nat, j ≤ 8 ∧ iv = .int .i64 (j : Int) ∧ Hid (wr.ownsRow w1.heap.size 87 4 v ((ws.take j).filter (keptB f)).length (flat ((ws.take j).filter (keptB f)))) ∧ Hid (Below w.heap.size w wr) ∧ Hid (w1.heap.size ≤ wr.heap.size)) (fun _ iv _ => 8 - (intOf iv).toNat)
  case atStart => exact ⟨0, by omega, rfl, OW2, HB2, hide (by omega)⟩
  case round =>
    obtain ⟨j, hj, rfl, how, hbl, hsz⟩ := hrel
    have hsz' := unhide hsz
    by_cases hlt : (j : Int) < 8
    · have hx : ∀ W, (Instr.index 141 AG (.int .i64 (j : Int))).run Tryz.prog W = .ok (at' ws j).value W := fun W => unhide HIX j W (by omega)
      have HTy := hide (unhide HTY j (by omega))
      have HTn := hide (unhide HTN j (by omega))
      have HTJ := unhide HTL j
      generalize hx2 : at' ws j = x at *
      clear hx2
      obtain ⟨xa, xn, xc, xh⟩ := x
      rw [show R.value ⟨xa, xn, xc, xh⟩ = .agg #[.int .i64 xa, .int .i64 xn, .int .i64 xc, .int .i64 xh] from rfl] at hx
      unfold keptB at HTy HTn
      dsimp only at HTy HTn
      have hbs := (unhide hbl).size
      have HBA := hide ((unhide hbl).alloc hbs (.cells #[.int .i64 xa, .int .i64 xn, .int .i64 xc, .int .i64 xh] 87))
      have HOA := hide ((unhide how).alloc (.cells #[.int .i64 xa, .int .i64 xn, .int .i64 xc, .int .i64 xh] 87))
      have HZA : Hid (w1.heap.size ≤ (wr.alloc (.cells #[.int .i64 xa, .int .i64 xn, .int .i64 xc, .int .i64 xh] 87)).heap.size) := hide (by simp; omega)
      cases hd : (xa != 0)
      · have HTF := hide (unhide HTn (by rw [hd]; rfl))
        have HO : Hid ((wr.alloc (.cells #[.int .i64 xa, .int .i64 xn, .int .i64 xc, .int .i64 xh] 87)).ownsRow w1.heap.size 87 4 u7 ((ws.take (j + 1)).filter (keptB f)).length (flat ((ws.take (j + 1)).filter (keptB f)))) := hide (by unfold keptB; rw [unhide HTF]; exact unhide HOA)
        clear HTy HTn
        go_wp2_with fail
        go_roundw
        case rel => exact ⟨j + 1, by omega, by go_num, HO, HBA, HZA⟩
        case measure => simp [intOf]; omega
      · cases hd2 : (xa != f)
        · have HTF := hide (unhide HTn (by rw [hd, hd2]; rfl))
          have HO : Hid ((wr.alloc (.cells #[.int .i64 xa, .int .i64 xn, .int .i64 xc, .int .i64 xh] 87)).ownsRow w1.heap.size 87 4 u7 ((ws.take (j + 1)).filter (keptB f)).length (flat ((ws.take (j + 1)).filter (keptB f)))) := hide (by unfold keptB; rw [unhide HTF]; exact unhide HOA)
          clear HTy HTn
          go_wp2_with fail
          go_roundw
          case rel => exact ⟨j + 1, by omega, by go_num, HO, HBA, HZA⟩
          case measure => simp [intOf]; omega
        · have HTF := hide (unhide HTy (by rw [hd, hd2]; rfl))
          clear HTy HTn
          go_wp2_with (at_builtin; refine wpList_apS ((unhide HOA).alloc _) (wr.heap.size + 1) 0 1 1 [(⟨xa, xn, xc, xh⟩ : R)] rfl (by have := rm_new (wr.alloc (.cells #[.int .i64 xa, .int .i64 xn, .int .i64 xc, .int .i64 xh] 87)) ⟨xa, xn, xc, xh⟩; simpa using this) (by simp only [List.length_cons, List.length_nil]; omega) (by simp; omega) rfl _ _ rfl rfl rfl ?_; intro v' w' ho hg; have HO : Hid (w'.ownsRow w1.heap.size 87 4 v' ((ws.take (j + 1)).filter (keptB f)).length (flat ((ws.take (j + 1)).filter (keptB f)))) := hide (by unfold keptB; rw [unhide HTF]; exact ho); have HZ : Hid (w1.heap.size ≤ w'.heap.size) := hide (by have := hg.size; simp at this; omega); have HB := hide (below_own ((unhide HBA).alloc (by simp; omega) _) ((unhide HOA).alloc _) hg hs1 (by simp; omega)); clear ho hg)
          go_roundw
          case rel => exact ⟨j + 1, by omega, by go_num, HO, HB, HZ⟩
          case measure => simp [intOf]; omega
    · obtain rfl : j = 8 := by omega
      have HL : Hid (LstV wr u7 DL w.heap.size wr.heap.size) := hide (by
        have := lst_own rfl (unhide how)
        rw [unhide HFL] at this
        exact this.mono hs1 (Nat.le_refl _))
      go_wp2_with fail
      go_ret2
      exact ⟨_, rfl, unhide hbl, unhide HL⟩
end Wd
end Go.Proofs.YtfooahhdikobeaaGreat
