/-
  A heap of ways in memory: its block, its items' row; whether it is empty, two that change places, the first of one and of the two below it.
-/
import Derived.Test.YtjhhhmdhdnmejaaHepA
import Derived.BigRegion
namespace Go.Proofs.Ytjhhhmdhdnmejaa
open Go.ChangeShapes Go.WideShapes Go.ChangeAt Go.RowKit
set_option linter.unusedVariables false
set_option linter.unusedSimpArgs false
set_option maxRecDepth 100000
attribute [local go_sem ↓] Go.wp_at_zero Go.wp_at_succ
namespace Wd
open W1 Ro Rw
theorem flat_set : ∀ (hs : List R) (i : Nat) (m : R), i < hs.length → flat (hs.set i m) = ((((flat hs).set (i * 4) (.int .i64 m.ds)).set (i * 4 + 1) (.int .i64 m.nx)).set (i * 4 + 2) (.int .i64 m.co)).set (i * 4 + 3) (.int .i64 m.hp)
  | [], i, m, h => by simp at h
  | x :: t, 0, m, _ => rfl
  | x :: t, i + 1, m, h => by
    have ih := flat_set t i m (by simpa using h)
    have e : flat (x :: t) = .int .i64 x.ds :: .int .i64 x.nx :: .int .i64 x.co :: .int .i64 x.hp :: flat t := rfl
    have e' : flat ((x :: t).set (i + 1) m) = .int .i64 x.ds :: .int .i64 x.nx :: .int .i64 x.co :: .int .i64 x.hp :: flat (t.set i m) := rfl
    rw [e', e, ih, show (i + 1) * 4 = i * 4 + 1 + 1 + 1 + 1 by omega]
    rw [show i * 4 + 1 + 1 + 1 + 1 + 1 = (i * 4 + 1) + 1 + 1 + 1 + 1 by omega, show i * 4 + 1 + 1 + 1 + 1 + 2 = (i * 4 + 2) + 1 + 1 + 1 + 1 by omega, show i * 4 + 1 + 1 + 1 + 1 + 3 = (i * 4 + 3) + 1 + 1 + 1 + 1 by omega]
    simp only [List.set_cons_succ]
/-- One of a row of one's own is written. -/
theorem own_put {w : World} {base g n cap : Nat} {hs : List R} (hn : n = hs.length) (h : w.ownsRow base 62 4 (.slice (some ⟨g, 0, none⟩) n cap) n (flat hs)) {i : Nat} (hi : i < hs.length) (m : R) :
    (put w g (i * 4) m).ownsRow base 62 4 (.slice (some ⟨g, 0, none⟩) n cap) n (flat (hs.set i m)) := by
  obtain ⟨hl, ⟨h1, _⟩ | ⟨g', cap', cur, e, hb, hg, hc1, hc2, hsz, ht⟩⟩ := h
  · cases h1
  · cases e
    refine ⟨by rw [flat_len, List.length_set, hn], .inr ⟨g, cap, (((cur.setIfInBounds (i * 4) (.int .i64 m.ds)).setIfInBounds (i * 4 + 1) (.int .i64 m.nx)).setIfInBounds (i * 4 + 2) (.int .i64 m.co)).setIfInBounds (i * 4 + 3) (.int .i64 m.hp), rfl, hb, ?_, hc1, hc2, ?_, ?_⟩⟩
    · unfold put; exact heap_set _ (heap_set _ (heap_set _ (heap_set _ hg)))
    · simpa using hsz
    · rw [flat_set hs i m hi, ← ht]
      simp only [Array.toList_setIfInBounds, List.take_set]
theorem own_cut {w : World} {base n cap : Nat} {a : Addr} {hs : List R} (hn : n = hs.length) (h : w.ownsRow base 62 4 (.slice (some a) n cap) n (flat hs)) {k : Nat} (hk : k ≤ n) :
    w.ownsRow base 62 4 (.slice (some a) k cap) k (flat (hs.take k)) := by
  obtain ⟨hl, ⟨h1, _⟩ | ⟨g', cap', cur, e, hb, hg, hc1, hc2, hsz, ht⟩⟩ := h
  · cases h1
  · cases e
    refine ⟨by rw [flat_len, List.length_take]; rw [Nat.min_eq_left (by omega)], .inr ⟨g', cap, cur, rfl, hb, hg, by omega, hc2, hsz, ?_⟩⟩
    have e2 : flat hs = flat (hs.take k) ++ flat (hs.drop k) := by rw [← flat_append, List.take_append_drop]
    have e3 : (flat (hs.take k)).length = k * 4 := by rw [flat_len, List.length_take, Nat.min_eq_left (by omega)]
    have : cur.toList.take (k * 4) = (cur.toList.take (n * 4)).take (k * 4) := by rw [List.take_take, Nat.min_eq_left (by omega)]
    rw [this, ht, e2, ← e3, List.take_left]
/-- A heap in block p: its items' slice v, whose row of its own stands above block p. -/
def HP (w : World) (p : Nat) (v : Value) (hs : List R) : Prop :=
  w.heap[p]? = some (.cells #[v, (Value.func (.func 92) #[] #[])] 128 (0, 0)) ∧ w.ownsRow (p + 1) 62 4 v hs.length (flat hs)
/-- Nothing is written but block p and the row of v, and what is new. -/
structure Frm (p : Nat) (v : Value) (w w' : World) : Prop where
  os : w'.os = w.os
  tape : w'.tape = w.tape
  output : w'.output = w.output
  size : w.heap.size ≤ w'.heap.size
  block : ∀ k, k < w.heap.size → k ≠ p → some k ≠ v.ownBlock → w'.heap[k]? = w.heap[k]?
/-- The slice has the row that it had, or one that is new. -/
def Nxt (w : World) (v v' : Value) : Prop := v'.ownBlock = v.ownBlock ∨ v'.ownBlock = none ∨ ∃ k, v'.ownBlock = some k ∧ w.heap.size ≤ k
theorem Frm.refl (p : Nat) (v : Value) (w : World) : Frm p v w w := ⟨rfl, rfl, rfl, Nat.le_refl _, fun _ _ _ _ => rfl⟩
theorem Frm.of_below {p : Nat} {v : Value} {w w' : World} (h : Below w.heap.size w w') : Frm p v w w' := ⟨h.os, h.tape, h.output, h.size, fun k hk _ _ => h.block k hk⟩
theorem Frm.trans {p : Nat} {v v' : Value} {a b c : World} (h : Frm p v a b) (k : Frm p v' b c) (hn : Nxt a v v') : Frm p v a c :=
  ⟨k.os.trans h.os, k.tape.trans h.tape, k.output.trans h.output, Nat.le_trans h.size k.size, fun i hi hp hv => (k.block i (Nat.lt_of_lt_of_le hi h.size) hp (by
    rcases hn with e | e | ⟨q, e, hq⟩
    · rw [e]; exact hv
    · rw [e]; simp
    · rw [e]; intro e'; cases e'; omega)).trans (h.block i hi hp hv)⟩
theorem Nxt.refl (w : World) (v : Value) : Nxt w v v := .inl rfl
theorem Nxt.trans {a b : World} {v v' v'' : Value} (h : Nxt a v v') (k : Nxt b v' v'') (hs : a.heap.size ≤ b.heap.size) : Nxt a v v'' := by
  rcases k with e | e | ⟨q, e, hq⟩
  · rcases h with f | f | f
    · exact .inl (e.trans f)
    · exact .inr (.inl (e.trans f))
    · obtain ⟨q, f, hq⟩ := f; exact .inr (.inr ⟨q, e.trans f, hq⟩)
  · exact .inr (.inl e)
  · exact .inr (.inr ⟨q, e, by omega⟩)
/-- What stands below block p is as it was. -/
theorem Frm.below {p : Nat} {v : Value} {w w' : World} {hs : List R} (h : Frm p v w w') (hp : HP w p v hs) : Below p w w' :=
  ⟨h.os, h.tape, h.output, h.size, fun k hk => h.block k (Nat.lt_trans hk (lt_block hp.1)) (by omega) (fun e => by have := hp.2.lt k e.symm; omega)⟩
theorem HP.lt {w : World} {p : Nat} {v : Value} {hs : List R} (h : HP w p v hs) : p < w.heap.size := lt_block h.1
theorem HP.below {w w' : World} {p : Nat} {v : Value} {hs : List R} (h : HP w p v hs) (hb : Below w.heap.size w w') : HP w' p v hs := by
  refine ⟨(hb.block p h.lt).trans h.1, ?_⟩
  exact h.2.kept (row := none) ⟨hb.os, hb.tape, hb.output, hb.size, fun k hk _ => hb.block k hk⟩ (by cases hv : v.ownBlock <;> simp)
theorem HP.c0 {w : World} {p : Nat} {v : Value} {hs : List R} (h : HP w p v hs) : w.cell? ⟨p, 0, none⟩ = some v := by simp [World.cell?, h.1]
theorem HP.c1 {w : World} {p : Nat} {v : Value} {hs : List R} (h : HP w p v hs) : w.cell? ⟨p, 1, none⟩ = some (Value.func (.func 92) #[] #[]) := by simp [World.cell?, h.1]
theorem HP.free {w : World} {p : Nat} {v : Value} {hs : List R} (h : HP w p v hs) (i : Nat) : w.frozen? ⟨p, i, none⟩ = false := by simp [World.frozen?, h.1]
theorem HP.form {w : World} {p : Nat} {v : Value} {hs : List R} (h : HP w p v hs) (h0 : 0 < hs.length) : ∃ g cap, v = .slice (some ⟨g, 0, none⟩) hs.length cap ∧ p < g ∧ g < w.heap.size ∧ hs.length ≤ cap ∧ cap ≤ maxLen := by
  obtain ⟨hl, ⟨e, h1⟩ | ⟨g, cap, cur, e, hb, hg, hc1, hc2, hsz, ht⟩⟩ := h.2
  · omega
  · exact ⟨g, cap, e, by omega, lt_block hg, hc1, hc2⟩
theorem HP.at {w : World} {p g cap : Nat} {hs : List R} (h : HP w p (.slice (some ⟨g, 0, none⟩) hs.length cap) hs) {i : Nat} (hi : i < hs.length) : At w g (i * 4) (at' hs i) := at_own rfl h.2 i hi
theorem HP.gfree {w : World} {p g n cap : Nat} {hs : List R} (h : HP w p (.slice (some ⟨g, 0, none⟩) n cap) hs) (i : Nat) : w.frozen? ⟨g, i, none⟩ = false := by
  obtain ⟨hl, ⟨e, h1⟩ | ⟨g', cap', cur, e, hb, hg, _⟩⟩ := h.2
  · cases e
  · cases e; simp [World.frozen?, hg]
theorem HP.slice {w : World} {p : Nat} {v : Value} {hs : List R} (h : HP w p v hs) : ∃ a cap, v = .slice a hs.length cap ∧ (hs.length ≤ cap) := by
  obtain ⟨hl, ⟨e, h1⟩ | ⟨g, cap, cur, e, hb, hg, hc1, hc2, hsz, ht⟩⟩ := h.2
  · exact ⟨none, 0, by rw [h1]; exact e, by omega⟩
  · exact ⟨_, cap, e, hc1⟩
theorem isEmpty (p : Nat) (v : Value) (hs : List R) (w : World) (h : HP w p v hs) :
    Calls Try.prog 94 #[.pointer (some ⟨p, 0, none⟩)] w fun e w' => e = .returned (.bool (decide (hs.length = 0))) ∧ w' = w := by
  have c0 := h.c0
  obtain ⟨a, cap, rfl, _⟩ := h.slice
  generalize hs.length = n at *
  by_cases hn : n = 0
  · have h1 : ((n : Int) == 0) = true := by simpa using hn
    rw [decide_eq_true hn]
    go_enter Try.func94, Try.ntmps94
    go_wp2_with fail
    go_ret
    exact ⟨rfl, rfl⟩
  · have h1 : ((n : Int) == 0) = false := by simpa using hn
    rw [decide_eq_false hn]
    go_enter Try.func94, Try.ntmps94
    go_wp2_with fail
    go_ret
    exact ⟨rfl, rfl⟩
set_option maxHeartbeats 8000000 in
theorem swap0 (p g cap n i j : Nat) (x y : R) (w : World) (hi : i < n) (hj : j < n) (c0 : w.cell? ⟨p, 0, none⟩ = some (.slice (some ⟨g, 0, none⟩) n cap)) (hpg : p ≠ g)
    (hx : At w g (i * 4) x) (hy : At w g (j * 4) y) (hf : ∀ k, w.frozen? ⟨g, k, none⟩ = false) (hne : i ≠ j) :
    Calls Try.prog 114 #[.pointer (some ⟨p, 0, none⟩), .int .i64 (i : Int), .int .i64 (j : Int)] w fun e w' => e = .returned (.tuple #[]) ∧ w' = (put (put w g (i * 4) y) g (j * 4) x).drew := by
  obtain ⟨xa, xn, xc, xh⟩ := x
  obtain ⟨ya, yn, yc, yh⟩ := y
  obtain ⟨x0, x1, x2, x3⟩ := hx
  obtain ⟨y0, y1, y2, y3⟩ := hy
  dsimp only at x0 x1 x2 x3 y0 y1 y2 y3
  have i0 : (0 : Int) ≤ (i : Int) := by omega
  have j0 : (0 : Int) ≤ (j : Int) := by omega
  have i1 : (i : Int) < (n : Int) := by omega
  have j1 : (j : Int) < (n : Int) := by omega
  unfold put
  dsimp only
  go_enter Try.func114, Try.ntmps114
  go_wp2_with fail
  go_region
  go_wp2_with fail
  refine bodyPost_end (v := .tuple #[]) (by simp [results, Try.results114, go_sem]) rfl ⟨rfl, ?_⟩
  rfl
set_option maxHeartbeats 8000000 in
theorem swap1 (p g cap n i : Nat) (x : R) (w : World) (hi : i < n) (c0 : w.cell? ⟨p, 0, none⟩ = some (.slice (some ⟨g, 0, none⟩) n cap)) (hpg : p ≠ g)
    (hx : At w g (i * 4) x) (hf : ∀ k, w.frozen? ⟨g, k, none⟩ = false) :
    Calls Try.prog 114 #[.pointer (some ⟨p, 0, none⟩), .int .i64 (i : Int), .int .i64 (i : Int)] w fun e w' => e = .returned (.tuple #[]) ∧ w' = (put (put w g (i * 4) x) g (i * 4) x).drew := by
  obtain ⟨xa, xn, xc, xh⟩ := x
  obtain ⟨x0, x1, x2, x3⟩ := hx
  dsimp only at x0 x1 x2 x3
  have i0 : (0 : Int) ≤ (i : Int) := by omega
  have i1 : (i : Int) < (n : Int) := by omega
  unfold put
  dsimp only
  go_enter Try.func114, Try.ntmps114
  go_wp2_with fail
  go_region
  go_wp2_with fail
  refine bodyPost_end (v := .tuple #[]) (by simp [results, Try.results114, go_sem]) rfl ⟨rfl, ?_⟩
  rfl
theorem put_other {w : World} {g o b : Nat} {m : R} (h : b ≠ g) : (put w g o m).heap[b]? = w.heap[b]? := by
  unfold put
  rw [Below.heap_setCell _ _ _ _ h, Below.heap_setCell _ _ _ _ h, Below.heap_setCell _ _ _ _ h, Below.heap_setCell _ _ _ _ h]
theorem HP.drew {w : World} {p : Nat} {v : Value} {hs : List R} (h : HP w p v hs) : HP w.drew p v hs := h
theorem Frm.drew {p : Nat} {v : Value} {w w' : World} (h : Frm p v w w') : Frm p v w w'.drew := ⟨h.os, h.tape, h.output, h.size, h.block⟩
theorem put_os (w : World) (g o : Nat) (m : R) : (put w g o m).os = w.os ∧ (put w g o m).tape = w.tape ∧ (put w g o m).output = w.output := by
  unfold put; exact ⟨rfl, rfl, rfl⟩
theorem put_hp {p g n cap : Nat} {hs : List R} {w : World} (hn : n = hs.length) (h : HP w p (.slice (some ⟨g, 0, none⟩) n cap) hs) {i : Nat} (hi : i < hs.length) (hne : p ≠ g) (m : R) : HP (put w g (i * 4) m) p (.slice (some ⟨g, 0, none⟩) n cap) (hs.set i m) := by
  refine ⟨(put_other hne).trans h.1, ?_⟩
  subst hn
  have := own_put rfl h.2 hi m
  rw [List.length_set]; exact this
theorem put_frm {p g n cap o : Nat} {w : World} {m : R} : Frm p (.slice (some ⟨g, 0, none⟩) n cap) w (put w g o m) := by
  obtain ⟨h1, h2, h3⟩ := put_os w g o m
  exact ⟨h1, h2, h3, by rw [put_size]; exact Nat.le_refl _, fun k hk hkp hkv => put_other (fun e => hkv (by rw [e]; rfl))⟩
theorem swap_ok (p g cap : Nat) (hs : List R) (i j : Nat) (w : World) (h : HP w p (.slice (some ⟨g, 0, none⟩) hs.length cap) hs) (hi : i < hs.length) (hj : j < hs.length) (hne : p ≠ g) :
    HP (put (put w g (i * 4) (at' hs j)) g (j * 4) (at' hs i)).drew p (.slice (some ⟨g, 0, none⟩) hs.length cap) (swp hs i j) ∧ Frm p (.slice (some ⟨g, 0, none⟩) hs.length cap) w (put (put w g (i * 4) (at' hs j)) g (j * 4) (at' hs i)).drew := by
  have h1 := put_hp rfl h hi hne (at' hs j)
  have h2 := put_hp (by simp) h1 (i := j) (by simpa using hj) hne (at' hs i)
  have f1 : Frm p (.slice (some ⟨g, 0, none⟩) hs.length cap) w (put w g (i * 4) (at' hs j)) := put_frm
  have f2 : Frm p (.slice (some ⟨g, 0, none⟩) hs.length cap) (put w g (i * 4) (at' hs j)) (put (put w g (i * 4) (at' hs j)) g (j * 4) (at' hs i)) := put_frm
  exact ⟨h2.drew, (f1.trans f2 (Nxt.refl _ _)).drew⟩
theorem swap (p : Nat) (v : Value) (hs : List R) (i j : Nat) (w : World) (h : HP w p v hs) (hi : i < hs.length) (hj : j < hs.length) :
    Calls Try.prog 114 #[.pointer (some ⟨p, 0, none⟩), .int .i64 (i : Int), .int .i64 (j : Int)] w fun e w' => e = .returned (.tuple #[]) ∧ HP w' p v (swp hs i j) ∧ Frm p v w w' := by
  obtain ⟨g, cap, rfl, hpg, hgl, hc1, hc2⟩ := h.form (by omega)
  have hne : p ≠ g := by omega
  have key : Calls Try.prog 114 #[.pointer (some ⟨p, 0, none⟩), .int .i64 (i : Int), .int .i64 (j : Int)] w fun e w' => e = .returned (.tuple #[]) ∧ w' = (put (put w g (i * 4) (at' hs j)) g (j * 4) (at' hs i)).drew := by
    by_cases hij : i = j
    · subst hij; exact swap1 p g cap hs.length i (at' hs i) w hi h.c0 hne (h.at hi) (fun k => h.gfree k)
    · exact swap0 p g cap hs.length i j (at' hs i) (at' hs j) w hi hj h.c0 hne (h.at hi) (h.at hj) (fun k => h.gfree k) hij
  have hw : ∀ w', w' = (put (put w g (i * 4) (at' hs j)) g (j * 4) (at' hs i)).drew → HP w' p (.slice (some ⟨g, 0, none⟩) hs.length cap) (swp hs i j) ∧ Frm p (.slice (some ⟨g, 0, none⟩) hs.length cap) w w' := by
    intro w' hw'
    subst hw'
    exact swap_ok p g cap hs i j w h hi hj hne
  refine key.mono ?_
  rintro e w' ⟨rfl, hw'⟩
  exact ⟨rfl, hw w' hw'⟩
end Wd
end Go.Proofs.Ytjhhhmdhdnmejaa
