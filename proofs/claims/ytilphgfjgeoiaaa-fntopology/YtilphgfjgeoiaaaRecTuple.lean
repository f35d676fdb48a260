/-
  Contracts over lists of the program's Tuple (written by mkrec.py): their size, their copy, whether two are alike, the laws' marks, and what a list that came in reads as.
-/
import Derived.Test.YtilphgfjgeoiaaaWire1
import Derived.Deep.RegionHeld3
import Derived.Deep.DrawnRows
import Derived.Deep.Slices
import Derived.Laws.AppendOwn
namespace Go.Proofs.Ytilphgfjgeoiaaa
open Go.ChangeShapes Go.WideShapes Go.ChangeAt Go.RowKit
set_option linter.unusedVariables false
set_option maxRecDepth 100000
set_option linter.unusedSimpArgs false
attribute [local go_sem ↓] Go.wp_at_zero Go.wp_at_succ
namespace Tu
open W1
structure R where
  key : Int
  til : Int
  val : Int
def R.zero : R := ⟨0, 0, 0⟩
/-- The value of one. -/
def R.value (m : R) : Value := .agg #[.int .i64 m.key, .int .i64 m.til, .int .i64 m.val]
/-- The cells of one, of a list of them. -/
def R.cells (m : R) : List Value := [.int .i64 m.key, .int .i64 m.til, .int .i64 m.val]
def flat (ms : List R) : List Value := ms.flatMap R.cells
/-- The cells of one that lies at an address. -/
def At (w : World) (g o : Nat) (m : R) : Prop :=
  w.cell? ⟨g, o, none⟩ = some (.int .i64 m.key) ∧ w.cell? ⟨g, o + 1, none⟩ = some (.int .i64 m.til) ∧ w.cell? ⟨g, o + 2, none⟩ = some (.int .i64 m.val)
/-- The slice at a reads as these. -/
def RM (w : World) (a : Option Addr) (ms : List R) : Prop :=
  ms = [] ∨ ∃ g off, a = some ⟨g, off, none⟩ ∧ ∀ i, i < ms.length → At w g (off + i * 3) (ms.getD i R.zero)
theorem At.below {w w' : World} {g o : Nat} {m : R} (h : At w g o m) (hb : Below w.heap.size w w') : At w' g o m := by
  have hg : g < w.heap.size := World.block_lt_of_cell? _ _ h.1
  obtain ⟨h0, h1, h2⟩ := h
  refine ⟨?_, ?_, ?_⟩ <;> (rw [hb.cell hg]; assumption)
theorem At.drew {w : World} {g o : Nat} {m : R} (h : At w g o m) : At w.drew g o m := h
theorem RM.below {w w' : World} {a : Option Addr} {ms : List R} (h : RM w a ms) (hb : Below w.heap.size w w') : RM w' a ms := by
  rcases h with h | ⟨g, off, rfl, hc⟩
  · exact .inl h
  · exact .inr ⟨g, off, rfl, fun i hi => (hc i hi).below hb⟩
theorem RM.drew {w : World} {a : Option Addr} {ms : List R} (h : RM w a ms) : RM w.drew a ms := h
theorem RM.at {w : World} {g off : Nat} {ms : List R} {i : Nat} (h : RM w (some ⟨g, off, none⟩) ms) (hi : i < ms.length) : At w g (off + i * 3) (ms.getD i R.zero) := by
  rcases h with rfl | ⟨g', off', e, hc⟩
  · simp at hi
  · cases e; exact hc i hi
theorem RM.form {w : World} {a : Option Addr} {ms : List R} (h : RM w a ms) (h0 : 0 < ms.length) : ∃ g off, a = some ⟨g, off, none⟩ := by
  rcases h with rfl | ⟨g, off, e, _⟩
  · simp at h0
  · exact ⟨g, off, e⟩
/-- A part of a list. -/
theorem RM.part {w : World} {g off : Nat} {ms : List R} (h : RM w (some ⟨g, off, none⟩) ms) (i n : Nat) : RM w (some ⟨g, off + i * 3, none⟩) ((ms.drop i).take n) := by
  refine .inr ⟨g, off + i * 3, rfl, fun j hj => ?_⟩
  have hl : j < n ∧ i + j < ms.length := by simp at hj; omega
  have := h.at (i := i + j) hl.2
  rw [show off + (i + j) * 3 = off + i * 3 + j * 3 by omega] at this
  have e : ((ms.drop i).take n).getD j R.zero = ms.getD (i + j) R.zero := by
    rw [List.getD_eq_getElem?_getD, List.getD_eq_getElem?_getD, List.getElem?_take_of_lt hl.1, List.getElem?_drop]
  rw [e]; exact this
theorem getD_mem {ms : List R} {j : Nat} (h : j < ms.length) : ms.getD j R.zero ∈ ms := by rw [List.getD_eq_getElem?_getD, List.getElem?_eq_getElem h]; exact List.getElem_mem h
theorem R.len (m : R) : m.cells.length = 3 := rfl
theorem flat_len (ms : List R) : (flat ms).length = ms.length * 3 := by
  unfold flat
  induction ms with
  | nil => rfl
  | cons m t ih => rw [List.flatMap_cons, List.length_append, ih, R.len, List.length_cons]; omega
theorem flat_append (xs ys : List R) : flat (xs ++ ys) = flat xs ++ flat ys := by unfold flat; rw [List.flatMap_append]
theorem flat_one (m : R) : flat [m] = m.cells := by unfold flat; simp
theorem flat_get : ∀ (ms : List R) (i j : Nat), j < 3 → i < ms.length → (flat ms)[i * 3 + j]? = (ms.getD i R.zero).cells[j]?
  | [], i, j, hj, hi => by simp at hi
  | m :: t, 0, j, hj, hi => by
    unfold flat
    rw [List.flatMap_cons, Nat.zero_mul, Nat.zero_add, List.getElem?_append_left (by rw [R.len]; exact hj)]; rfl
  | m :: t, i + 1, j, hj, hi => by
    have ih := flat_get t i j hj (by simpa using hi)
    unfold flat at ih ⊢
    rw [List.flatMap_cons, show (i + 1) * 3 + j = m.cells.length + (i * 3 + j) by rw [R.len]; omega, List.getElem?_append_right (by omega), Nat.add_sub_cancel_left, ih]; rfl
theorem cell_one {m : R} {u : Value} (h : u ∈ m.cells) : u.oneCell' = true := by
  unfold R.cells at h; simp only [List.mem_cons, List.not_mem_nil, or_false] at h
  rcases h with rfl | rfl | rfl <;> rfl
theorem flat_one_cell {ms : List R} {u : Value} (h : u ∈ flat ms) : u.oneCell' = true := by
  obtain ⟨m, _, hu⟩ := List.mem_flatMap.1 h; exact cell_one hu
theorem at_cells {w : World} {g o : Nat} {m : R} (h : At w g o m) : ∀ j u, m.cells[j]? = some u → w.cell? ⟨g, o + j, none⟩ = some u := by
  intro j u hj
  match j, hj with
  | 0, hj => simp [R.cells] at hj; subst hj; exact h.1
  | 1, hj => simp [R.cells] at hj; subst hj; exact h.2.1
  | 2, hj => simp [R.cells] at hj; subst hj; exact h.2.2
  | n + 3, hj => simp [R.cells] at hj
theorem plain_add (b off k : Nat) : (⟨b, off, none⟩ : Addr).add k = ⟨b, off + k, none⟩ := by unfold Addr.add; split <;> simp_all
/-- A list that is read, cell by cell. -/
theorem RM.cells {w : World} {g off : Nat} {ms : List R} (h : RM w (some ⟨g, off, none⟩) ms) : ∀ j u, (flat ms)[j]? = some u → w.cell? ((⟨g, off, none⟩ : Addr).add j) = some u := by
  intro j u hj
  have hl : j < ms.length * 3 := by
    rw [← flat_len]; exact (List.getElem?_eq_some_iff.1 hj).1
  have hi : j / 3 < ms.length := by omega
  have e : j / 3 * 3 + j % 3 = j := by omega
  rw [← e, flat_get ms _ _ (by omega) hi] at hj
  rw [plain_add, ← e, ← Nat.add_assoc]
  exact at_cells (h.at hi) _ _ hj
/-- A row of one's own that holds a list. -/
theorem at_own {w : World} {base g n cap : Nat} {ms : List R} (hn : n = ms.length) (h : w.ownsRow base 73 3 (.slice (some ⟨g, 0, none⟩) n cap) n (flat ms)) (i : Nat) (hi : i < ms.length) : At w g (i * 3) (ms.getD i R.zero) := by
  have hc : ∀ j, j < 3 → ∀ u, (ms.getD i R.zero).cells[j]? = some u → w.cell? ⟨g, i * 3 + j, none⟩ = some u := by
    intro j hj u hu
    have := h.cells (g := g) rfl (i * 3 + j) u (by rw [flat_get ms i j hj hi]; exact hu)
    rw [plain_add, Nat.zero_add] at this
    exact this
  exact ⟨hc 0 (by omega) _ rfl, hc 1 (by omega) _ rfl, hc 2 (by omega) _ rfl⟩

/-- One laid at an address. -/
def put (w : World) (g o : Nat) (m : R) : World := ((w.setCell ⟨g, o, none⟩ (.int .i64 m.key)).setCell ⟨g, o + 1, none⟩ (.int .i64 m.til)).setCell ⟨g, o + 2, none⟩ (.int .i64 m.val)
theorem put_below {B : Nat} {w0 w : World} {g o : Nat} {m : R} (h : Below B w0 w) (hg : B ≤ g) : Below B w0 (put w g o m) := by
  unfold put
  exact ((h.setCell (p := ⟨g, o, none⟩) hg _).setCell (p := ⟨g, o + 1, none⟩) hg _).setCell (p := ⟨g, o + 2, none⟩) hg _
theorem put_size (w : World) (g o : Nat) (m : R) : (put w g o m).heap.size = w.heap.size := by simp [put, World.setCell]
theorem put_frozen (w : World) (g o : Nat) (m : R) (a : Addr) : (put w g o m).frozen? a = w.frozen? a := by
  unfold put; rw [World.frozen?_setCell, World.frozen?_setCell, World.frozen?_setCell]
theorem put_far (w : World) (g o : Nat) (m : R) {b q : Nat} (h : b ≠ g ∨ q < o ∨ o + 3 ≤ q) : (put w g o m).cell? ⟨b, q, none⟩ = w.cell? ⟨b, q, none⟩ := by
  unfold put
  rw [World.cell?_setCell_other _ _ _ _ (by intro e; cases e <;> omega), World.cell?_setCell_other _ _ _ _ (by intro e; cases e <;> omega), World.cell?_setCell_other _ _ _ _ (by intro e; cases e <;> omega)]
theorem put_at (w : World) (g o : Nat) (m : R) (h : ∀ k, k < 3 → (w.cell? ⟨g, o + k, none⟩).isSome = true) : At (put w g o m) g o m := by
  obtain ⟨v0, h0⟩ := Option.isSome_iff_exists.1 (h 0 (by omega))
  obtain ⟨v1, h1⟩ := Option.isSome_iff_exists.1 (h 1 (by omega))
  obtain ⟨v2, h2⟩ := Option.isSome_iff_exists.1 (h 2 (by omega))
  rw [Nat.add_zero] at h0
  have n : ∀ {w : World} {v : Value} {a b : Nat}, a ≠ b → (w.setCell ⟨g, a, none⟩ v).cell? ⟨g, b, none⟩ = w.cell? ⟨g, b, none⟩ := fun {w v a b} e => World.cell?_setCell_other _ _ _ _ (by intro h; cases h; exact e rfl)
  unfold put
  refine ⟨?_, ?_, ?_⟩
  · rw [n (by omega), n (by omega), World.cell?_setCell_same _ _ _ h0]
  · rw [n (by omega), World.cell?_setCell_same _ _ _ ((n (by omega)).trans h1)]
  · rw [World.cell?_setCell_same _ _ _ ((n (by omega)).trans ((n (by omega)).trans h2))]
theorem put_some (w : World) (g o : Nat) (m : R) (b q : Nat) (h : (w.cell? ⟨b, q, none⟩).isSome = true) : ((put w g o m).cell? ⟨b, q, none⟩).isSome = true := by
  obtain ⟨v, y0⟩ := Option.isSome_iff_exists.1 h
  unfold put
  obtain ⟨v1, y1⟩ := cell?_setCell_some (p := ⟨g, o, none⟩) (x := .int .i64 m.key) y0
  obtain ⟨v2, y2⟩ := cell?_setCell_some (p := ⟨g, o + 1, none⟩) (x := .int .i64 m.til) y1
  obtain ⟨v3, y3⟩ := cell?_setCell_some (p := ⟨g, o + 2, none⟩) (x := .int .i64 m.val) y2
  rw [y3]; rfl
/-- The first j stand at the head of block g, whose n times 3 cells may be written. -/
def Upto (w : World) (g n j : Nat) (ms : List R) : Prop :=
  (∀ i, i < j → At w g (i * 3) (ms.getD i R.zero)) ∧ ∀ i, i < n * 3 → (w.cell? ⟨g, i, none⟩).isSome = true ∧ w.frozen? ⟨g, i, none⟩ = false
theorem Upto.step {w : World} {g n j : Nat} {ms : List R} (h : Upto w g n j ms) (hj : j < n) : Upto (put w g (j * 3) (ms.getD j R.zero)) g n (j + 1) ms := by
  refine ⟨fun i hi => ?_, fun i hi => ⟨put_some _ _ _ _ _ _ (h.2 i hi).1, by rw [put_frozen]; exact (h.2 i hi).2⟩⟩
  by_cases e : i = j
  · subst e
    exact put_at _ _ _ _ (fun k hk => (h.2 _ (by omega)).1)
  · obtain ⟨h0, h1, h2⟩ := h.1 i (by omega)
    exact ⟨(put_far _ _ _ _ (by omega)).trans h0, (put_far _ _ _ _ (by omega)).trans h1, (put_far _ _ _ _ (by omega)).trans h2⟩
theorem Upto.below {w w' : World} {g n j : Nat} {ms : List R} (h : Upto w g n j ms) (hb : Below w.heap.size w w') (hg : g < w.heap.size) : Upto w' g n j ms :=
  ⟨fun i hi => (h.1 i hi).below hb, fun i hi => ⟨by rw [hb.cell (p := ⟨g, i, none⟩) hg]; exact (h.2 i hi).1, by rw [hb.frozen (p := ⟨g, i, none⟩) hg]; exact (h.2 i hi).2⟩⟩
theorem Upto.of_block {w w' : World} {g n j : Nat} {ms : List R} (h : Upto w g n j ms) (hb : w'.heap[g]? = w.heap[g]?) : Upto w' g n j ms := by
  have c : ∀ q, w'.cell? ⟨g, q, none⟩ = w.cell? ⟨g, q, none⟩ := fun q => World.cell?_of_block (a := ⟨g, q, none⟩) hb
  have f : ∀ q, w'.frozen? ⟨g, q, none⟩ = w.frozen? ⟨g, q, none⟩ := fun q => World.frozen?_of_block (a := ⟨g, q, none⟩) hb
  refine ⟨fun i hi => ?_, fun i hi => ⟨by rw [c]; exact (h.2 i hi).1, by rw [f]; exact (h.2 i hi).2⟩⟩
  obtain ⟨h0, h1, h2⟩ := h.1 i hi
  exact ⟨(c _).trans h0, (c _).trans h1, (c _).trans h2⟩
theorem rm_of {w : World} {g n : Nat} {ms : List R} (h : Upto w g n ms.length ms) : RM w (some ⟨g, 0, none⟩) ms := .inr ⟨g, 0, rfl, fun i hi => by rw [Nat.zero_add]; exact h.1 i hi⟩
theorem upto_own {w : World} {base g cap n : Nat} {ms : List R} (hn : n = ms.length) (h : w.ownsRow base 73 3 (.slice (some ⟨g, 0, none⟩) n cap) n (flat ms)) : Upto w g n n ms := by
  subst hn
  refine ⟨fun i hi => at_own rfl h i hi, fun i hi => ?_⟩
  obtain ⟨_, ⟨e, _⟩ | ⟨g', cap', cur, e, _, hg, h1, _, h3, _⟩⟩ := h
  · cases e
  · cases e
    have hlt : i < cur.size := by rw [h3]; exact Nat.lt_of_lt_of_le hi (Nat.mul_le_mul_right _ h1)
    refine ⟨?_, ?_⟩
    · simp [World.cell?, hg, hlt]
    · simp [World.frozen?, hg]
/-- A list between two bounds of the heap, in memory that may be written. -/
def Lst (W : World) (a : Option Addr) (ms : List R) (lo hi : Nat) : Prop := ms = [] ∨ ∃ g, a = some ⟨g, 0, none⟩ ∧ lo ≤ g ∧ g < hi ∧ g < W.heap.size ∧ Upto W g ms.length ms.length ms
theorem Lst.rm {W : World} {a : Option Addr} {ms : List R} {lo hi : Nat} (h : Lst W a ms lo hi) : RM W a ms := by
  rcases h with rfl | ⟨g, rfl, _, _, _, hu⟩
  · exact .inl rfl
  · exact rm_of hu
theorem Lst.below {W W' : World} {a : Option Addr} {ms : List R} {lo hi : Nat} (h : Lst W a ms lo hi) (hb : Below W.heap.size W W') : Lst W' a ms lo hi := by
  rcases h with rfl | ⟨g, rfl, h1, h2, h3, hu⟩
  · exact .inl rfl
  · exact .inr ⟨g, rfl, h1, h2, Nat.lt_of_lt_of_le h3 hb.size, hu.below hb h3⟩
theorem Lst.mono {W : World} {a : Option Addr} {ms : List R} {lo hi lo' hi' : Nat} (h : Lst W a ms lo hi) (h1 : lo' ≤ lo) (h2 : hi ≤ hi') : Lst W a ms lo' hi' := by
  rcases h with rfl | ⟨g, rfl, h3, h4, h5, hu⟩
  · exact .inl rfl
  · exact .inr ⟨g, rfl, by omega, by omega, h5, hu⟩
theorem Lst.but {W W' : World} {a : Option Addr} {ms : List R} {lo hi : Nat} {p : Nat → Prop} (h : Lst W a ms lo hi) (hs : W.heap.size ≤ W'.heap.size) (hb : ∀ k, k < W.heap.size → p k → W'.heap[k]? = W.heap[k]?) (hp : ∀ k, lo ≤ k → k < hi → p k) : Lst W' a ms lo hi := by
  rcases h with rfl | ⟨g, rfl, h1, h2, h3, hu⟩
  · exact .inl rfl
  · exact .inr ⟨g, rfl, h1, h2, Nat.lt_of_lt_of_le h3 hs, hu.of_block (hb g h3 (hp g h1 h2))⟩
/-- The same of a value. -/
def LstV (W : World) (v : Value) (ms : List R) (lo hi : Nat) : Prop := ∃ a c, v = .slice a ms.length c ∧ Lst W a ms lo hi
theorem LstV.below {W W' : World} {v : Value} {ms : List R} {lo hi : Nat} (h : LstV W v ms lo hi) (hb : Below W.heap.size W W') : LstV W' v ms lo hi := by
  obtain ⟨a, c, e, hl⟩ := h; exact ⟨a, c, e, hl.below hb⟩
theorem LstV.mono {W : World} {v : Value} {ms : List R} {lo hi lo' hi' : Nat} (h : LstV W v ms lo hi) (h1 : lo' ≤ lo) (h2 : hi ≤ hi') : LstV W v ms lo' hi' := by
  obtain ⟨a, c, e, hl⟩ := h; exact ⟨a, c, e, hl.mono h1 h2⟩
theorem lstV_nil (W : World) (a : Option Addr) (c lo hi : Nat) : LstV W (.slice a 0 c) [] lo hi := ⟨a, c, rfl, .inl rfl⟩
/-- A row of one's own as such a list. -/
theorem lst_own {w : World} {base n : Nat} {v : Value} {ms : List R} (hn : n = ms.length) (h : w.ownsRow base 73 3 v n (flat ms)) : LstV w v ms base w.heap.size := by
  unfold LstV
  have h' := h
  obtain ⟨hl, ⟨rfl, h0⟩ | ⟨g, cap, cur, rfl, hb, hg, _, _, _, _⟩⟩ := h
  · exact ⟨none, 0, by rw [← hn, h0], .inl (List.eq_nil_of_length_eq_zero (by omega))⟩
  · have hlt : g < w.heap.size := by
      rcases Nat.lt_or_ge g w.heap.size with h | h
      · exact h
      · rw [Array.getElem?_eq_none h] at hg; cases hg
    refine ⟨_, cap, by rw [hn], .inr ⟨g, rfl, hb, hlt, hlt, ?_⟩⟩
    have := upto_own hn h'
    rw [hn] at this; exact this

set_option maxHeartbeats 1000000 in
theorem szS (a : Option Addr) (n cap : Nat) (L : Int) (w : World) (hL : 0 ≤ L) (hL1 : L ≤ 1048576) (hm : n ≤ maxLen) :
    Calls Try.prog 48 #[.slice a n cap, .int .i64 L] w fun e w' => ∃ r : Int, e = .returned (.int .i64 r) ∧ w' = w ∧ (r < 0 ∨ (0 ≤ r ∧ r = L - n)) := by
  unfold maxLen at hm
  by_cases h0 : L - n < 0
  all_goals
    go_enter Try.func48, Try.ntmps48
    go_wp2
    go_ret
  · exact ⟨_, rfl, rfl, .inl (by omega)⟩
  · exact ⟨_, rfl, rfl, .inr ⟨by omega, rfl⟩⟩

theorem infoR : ∃ i, Try.prog.info? 73 = some i ∧ i.zero = some (Value.agg #[.int .i64 0, .int .i64 0, .int .i64 0]) ∧ i.size = 3 ∧ i.bytes = 24 := by
  have h : (Try.prog.info? 73).map (fun i => (i.zero, i.size, i.bytes)) = some (some (Value.agg #[.int .i64 0, .int .i64 0, .int .i64 0]), 3, 24) := by kernel_rfl
  obtain ⟨i, hi, he⟩ := Option.map_eq_some_iff.1 h
  simp only [Prod.mk.injEq] at he
  exact ⟨i, hi, he.1, he.2.1, he.2.2⟩

/-- append of a list to a row of one's own. -/
theorem apS {w : World} {base : Nat} {v : Value} {xs : List R} (hown : w.ownsRow base 73 3 v xs.length (flat xs)) (g off m c ty : Nat) (ms : List R) (hm : ms.length = m) (hr : RM w (some ⟨g, off, none⟩) ms) (hlen : xs.length + ms.length ≤ 4194304) (hbase : base ≤ w.heap.size) :
    ∃ v' w', (Builtin.append_ #[24, 24] ty #[v, .slice (some ⟨g, off, none⟩) m c]).run Try.prog w = .ok v' w' ∧ w'.ownsRow base 73 3 v' (xs ++ ms).length (flat (xs ++ ms)) ∧ w.grownBy w' v.ownBlock ∧ w.heap.size ≤ w'.heap.size := by
  subst hm
  obtain ⟨i0, hi, hz0, hz1, hz2⟩ := infoR
  obtain ⟨v', w', hrun, ho, hg, _⟩ := run_append_own (P := Try.prog) w base 24 ty 73 i0 _ 3 24 Try.underlying24 hi hz0 hz1 hz2 rfl (by decide) v xs.length (flat xs) hown ⟨g, off, none⟩ ms.length c (flat ms) (flat_len ms) hr.cells (fun u hu => flat_one_cell hu) (by unfold maxLen; omega) (by omega) hbase
  refine ⟨v', w', hrun, ?_, hg, hg.size⟩
  rw [List.length_append, flat_append]; exact ho
/-- append of a list to a row of one's own, as a walk meets it. -/
theorem wpList_apS {ops : Array Oper} {rest : List Oper} {o : Oper} {a : Act} {Q : Exit → Act → World → Prop} {w : World} {base : Nat} {v : Value} {xs : List R} (hown : w.ownsRow base 73 3 v xs.length (flat xs)) (g off m c : Nat) (ms : List R) (hm : ms.length = m) (hr : RM w (some ⟨g, off, none⟩) ms) (hlen : xs.length + ms.length ≤ 4194304) (hbase : base ≤ w.heap.size)
    (hgd : o.guard = none) (s x : Operand) (ho : o.op = .call { callee := .builtin .append, args := #[s, x], argTypes := #[24, 24] }) (hs : a.eval s = v) (hx : a.eval x = .slice (some ⟨g, off, none⟩) m c)
    (h : ∀ v' w', w'.ownsRow base 73 3 v' (xs ++ ms).length (flat (xs ++ ms)) → w.grownBy w' v.ownBlock → wpList Try.prog ops Q rest (a.put o.dst v') w') : wpList Try.prog ops Q (o :: rest) a w := by
  subst hm
  obtain ⟨i0, hi, hz0, hz1, hz2⟩ := infoR
  refine wpList_append_own w hgd s x _ ho base 73 i0 _ 3 24 Try.underlying24 hi hz0 hz1 hz2 rfl (by decide) v xs.length (flat xs) hs hown ⟨g, off, none⟩ ms.length c (flat ms) hx (flat_len ms) hr.cells (fun u hu => flat_one_cell hu) (by unfold maxLen; omega) (by omega) hbase (fun v' w' h1 h2 _ => ?_)
  refine h v' w' ?_ h2
  rw [List.length_append, flat_append]; exact h1
/-- The same, inside a region that draws its order. -/
theorem wp_apS {o : Oper} {a : Act} {K : Act → World → Prop} {Q : Exit → Act → World → Prop} {w : World} {base d : Nat} {v : Value} {xs : List R} (hown : w.ownsRow base 73 3 v xs.length (flat xs)) (g off m c : Nat) (ms : List R) (hm : ms.length = m) (hr : RM w (some ⟨g, off, none⟩) ms) (hlen : xs.length + ms.length ≤ 4194304) (hbase : base ≤ w.heap.size)
    (s x : Operand) (ho : o.op = .call { callee := .builtin .append, args := #[s, x], argTypes := #[24, 24] }) (hd : o.dst = some d) (hs : a.eval s = v) (hx : a.eval x = .slice (some ⟨g, off, none⟩) m c)
    (h : ∀ v' w', w'.ownsRow base 73 3 v' (xs ++ ms).length (flat (xs ++ ms)) → w.grownBy w' v.ownBlock → K (a.put (some d) v') w') : o.wp Try.prog a w K Q := by
  subst hm
  obtain ⟨i0, hi, hz0, hz1, hz2⟩ := infoR
  refine wp_append_own w s x _ ho base 73 i0 _ 3 24 Try.underlying24 hi hz0 hz1 hz2 rfl (by decide) v xs.length (flat xs) hs hown ⟨g, off, none⟩ ms.length c (flat ms) hx (flat_len ms) hr.cells (fun u hu => flat_one_cell hu) (by unfold maxLen; omega) (by omega) hbase (fun v' w' h1 h2 _ => ?_)
  rw [hd]
  refine h v' w' ?_ h2
  rw [List.length_append, flat_append]; exact h1
theorem rm_new (w : World) (m : R) : RM (w.alloc (.cells #[.int .i64 m.key, .int .i64 m.til, .int .i64 m.val] 73)) (some ⟨w.heap.size, 0, none⟩) [m] := by
  refine .inr ⟨_, _, rfl, fun i hi => ?_⟩
  obtain rfl : i = 0 := by simp at hi; omega
  refine ⟨?_, ?_, ?_⟩ <;> simp [World.cell?_alloc_new]
theorem own_empty (w : World) (base : Nat) (hb : base ≤ w.heap.size) : (w.alloc (.cells #[] 73)).ownsRow base 73 3 (.slice (some ⟨w.heap.size, 0, none⟩) 0 0) ([] : List R).length (flat []) := World.ownsRow_made w #[] 0 hb (Nat.zero_le _) (by simp)
theorem own_nil (w : World) (base : Nat) : w.ownsRow base 73 3 (.slice none 0 0) ([] : List R).length (flat []) := World.ownsRow_nil w base _ _
theorem below_own {B : Nat} {w0 w w' : World} {base : Nat} {v : Value} {n : Nat} {xs : List Value} (h : Below B w0 w) (ho : w.ownsRow base 73 3 v n xs) (hg : w.grownBy w' v.ownBlock) (hb : B ≤ base) (hB : B ≤ w.heap.size) : Below B w0 w' :=
  h.grown hg hB (fun k hk => Nat.le_trans hb (ho.lt k hk).1)

set_option maxHeartbeats 1000000 in
theorem toR (key : Int) (til : Int) (val : Int) (w : World) :
    Calls Try.prog 100 #[.agg #[.int .i64 key, .int .i64 til, .int .i64 val]] w fun e w' => e = .returned (Value.agg #[.int .i64 key, .int .i64 til, .int .i64 val]) ∧ Below w.heap.size w w' := by
  go_enter Try.func100, Try.ntmps100
  go_wp2
  refine bodyPost_ret (v := .agg #[.int .i64 key, .int .i64 til, .int .i64 val]) (by simp [results, Try.results100, go_sem]) rfl ⟨rfl, ?_⟩
  repeat (first | exact Below.refl _ _ | refine Below.setCell ?_ (by simp <;> omega) _ | refine Below.alloc ?_ (by simp <;> omega) _)

set_option maxHeartbeats 2000000 in
theorem toS (a : Option Addr) (ms : List R) (cap : Nat) (w : World) (hm : ms.length ≤ 1048576) (hr : RM w a ms) :
    Calls Try.prog 59 #[.slice a ms.length cap] w fun e w' => ∃ g, e = .returned (.slice (some ⟨g, 0, none⟩) ms.length ms.length) ∧ Below w.heap.size w w' ∧ w.heap.size ≤ g ∧ g < w'.heap.size ∧ Upto w' g ms.length ms.length ms := by
  obtain ⟨i0, hi, hz0, hz1, hz2⟩ := infoR
  have hmk := run_make (P := Try.prog) w 24 73 i0 _ Try.underlying24 hi hz0 .i64 .i64 (ms.length : Int) (ms.length : Int) (by omega) (by omega) (by rw [hz2]; omega) (by omega)
  have HR := hide hr
  clear hr
  generalize hN : ms.length = n at *
  have HN := hide hN
  clear hN
  rw [Int.toNat_natCast, hz1] at hmk
  have hcs : (madeCells (Value.agg #[.int .i64 0, .int .i64 0, .int .i64 0]).cells (n * 3)).size = n * 3 := size_madeCells _ _
  generalize madeCells (Value.agg #[.int .i64 0, .int .i64 0, .int .i64 0]).cells (n * 3) = cs at *
  have hup0 : Upto (w.alloc (.cells cs 73)) w.heap.size n 0 ms := by
    refine ⟨fun i hi => by omega, fun i hi => ⟨?_, by simp⟩⟩
    rw [World.cell?_alloc_new, Array.getElem?_eq_getElem (by omega)]; rfl
  have HU := hide hup0
  clear hup0 hcs hi hz0 hz1 hz2
  go_enter Try.func59, Try.ntmps59
  go_wp2
  go_loopw [4] (fun i wr => ∃ j : Nat, j ≤ n ∧ i = .int .i64 j ∧ Hid (w.heap.size < wr.heap.size) ∧ Hid (Below w.heap.size w wr) ∧ Hid (Upto wr w.heap.size n j ms)) (fun i _ => n - (intOf i).toNat)
  case atStart => exact ⟨0, by omega, rfl, hide (by simp), hide ((Below.refl _ _).alloc (Nat.le_refl _) _), HU⟩
  case round =>
    obtain ⟨j, hj, rfl, hsz, hb, hu⟩ := hrel
    by_cases hlt : (j : Int) < (n : Int)
    · have k0 : (0 : Int) ≤ (j : Int) := by omega
      rcases (unhide HR).below (unhide hb) with e0 | ⟨g, off, rfl, hc⟩
      · exfalso
        have := unhide HN
        rw [e0] at this
        simp at this
        omega
      have hlen : j < ms.length := by rw [unhide HN]; omega
      obtain ⟨c0, c1, c2⟩ := hc j hlen
      have hstep : Hid (∀ w1, Below wr.heap.size wr w1 → Upto (put w1 w.heap.size (j * 3) (ms.getD j R.zero)) w.heap.size n (j + 1) ms) := fun w1 h1 => ((unhide hu).below h1 (unhide hsz)).step (by omega)
      have hsome : Hid (∀ w1, Below wr.heap.size wr w1 → ∀ k, k < 3 → (w1.cell? ⟨w.heap.size, j * 3 + k, none⟩).isSome = true ∧ w1.frozen? ⟨w.heap.size, j * 3 + k, none⟩ = false) := fun w1 h1 k hk => ((unhide hu).below h1 (unhide hsz)).2 (j * 3 + k) (by omega)
      generalize ms.getD j R.zero = m at *
      obtain ⟨key, til, val⟩ := m
      dsimp only at c0 c1 c2
      clear hc
      go_wp2_with fail
      refine (toR key til val _).mono ?_
      rintro e w1 ⟨rfl, b1⟩
      clear c0 c1 c2
      obtain ⟨v0, x0⟩ := Option.isSome_iff_exists.1 (unhide hsome w1 b1 0 (by omega)).1
      obtain ⟨v1, x1⟩ := Option.isSome_iff_exists.1 (unhide hsome w1 b1 1 (by omega)).1
      obtain ⟨v2, x2⟩ := Option.isSome_iff_exists.1 (unhide hsome w1 b1 2 (by omega)).1
      have y0 := (unhide hsome w1 b1 0 (by omega)).2
      have y1 := (unhide hsome w1 b1 1 (by omega)).2
      have y2 := (unhide hsome w1 b1 2 (by omega)).2
      rw [Nat.add_zero] at x0 y0
      have hs1 := hide (unhide hstep w1 b1)
      have hb1 := hide ((unhide hb).trans (b1.mono (unhide hb).size))
      have hz1 := hide (Nat.lt_of_lt_of_le (unhide hsz) b1.size)
      clear hsome hstep b1
      go_wp2_with fail
      exact ⟨⟨j + 1, by omega, by go_num, hide (Nat.lt_of_lt_of_le (unhide hz1) (Nat.le_of_eq (put_size w1 w.heap.size (j * 3) ⟨key, til, val⟩).symm)), hide (put_below (m := ⟨key, til, val⟩) (unhide hb1) (Nat.le_refl _)), hs1⟩, by simp [intOf]; omega⟩
    · obtain rfl : j = n := by omega
      go_wp2
      go_ret
      exact ⟨w.heap.size, rfl, unhide hb, Nat.le_refl _, unhide hsz, unhide hu⟩

set_option maxHeartbeats 1000000 in
theorem eqR (key : Int) (til : Int) (val : Int) (w : World) :
    Calls Try.prog 109 #[.agg #[.int .i64 key, .int .i64 til, .int .i64 val], .agg #[.int .i64 key, .int .i64 til, .int .i64 val]] w
      fun e w' => e = .returned (.bool true) ∧ Below w.heap.size w w' := by
  go_enter Try.func109, Try.ntmps109
  go_wp2
  go_ret
  repeat (first | exact ⟨rfl, Below.refl _ _⟩ | refine ⟨rfl, ?_⟩ | exact Below.refl _ _ | refine Below.alloc ?_ (by simp <;> omega) _)

theorem sAt {w : World} {g g' o o' : Nat} {key til val : Int}  (h : At w g o ⟨key, til, val⟩) (h' : At w g' o' ⟨key, til, val⟩) :
    (At w g o ⟨key, til, val⟩ ∧ At w g' o' ⟨key, til, val⟩) ∧ w.cell? ⟨g, o, none⟩ = some (.int .i64 key) ∧ w.cell? ⟨g, o + 1, none⟩ = some (.int .i64 til) ∧ w.cell? ⟨g, o + 2, none⟩ = some (.int .i64 val) ∧ w.cell? ⟨g', o', none⟩ = some (.int .i64 key) ∧ w.cell? ⟨g', o' + 1, none⟩ = some (.int .i64 til) ∧ w.cell? ⟨g', o' + 2, none⟩ = some (.int .i64 val) := ⟨⟨h, h'⟩, h.1, h.2.1, h.2.2, h'⟩

set_option maxRecDepth 100000 in
set_option maxHeartbeats 4000000 in
theorem eqS (a b : Option Addr) (ms : List R) (ca cb : Nat) (w : World) (hm : ms.length ≤ 1048576) (hr : RM w a ms) (hr' : RM w b ms) :
    Calls Try.prog 69 #[.slice a ms.length ca, .slice b ms.length cb] w fun e w' => e = .returned (.bool true) ∧ Below w.heap.size w w' := by
  have HR := hide hr
  have HR' := hide hr'
  clear hr hr'
  generalize hN : ms.length = n at *
  have HN := hide hN
  clear hN
  go_enter Try.func69, Try.ntmps69
  go_wp2
  go_loopw [5] (fun i wr => ∃ j : Nat, j ≤ n ∧ i = .int .i64 j ∧ Hid (Below w.heap.size w wr)) (fun i _ => n - (intOf i).toNat)
  case atStart => exact ⟨0, by omega, rfl, hide (Below.refl _ _)⟩
  case round =>
    obtain ⟨j, hj, rfl, hbl⟩ := hrel
    by_cases hlt : (j : Int) < (n : Int)
    · have k0 : (0 : Int) ≤ (j : Int) := by omega
      have hlen : j < ms.length := by rw [unhide HN]; omega
      rcases (unhide HR).below (by exact (unhide hbl)) with e0 | ⟨g, off, rfl, hc⟩
      · exfalso; rw [e0] at hlen; simp at hlen
      rcases (unhide HR').below (by exact (unhide hbl)) with e0 | ⟨g', off', rfl, hc'⟩
      · exfalso; rw [e0] at hlen; simp at hlen
      have hA := hc j hlen
      have hA' := hc' j hlen
      clear hc hc'
      generalize ms.getD j R.zero = m at *
      obtain ⟨key, til, val⟩ := m
      go_wp2_with fail
      go_region_held3 (fun w' => (At w' g (off + j * 3) ⟨key, til, val⟩ ∧ At w' g' (off' + j * 3) ⟨key, til, val⟩) ∧ w'.cell? ⟨g, off + j * 3, none⟩ = some (.int .i64 key) ∧ w'.cell? ⟨g, off + j * 3 + 1, none⟩ = some (.int .i64 til) ∧ w'.cell? ⟨g, off + j * 3 + 2, none⟩ = some (.int .i64 val) ∧ w'.cell? ⟨g', off' + j * 3, none⟩ = some (.int .i64 key) ∧ w'.cell? ⟨g', off' + j * 3 + 1, none⟩ = some (.int .i64 til) ∧ w'.cell? ⟨g', off' + j * 3 + 2, none⟩ = some (.int .i64 val))
        ((go_split_ands; exact sAt (by first | with_reducible assumption | (with_reducible refine At.drew ?_; with_reducible assumption) | (exact At.below (by with_reducible assumption) b1)) (by first | with_reducible assumption | (with_reducible refine At.drew ?_; with_reducible assumption) | (exact At.below (by with_reducible assumption) b1))))
        (first | (go_at_call 109; refine (eqR key til val _).mono ?_; rintro e w1 ⟨rfl, b1⟩))
      have hb1 := hide ((unhide hbl).drew.trans (b1.mono (by show w.heap.size ≤ wr.heap.size; exact (unhide hbl).size)))
      go_wp2_with fail
      go_roundw
      case rel => exact ⟨j + 1, by omega, by go_num, hb1⟩
      case measure => simp [intOf]; omega
    · go_wp2
      go_ret
      exact ⟨rfl, unhide hbl⟩

/-- The marks from K on. -/
def markR (K : Int) : R := ⟨K, K + 1, K + 1 + 1⟩
def marks (K : Int) (n : Nat) : List R := (List.range n).map fun t : Nat => markR (K + 3 * (t : Int))
theorem marks_len (K : Int) (n : Nat) : (marks K n).length = n := by simp [marks]
theorem marks_at (K : Int) (n t : Nat) (h : t < n) : (marks K n).getD t R.zero = markR (K + 3 * (t : Int)) := by
  unfold marks
  rw [List.getD_eq_getElem?_getD, List.getElem?_map, List.getElem?_range h]; rfl
theorem grown_set {w w1 : World} {g o : Nat} {v : Value} (h : w.grownBy w1 (some g)) : w.grownBy (w1.setCell ⟨g, o, none⟩ v) (some g) :=
  ⟨h.os, h.tape, h.output, by have := h.size; simp [World.setCell]; exact this, fun k hk hne => (Below.heap_setCell _ _ _ _ (fun e => hne (by rw [e]))).trans (h.block k hk hne)⟩
theorem grown_put {w w1 : World} {g o : Nat} {m : R} (h : w.grownBy w1 (some g)) : w.grownBy (put w1 g o m) (some g) := grown_set (grown_set (grown_set (h)))

theorem cellsR : Try.prog.cellsOf 139 = 3 := by kernel_rfl
theorem cells_int : Try.prog.cellsOf 3 = 1 := by kernel_rfl
theorem listR {α : Type} {l : List α} (h : l.length = 3) : ∃ c0 c1 c2, l = [c0, c1, c2] := by
  match l, h with
  | [c0, c1, c2], _ => exact ⟨c0, c1, c2, rfl⟩
/-- The cells that read as one. -/
theorem open_one {H : Type} {enc : TypeId × Value → H} {W : World} {base n : Nat} {spare : Nat → Bool} {held : Bool} {c : List Value} {y : DataW H × List MemPlace} (hl : c.length = 3)
    (h : DataW.trod enc Try.prog W base spare held n 139 c = some y) : ∃ m : R, c = m.cells := by
  obtain ⟨c0, c1, c2, rfl⟩ := listR hl
  obtain ⟨xs, n, _, _, _, hlen, hf⟩ := DataW.trod_struct Try.underlying139 h
  obtain ⟨x0, x1, x2, rfl⟩ := listR hlen
  have k0 := hf 0 _ rfl
  have k1 := hf 1 _ rfl
  have k2 := hf 2 _ rfl
  simp [cells_int] at k0 k1 k2
  obtain ⟨a0, e0, _, _⟩ := DataW.trod_int Try.underlying3 k0
  obtain ⟨a1, e1, _, _⟩ := DataW.trod_int Try.underlying3 k1
  obtain ⟨a2, e2, _, _⟩ := DataW.trod_int Try.underlying3 k2
  simp at e0 e1 e2
  subst e0 e1 e2
  exact ⟨⟨a0, a1, a2⟩, rfl⟩
/-- One that came in by value. -/
theorem open_rec {H : Type} {enc : TypeId × Value → H} {W : World} {r : Reach} {b0 base : Nat} {spare : Nat → Bool} {held : Bool} {v : Value} {d : DataW H} {p : List MemPlace}
    (hv : Value.okWide Try.prog W r b0 139 v) (h : DataW.Trod enc Try.prog W base spare held 139 v d p) : ∃ m : R, v = m.value := by
  obtain ⟨cs, rfl, hsz⟩ := okWide_struct Try.underlying139 hv
  obtain ⟨l⟩ := cs
  obtain ⟨c0, c1, c2, rfl⟩ := listR (hsz.trans cellsR)
  obtain ⟨fuel, hf⟩ := h
  obtain ⟨xs, n, _, _, _, hlen, hf⟩ := DataW.trod_struct Try.underlying139 hf
  obtain ⟨x0, x1, x2, rfl⟩ := listR hlen
  have k0 := hf 0 _ rfl
  have k1 := hf 1 _ rfl
  have k2 := hf 2 _ rfl
  simp [Value.cells, cells_int] at k0 k1 k2
  obtain ⟨a0, e0, _, _⟩ := DataW.trod_int Try.underlying3 k0
  obtain ⟨a1, e1, _, _⟩ := DataW.trod_int Try.underlying3 k1
  obtain ⟨a2, e2, _, _⟩ := DataW.trod_int Try.underlying3 k2
  simp at e0 e1 e2
  subst e0 e1 e2
  exact ⟨⟨a0, a1, a2⟩, rfl⟩
/-- A slice that came in: what it reads as. -/
theorem open_list {H : Type} {enc : TypeId × Value → H} {W : World} {a : Option Addr} {len cap : Nat} {d : DataW H} {p : List MemPlace}
    (h : DataW.Trod enc Try.prog W 0 (fun _ => true) true 50 (.slice a len cap) d p) : ∃ ms : List R, ms.length = len ∧ len ≤ maxLen ∧ RM W a ms := by
  obtain ⟨fuel, hf⟩ := h
  rcases Deep.open_slice Try.underlying50 hf with ⟨hcs, _⟩ | ⟨x, l, c, m, n, D, Pl, hcs, _, hl, hm, hmm, _, hx⟩
  · simp [Value.cells] at hcs
    obtain ⟨rfl, rfl, rfl⟩ := hcs
    exact ⟨[], rfl, Nat.zero_le _, .inl rfl⟩
  · simp [Value.cells] at hcs
    obtain ⟨rfl, rfl, rfl⟩ := hcs
    simp at hmm
    subst hmm
    rw [cellsR] at hx
    by_cases h0 : len = 0
    · subst h0; exact ⟨[], rfl, Nat.zero_le _, .inl rfl⟩
    obtain ⟨b, off, spot⟩ := x
    have hsp : spot = none := by
      obtain ⟨cs', h1, _⟩ := hx 0 (by omega)
      obtain ⟨_, hlen, hc⟩ := World.cells?_some h1
      have h2 := hc 0 (by omega)
      rw [List.getElem?_eq_getElem (by omega)] at h2
      simpa [Addr.add] using World.cell?_spot h2
    subst hsp
    have hex : ∀ i, i < len → ∃ m : R, At W b (off + i * 3) m := by
      intro i hi
      obtain ⟨cs', h1, h2⟩ := hx i (by omega)
      obtain ⟨_, hlen, hc⟩ := World.cells?_some h1
      obtain ⟨m, rfl⟩ := open_one hlen h2
      have q0 := hc 0 (by omega)
      have q1 := hc 1 (by omega)
      have q2 := hc 2 (by omega)
      rw [plain_add, plain_add] at q0 q1 q2
      exact ⟨m, q0, q1, q2⟩
    have hin : Inhabited R := ⟨R.zero⟩
    obtain ⟨V, hV⟩ := Deep.choose_lt hex
    refine ⟨(List.range len).map V, by simp, Nat.le_trans hl hm, .inr ⟨b, off, rfl, fun i hi => ?_⟩⟩
    have hi' : i < len := by simpa using hi
    have e : ((List.range len).map V).getD i R.zero = V i := by
      rw [List.getD_eq_getElem?_getD, List.getElem?_map, List.getElem?_range hi']; rfl
    rw [e]
    exact hV i hi'
end Tu
end Go.Proofs.Ytilphgfjgeoiaaa
