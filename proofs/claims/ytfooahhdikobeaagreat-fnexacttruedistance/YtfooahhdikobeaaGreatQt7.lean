/-
  Of the texts RecRoute, WysM, GphA, NetG, NetI, NetJ, RouM, RouA, HepA, HepB, Rl: what this claim needs of them. (put together by mkprune.py)
-/
import Derived.Test.YtfooahhdikobeaaGreatQt6
import Derived.Deep.RegionHeld3
import Derived.Deep.DrawnRows
import Derived.Deep.Slices
import Derived.Laws.AppendOwn
import Derived.Laws.NewBlocks
import Derived.BigRegion
import Derived.OrdersHeld
namespace Go.Proofs.YtfooahhdikobeaaGreat
open Go.ChangeShapes Go.WideShapes Go.ChangeAt Go.RowKit
set_option linter.unusedVariables false
set_option linter.unusedSimpArgs false
set_option maxRecDepth 100000
attribute [local go_sem ↓] Go.wp_at_zero Go.wp_at_succ
namespace Ro
open W1
structure R where
  ds : Int
  nx : Int
  co : Int
  hp : Int
def R.zero : R := ⟨0, 0, 0, 0⟩
/-- The value of one. -/
def R.value (m : R) : Value := .agg #[.int .i64 m.ds, .int .i64 m.nx, .int .i64 m.co, .int .i64 m.hp]
/-- The cells of one, of a list of them. -/
def R.cells (m : R) : List Value := [.int .i64 m.ds, .int .i64 m.nx, .int .i64 m.co, .int .i64 m.hp]
def flat (ms : List R) : List Value := ms.flatMap R.cells
/-- The cells of one that lies at an address. -/
def At (w : World) (g o : Nat) (m : R) : Prop :=
  w.cell? ⟨g, o, none⟩ = some (.int .i64 m.ds) ∧ w.cell? ⟨g, o + 1, none⟩ = some (.int .i64 m.nx) ∧ w.cell? ⟨g, o + 2, none⟩ = some (.int .i64 m.co) ∧ w.cell? ⟨g, o + 3, none⟩ = some (.int .i64 m.hp)
/-- The slice at a reads as these. -/
def RM (w : World) (a : Option Addr) (ms : List R) : Prop :=
  ms = [] ∨ ∃ g off, a = some ⟨g, off, none⟩ ∧ ∀ i, i < ms.length → At w g (off + i * 4) (ms.getD i R.zero)
theorem At.below {w w' : World} {g o : Nat} {m : R} (h : At w g o m) (hb : Below w.heap.size w w') : At w' g o m := by
  have hg : g < w.heap.size := World.block_lt_of_cell? _ _ h.1
  obtain ⟨h0, h1, h2, h3⟩ := h
  refine ⟨?_, ?_, ?_, ?_⟩ <;> (rw [hb.cell hg]; assumption)
theorem At.drew {w : World} {g o : Nat} {m : R} (h : At w g o m) : At w.drew g o m := h
theorem RM.below {w w' : World} {a : Option Addr} {ms : List R} (h : RM w a ms) (hb : Below w.heap.size w w') : RM w' a ms := by
  rcases h with h | ⟨g, off, rfl, hc⟩
  · exact .inl h
  · exact .inr ⟨g, off, rfl, fun i hi => (hc i hi).below hb⟩
theorem RM.drew {w : World} {a : Option Addr} {ms : List R} (h : RM w a ms) : RM w.drew a ms := h
theorem RM.at {w : World} {g off : Nat} {ms : List R} {i : Nat} (h : RM w (some ⟨g, off, none⟩) ms) (hi : i < ms.length) : At w g (off + i * 4) (ms.getD i R.zero) := by
  rcases h with rfl | ⟨g', off', e, hc⟩
  · simp at hi
  · cases e; exact hc i hi
theorem RM.form {w : World} {a : Option Addr} {ms : List R} (h : RM w a ms) (h0 : 0 < ms.length) : ∃ g off, a = some ⟨g, off, none⟩ := by
  rcases h with rfl | ⟨g, off, e, _⟩
  · simp at h0
  · exact ⟨g, off, e⟩
/-- A part of a list. -/
theorem RM.part {w : World} {g off : Nat} {ms : List R} (h : RM w (some ⟨g, off, none⟩) ms) (i n : Nat) : RM w (some ⟨g, off + i * 4, none⟩) ((ms.drop i).take n) := by
  refine .inr ⟨g, off + i * 4, rfl, fun j hj => ?_⟩
  have hl : j < n ∧ i + j < ms.length := by simp at hj; omega
  have := h.at (i := i + j) hl.2
  rw [show off + (i + j) * 4 = off + i * 4 + j * 4 by omega] at this
  have e : ((ms.drop i).take n).getD j R.zero = ms.getD (i + j) R.zero := by
    rw [List.getD_eq_getElem?_getD, List.getD_eq_getElem?_getD, List.getElem?_take_of_lt hl.1, List.getElem?_drop]
  rw [e]; exact this
theorem getD_mem {ms : List R} {j : Nat} (h : j < ms.length) : ms.getD j R.zero ∈ ms := by rw [List.getD_eq_getElem?_getD, List.getElem?_eq_getElem h]; exact List.getElem_mem h
theorem R.len (m : R) : m.cells.length = 4 := rfl
theorem flat_len (ms : List R) : (flat ms).length = ms.length * 4 := by
  unfold flat
  induction ms with
  | nil => rfl
  | cons m t ih => rw [List.flatMap_cons, List.length_append, ih, R.len, List.length_cons]; omega
theorem flat_append (xs ys : List R) : flat (xs ++ ys) = flat xs ++ flat ys := by unfold flat; rw [List.flatMap_append]
theorem flat_get : ∀ (ms : List R) (i j : Nat), j < 4 → i < ms.length → (flat ms)[i * 4 + j]? = (ms.getD i R.zero).cells[j]?
  | [], i, j, hj, hi => by simp at hi
  | m :: t, 0, j, hj, hi => by
    unfold flat
    rw [List.flatMap_cons, Nat.zero_mul, Nat.zero_add, List.getElem?_append_left (by rw [R.len]; exact hj)]; rfl
  | m :: t, i + 1, j, hj, hi => by
    have ih := flat_get t i j hj (by simpa using hi)
    unfold flat at ih ⊢
    rw [List.flatMap_cons, show (i + 1) * 4 + j = m.cells.length + (i * 4 + j) by rw [R.len]; omega, List.getElem?_append_right (by omega), Nat.add_sub_cancel_left, ih]; rfl
theorem cell_one {m : R} {u : Value} (h : u ∈ m.cells) : u.oneCell' = true := by
  unfold R.cells at h; simp only [List.mem_cons, List.not_mem_nil, or_false] at h
  rcases h with rfl | rfl | rfl | rfl <;> rfl
theorem flat_one_cell {ms : List R} {u : Value} (h : u ∈ flat ms) : u.oneCell' = true := by
  obtain ⟨m, _, hu⟩ := List.mem_flatMap.1 h; exact cell_one hu
theorem at_cells {w : World} {g o : Nat} {m : R} (h : At w g o m) : ∀ j u, m.cells[j]? = some u → w.cell? ⟨g, o + j, none⟩ = some u := by
  intro j u hj
  match j, hj with
  | 0, hj => simp [R.cells] at hj; subst hj; exact h.1
  | 1, hj => simp [R.cells] at hj; subst hj; exact h.2.1
  | 2, hj => simp [R.cells] at hj; subst hj; exact h.2.2.1
  | 3, hj => simp [R.cells] at hj; subst hj; exact h.2.2.2
  | n + 4, hj => simp [R.cells] at hj
theorem plain_add (b off k : Nat) : (⟨b, off, none⟩ : Addr).add k = ⟨b, off + k, none⟩ := by unfold Addr.add; split <;> simp_all
/-- A list that is read, cell by cell. -/
theorem RM.cells {w : World} {g off : Nat} {ms : List R} (h : RM w (some ⟨g, off, none⟩) ms) : ∀ j u, (flat ms)[j]? = some u → w.cell? ((⟨g, off, none⟩ : Addr).add j) = some u := by
  intro j u hj
  have hl : j < ms.length * 4 := by
    rw [← flat_len]; exact (List.getElem?_eq_some_iff.1 hj).1
  have hi : j / 4 < ms.length := by omega
  have e : j / 4 * 4 + j % 4 = j := by omega
  rw [← e, flat_get ms _ _ (by omega) hi] at hj
  rw [plain_add, ← e, ← Nat.add_assoc]
  exact at_cells (h.at hi) _ _ hj
/-- A row of one's own that holds a list. -/
theorem at_own {w : World} {base g n cap : Nat} {ms : List R} (hn : n = ms.length) (h : w.ownsRow base 87 4 (.slice (some ⟨g, 0, none⟩) n cap) n (flat ms)) (i : Nat) (hi : i < ms.length) : At w g (i * 4) (ms.getD i R.zero) := by
  have hc : ∀ j, j < 4 → ∀ u, (ms.getD i R.zero).cells[j]? = some u → w.cell? ⟨g, i * 4 + j, none⟩ = some u := by
    intro j hj u hu
    have := h.cells (g := g) rfl (i * 4 + j) u (by rw [flat_get ms i j hj hi]; exact hu)
    rw [plain_add, Nat.zero_add] at this
    exact this
  exact ⟨hc 0 (by omega) _ rfl, hc 1 (by omega) _ rfl, hc 2 (by omega) _ rfl, hc 3 (by omega) _ rfl⟩

/-- One laid at an address. -/
def put (w : World) (g o : Nat) (m : R) : World := (((w.setCell ⟨g, o, none⟩ (.int .i64 m.ds)).setCell ⟨g, o + 1, none⟩ (.int .i64 m.nx)).setCell ⟨g, o + 2, none⟩ (.int .i64 m.co)).setCell ⟨g, o + 3, none⟩ (.int .i64 m.hp)
theorem put_below {B : Nat} {w0 w : World} {g o : Nat} {m : R} (h : Below B w0 w) (hg : B ≤ g) : Below B w0 (put w g o m) := by
  unfold put
  exact (((h.setCell (p := ⟨g, o, none⟩) hg _).setCell (p := ⟨g, o + 1, none⟩) hg _).setCell (p := ⟨g, o + 2, none⟩) hg _).setCell (p := ⟨g, o + 3, none⟩) hg _
theorem put_size (w : World) (g o : Nat) (m : R) : (put w g o m).heap.size = w.heap.size := by simp [put, World.setCell]
theorem put_frozen (w : World) (g o : Nat) (m : R) (a : Addr) : (put w g o m).frozen? a = w.frozen? a := by
  unfold put; rw [World.frozen?_setCell, World.frozen?_setCell, World.frozen?_setCell, World.frozen?_setCell]
theorem put_far (w : World) (g o : Nat) (m : R) {b q : Nat} (h : b ≠ g ∨ q < o ∨ o + 4 ≤ q) : (put w g o m).cell? ⟨b, q, none⟩ = w.cell? ⟨b, q, none⟩ := by
  unfold put
  rw [World.cell?_setCell_other _ _ _ _ (by intro e; cases e <;> omega), World.cell?_setCell_other _ _ _ _ (by intro e; cases e <;> omega), World.cell?_setCell_other _ _ _ _ (by intro e; cases e <;> omega), World.cell?_setCell_other _ _ _ _ (by intro e; cases e <;> omega)]
theorem put_at (w : World) (g o : Nat) (m : R) (h : ∀ k, k < 4 → (w.cell? ⟨g, o + k, none⟩).isSome = true) : At (put w g o m) g o m := by
  obtain ⟨v0, h0⟩ := Option.isSome_iff_exists.1 (h 0 (by omega))
  obtain ⟨v1, h1⟩ := Option.isSome_iff_exists.1 (h 1 (by omega))
  obtain ⟨v2, h2⟩ := Option.isSome_iff_exists.1 (h 2 (by omega))
  obtain ⟨v3, h3⟩ := Option.isSome_iff_exists.1 (h 3 (by omega))
  rw [Nat.add_zero] at h0
  have n : ∀ {w : World} {v : Value} {a b : Nat}, a ≠ b → (w.setCell ⟨g, a, none⟩ v).cell? ⟨g, b, none⟩ = w.cell? ⟨g, b, none⟩ := fun {w v a b} e => World.cell?_setCell_other _ _ _ _ (by intro h; cases h; exact e rfl)
  unfold put
  refine ⟨?_, ?_, ?_, ?_⟩
  · rw [n (by omega), n (by omega), n (by omega), World.cell?_setCell_same _ _ _ h0]
  · rw [n (by omega), n (by omega), World.cell?_setCell_same _ _ _ ((n (by omega)).trans h1)]
  · rw [n (by omega), World.cell?_setCell_same _ _ _ ((n (by omega)).trans ((n (by omega)).trans h2))]
  · rw [World.cell?_setCell_same _ _ _ ((n (by omega)).trans ((n (by omega)).trans ((n (by omega)).trans h3)))]
theorem put_some (w : World) (g o : Nat) (m : R) (b q : Nat) (h : (w.cell? ⟨b, q, none⟩).isSome = true) : ((put w g o m).cell? ⟨b, q, none⟩).isSome = true := by
  obtain ⟨v, y0⟩ := Option.isSome_iff_exists.1 h
  unfold put
  obtain ⟨v1, y1⟩ := cell?_setCell_some (p := ⟨g, o, none⟩) (x := .int .i64 m.ds) y0
  obtain ⟨v2, y2⟩ := cell?_setCell_some (p := ⟨g, o + 1, none⟩) (x := .int .i64 m.nx) y1
  obtain ⟨v3, y3⟩ := cell?_setCell_some (p := ⟨g, o + 2, none⟩) (x := .int .i64 m.co) y2
  obtain ⟨v4, y4⟩ := cell?_setCell_some (p := ⟨g, o + 3, none⟩) (x := .int .i64 m.hp) y3
  rw [y4]; rfl
/-- The first j stand at the head of block g, whose n times 4 cells may be written. -/
def Upto (w : World) (g n j : Nat) (ms : List R) : Prop :=
  (∀ i, i < j → At w g (i * 4) (ms.getD i R.zero)) ∧ ∀ i, i < n * 4 → (w.cell? ⟨g, i, none⟩).isSome = true ∧ w.frozen? ⟨g, i, none⟩ = false
theorem Upto.step {w : World} {g n j : Nat} {ms : List R} (h : Upto w g n j ms) (hj : j < n) : Upto (put w g (j * 4) (ms.getD j R.zero)) g n (j + 1) ms := by
  refine ⟨fun i hi => ?_, fun i hi => ⟨put_some _ _ _ _ _ _ (h.2 i hi).1, by rw [put_frozen]; exact (h.2 i hi).2⟩⟩
  by_cases e : i = j
  · subst e
    exact put_at _ _ _ _ (fun k hk => (h.2 _ (by omega)).1)
  · obtain ⟨h0, h1, h2, h3⟩ := h.1 i (by omega)
    exact ⟨(put_far _ _ _ _ (by omega)).trans h0, (put_far _ _ _ _ (by omega)).trans h1, (put_far _ _ _ _ (by omega)).trans h2, (put_far _ _ _ _ (by omega)).trans h3⟩
theorem Upto.below {w w' : World} {g n j : Nat} {ms : List R} (h : Upto w g n j ms) (hb : Below w.heap.size w w') (hg : g < w.heap.size) : Upto w' g n j ms :=
  ⟨fun i hi => (h.1 i hi).below hb, fun i hi => ⟨by rw [hb.cell (p := ⟨g, i, none⟩) hg]; exact (h.2 i hi).1, by rw [hb.frozen (p := ⟨g, i, none⟩) hg]; exact (h.2 i hi).2⟩⟩
theorem Upto.of_block {w w' : World} {g n j : Nat} {ms : List R} (h : Upto w g n j ms) (hb : w'.heap[g]? = w.heap[g]?) : Upto w' g n j ms := by
  have c : ∀ q, w'.cell? ⟨g, q, none⟩ = w.cell? ⟨g, q, none⟩ := fun q => World.cell?_of_block (a := ⟨g, q, none⟩) hb
  have f : ∀ q, w'.frozen? ⟨g, q, none⟩ = w.frozen? ⟨g, q, none⟩ := fun q => World.frozen?_of_block (a := ⟨g, q, none⟩) hb
  refine ⟨fun i hi => ?_, fun i hi => ⟨by rw [c]; exact (h.2 i hi).1, by rw [f]; exact (h.2 i hi).2⟩⟩
  obtain ⟨h0, h1, h2, h3⟩ := h.1 i hi
  exact ⟨(c _).trans h0, (c _).trans h1, (c _).trans h2, (c _).trans h3⟩
theorem rm_of {w : World} {g n : Nat} {ms : List R} (h : Upto w g n ms.length ms) : RM w (some ⟨g, 0, none⟩) ms := .inr ⟨g, 0, rfl, fun i hi => by rw [Nat.zero_add]; exact h.1 i hi⟩
theorem upto_own {w : World} {base g cap n : Nat} {ms : List R} (hn : n = ms.length) (h : w.ownsRow base 87 4 (.slice (some ⟨g, 0, none⟩) n cap) n (flat ms)) : Upto w g n n ms := by
  subst hn
  refine ⟨fun i hi => at_own rfl h i hi, fun i hi => ?_⟩
  obtain ⟨_, ⟨e, _⟩ | ⟨g', cap', cur, e, _, hg, h1, _, h3, _⟩⟩ := h
  · cases e
  · cases e
    have hlt : i < cur.size := by rw [h3]; exact Nat.lt_of_lt_of_le hi (Nat.mul_le_mul_right _ h1)
    refine ⟨?_, ?_⟩
    · simp [World.cell?, hg, hlt]
    · simp [World.frozen?, hg]
/-- A list between two bounds of the heap, in memory that may be written. -/
def Lst (W : World) (a : Option Addr) (ms : List R) (lo hi : Nat) : Prop := ms = [] ∨ ∃ g, a = some ⟨g, 0, none⟩ ∧ lo ≤ g ∧ g < hi ∧ g < W.heap.size ∧ Upto W g ms.length ms.length ms
theorem Lst.rm {W : World} {a : Option Addr} {ms : List R} {lo hi : Nat} (h : Lst W a ms lo hi) : RM W a ms := by
  rcases h with rfl | ⟨g, rfl, _, _, _, hu⟩
  · exact .inl rfl
  · exact rm_of hu
theorem Lst.below {W W' : World} {a : Option Addr} {ms : List R} {lo hi : Nat} (h : Lst W a ms lo hi) (hb : Below W.heap.size W W') : Lst W' a ms lo hi := by
  rcases h with rfl | ⟨g, rfl, h1, h2, h3, hu⟩
  · exact .inl rfl
  · exact .inr ⟨g, rfl, h1, h2, Nat.lt_of_lt_of_le h3 hb.size, hu.below hb h3⟩
theorem Lst.mono {W : World} {a : Option Addr} {ms : List R} {lo hi lo' hi' : Nat} (h : Lst W a ms lo hi) (h1 : lo' ≤ lo) (h2 : hi ≤ hi') : Lst W a ms lo' hi' := by
  rcases h with rfl | ⟨g, rfl, h3, h4, h5, hu⟩
  · exact .inl rfl
  · exact .inr ⟨g, rfl, by omega, by omega, h5, hu⟩
theorem Lst.but {W W' : World} {a : Option Addr} {ms : List R} {lo hi : Nat} {p : Nat → Prop} (h : Lst W a ms lo hi) (hs : W.heap.size ≤ W'.heap.size) (hb : ∀ k, k < W.heap.size → p k → W'.heap[k]? = W.heap[k]?) (hp : ∀ k, lo ≤ k → k < hi → p k) : Lst W' a ms lo hi := by
  rcases h with rfl | ⟨g, rfl, h1, h2, h3, hu⟩
  · exact .inl rfl
  · exact .inr ⟨g, rfl, h1, h2, Nat.lt_of_lt_of_le h3 hs, hu.of_block (hb g h3 (hp g h1 h2))⟩
/-- The same of a value. -/
def LstV (W : World) (v : Value) (ms : List R) (lo hi : Nat) : Prop := ∃ a c, v = .slice a ms.length c ∧ Lst W a ms lo hi
theorem LstV.below {W W' : World} {v : Value} {ms : List R} {lo hi : Nat} (h : LstV W v ms lo hi) (hb : Below W.heap.size W W') : LstV W' v ms lo hi := by
  obtain ⟨a, c, e, hl⟩ := h; exact ⟨a, c, e, hl.below hb⟩
theorem LstV.mono {W : World} {v : Value} {ms : List R} {lo hi lo' hi' : Nat} (h : LstV W v ms lo hi) (h1 : lo' ≤ lo) (h2 : hi ≤ hi') : LstV W v ms lo' hi' := by
  obtain ⟨a, c, e, hl⟩ := h; exact ⟨a, c, e, hl.mono h1 h2⟩
theorem lstV_nil (W : World) (a : Option Addr) (c lo hi : Nat) : LstV W (.slice a 0 c) [] lo hi := ⟨a, c, rfl, .inl rfl⟩
/-- A row of one's own as such a list. -/
theorem lst_own {w : World} {base n : Nat} {v : Value} {ms : List R} (hn : n = ms.length) (h : w.ownsRow base 87 4 v n (flat ms)) : LstV w v ms base w.heap.size := by
  unfold LstV
  have h' := h
  obtain ⟨hl, ⟨rfl, h0⟩ | ⟨g, cap, cur, rfl, hb, hg, _, _, _, _⟩⟩ := h
  · exact ⟨none, 0, by rw [← hn, h0], .inl (List.eq_nil_of_length_eq_zero (by omega))⟩
  · have hlt : g < w.heap.size := by
      rcases Nat.lt_or_ge g w.heap.size with h | h
      · exact h
      · rw [Array.getElem?_eq_none h] at hg; cases hg
    refine ⟨_, cap, by rw [hn], .inr ⟨g, rfl, hb, hlt, hlt, ?_⟩⟩
    have := upto_own hn h'
    rw [hn] at this; exact this


theorem infoR : ∃ i, Tryz.prog.info? 87 = some i ∧ i.zero = some (Value.agg #[.int .i64 0, .int .i64 0, .int .i64 0, .int .i64 0]) ∧ i.size = 4 ∧ i.bytes = 32 := by
  have h : (Tryz.prog.info? 87).map (fun i => (i.zero, i.size, i.bytes)) = some (some (Value.agg #[.int .i64 0, .int .i64 0, .int .i64 0, .int .i64 0]), 4, 32) := by kernel_rfl
  obtain ⟨i, hi, he⟩ := Option.map_eq_some_iff.1 h
  simp only [Prod.mk.injEq] at he
  exact ⟨i, hi, he.1, he.2.1, he.2.2⟩

/-- append of a list to a row of one's own, as a walk meets it. -/
theorem wpList_apS {ops : Array Oper} {rest : List Oper} {o : Oper} {a : Act} {Q : Exit → Act → World → Prop} {w : World} {base : Nat} {v : Value} {xs : List R} (hown : w.ownsRow base 87 4 v xs.length (flat xs)) (g off m c : Nat) (ms : List R) (hm : ms.length = m) (hr : RM w (some ⟨g, off, none⟩) ms) (hlen : xs.length + ms.length ≤ 4194304) (hbase : base ≤ w.heap.size)
    (hgd : o.guard = none) (s x : Operand) (ho : o.op = .call { callee := .builtin .append, args := #[s, x], argTypes := #[88, 88] }) (hs : a.eval s = v) (hx : a.eval x = .slice (some ⟨g, off, none⟩) m c)
    (h : ∀ v' w', w'.ownsRow base 87 4 v' (xs ++ ms).length (flat (xs ++ ms)) → w.grownBy w' v.ownBlock → wpList Tryz.prog ops Q rest (a.put o.dst v') w') : wpList Tryz.prog ops Q (o :: rest) a w := by
  subst hm
  obtain ⟨i0, hi, hz0, hz1, hz2⟩ := infoR
  refine wpList_append_own w hgd s x _ ho base 87 i0 _ 4 32 Tryz.underlying88 hi hz0 hz1 hz2 rfl (by decide) v xs.length (flat xs) hs hown ⟨g, off, none⟩ ms.length c (flat ms) hx (flat_len ms) hr.cells (fun u hu => flat_one_cell hu) (by unfold maxLen; omega) (by omega) hbase (fun v' w' h1 h2 _ => ?_)
  refine h v' w' ?_ h2
  rw [List.length_append, flat_append]; exact h1
/-- The same, inside a region that draws its order. -/
theorem wp_apS {o : Oper} {a : Act} {K : Act → World → Prop} {Q : Exit → Act → World → Prop} {w : World} {base d : Nat} {v : Value} {xs : List R} (hown : w.ownsRow base 87 4 v xs.length (flat xs)) (g off m c : Nat) (ms : List R) (hm : ms.length = m) (hr : RM w (some ⟨g, off, none⟩) ms) (hlen : xs.length + ms.length ≤ 4194304) (hbase : base ≤ w.heap.size)
    (s x : Operand) (ho : o.op = .call { callee := .builtin .append, args := #[s, x], argTypes := #[88, 88] }) (hd : o.dst = some d) (hs : a.eval s = v) (hx : a.eval x = .slice (some ⟨g, off, none⟩) m c)
    (h : ∀ v' w', w'.ownsRow base 87 4 v' (xs ++ ms).length (flat (xs ++ ms)) → w.grownBy w' v.ownBlock → K (a.put (some d) v') w') : o.wp Tryz.prog a w K Q := by
  subst hm
  obtain ⟨i0, hi, hz0, hz1, hz2⟩ := infoR
  refine wp_append_own w s x _ ho base 87 i0 _ 4 32 Tryz.underlying88 hi hz0 hz1 hz2 rfl (by decide) v xs.length (flat xs) hs hown ⟨g, off, none⟩ ms.length c (flat ms) hx (flat_len ms) hr.cells (fun u hu => flat_one_cell hu) (by unfold maxLen; omega) (by omega) hbase (fun v' w' h1 h2 _ => ?_)
  rw [hd]
  refine h v' w' ?_ h2
  rw [List.length_append, flat_append]; exact h1
theorem rm_new (w : World) (m : R) : RM (w.alloc (.cells #[.int .i64 m.ds, .int .i64 m.nx, .int .i64 m.co, .int .i64 m.hp] 87)) (some ⟨w.heap.size, 0, none⟩) [m] := by
  refine .inr ⟨_, _, rfl, fun i hi => ?_⟩
  obtain rfl : i = 0 := by simp at hi; omega
  refine ⟨?_, ?_, ?_, ?_⟩ <;> simp [World.cell?_alloc_new]
theorem own_empty (w : World) (base : Nat) (hb : base ≤ w.heap.size) : (w.alloc (.cells #[] 87)).ownsRow base 87 4 (.slice (some ⟨w.heap.size, 0, none⟩) 0 0) ([] : List R).length (flat []) := World.ownsRow_made w #[] 0 hb (Nat.zero_le _) (by simp)
theorem own_nil (w : World) (base : Nat) : w.ownsRow base 87 4 (.slice none 0 0) ([] : List R).length (flat []) := World.ownsRow_nil w base _ _
theorem below_own {B : Nat} {w0 w w' : World} {base : Nat} {v : Value} {n : Nat} {xs : List Value} (h : Below B w0 w) (ho : w.ownsRow base 87 4 v n xs) (hg : w.grownBy w' v.ownBlock) (hb : B ≤ base) (hB : B ≤ w.heap.size) : Below B w0 w' :=
  h.grown hg hB (fun k hk => Nat.le_trans hb (ho.lt k hk).1)



/-- The marks from K on. -/
def markR (K : Int) : R := ⟨K, K + 1, K + 1 + 1, K + 1 + 1 + 1⟩
def marks (K : Int) (n : Nat) : List R := (List.range n).map fun t : Nat => markR (K + 4 * (t : Int))
end Ro
end Go.Proofs.YtfooahhdikobeaaGreat
namespace Go.Proofs.YtfooahhdikobeaaGreat
set_option linter.unusedVariables false
set_option linter.unusedSimpArgs false
namespace Wd
open Ro
/-- One way comes ahead of another: it costs less, or as much with fewer hops, or with as many by a lower first hop. -/
def Bt (x y : R) : Prop := x.co < y.co ∨ x.co = y.co ∧ (x.hp < y.hp ∨ x.hp = y.hp ∧ x.nx < y.nx)
def btB (x y : R) : Bool := decide (x.co < y.co) || (x.co == y.co) && (decide (x.hp < y.hp) || (x.hp == y.hp) && decide (x.nx < y.nx))
theorem btB_iff {x y : R} : btB x y = true ↔ Bt x y := by unfold btB Bt; simp
theorem btB_no {x y : R} : btB x y = false ↔ ¬ Bt x y := by rw [← btB_iff]; simp
theorem no_self (x : R) : ¬ Bt x x := by unfold Bt; omega
theorem no_trans {x y z : R} (h1 : ¬ Bt y x) (h2 : ¬ Bt z y) : ¬ Bt z x := by unfold Bt at *; omega
theorem bt_no {x y : R} (h : Bt x y) : ¬ Bt y x := by unfold Bt at *; omega
theorem no_both {x y : R} (hd : x.ds = y.ds) (h1 : ¬ Bt y x) (h2 : ¬ Bt x y) : x = y := by
  obtain ⟨a, b, c, d⟩ := x
  obtain ⟨a', b', c', d'⟩ := y
  unfold Bt at h1 h2
  dsimp only at hd h1 h2
  obtain ⟨h3, h4, h5⟩ : b = b' ∧ c = c' ∧ d = d' := by omega
  rw [hd, h3, h4, h5]
/-- A way with one edge more. -/
def ext (x : R) (v c : Int) : R := ⟨v, if x.hp = 0 then v else x.nx, x.co + c, x.hp + 1⟩
/-- There is an edge. -/
def Ed (g : List Tu.R) (u v c : Int) : Prop := ∃ m ∈ g, Tw.hv m = u ∧ Tw.ha m = v ∧ m.val = c
/-- The best ways of a graph from one address: to itself, each with one before it, and no edge makes a better one. -/
structure Good (g : List Tu.R) (f : Int) (L : Int → Option R) : Prop where
  own : L f = some ⟨f, 0, 0, 0⟩
  too : ∀ v x, L v = some x → x.ds = v ∧ 0 ≤ x.co ∧ 0 ≤ x.hp
  from' : ∀ v x, L v = some x → v ≠ f → ∃ u y c, L u = some y ∧ Ed g u v c ∧ x = ext y v c
  least : ∀ u y v c, L u = some y → Ed g u v c → ∃ x, L v = some x ∧ ¬ Bt (ext y v c) x
def Pos (g : List Tu.R) : Prop := ∀ m ∈ g, 1 ≤ m.val
theorem ed_pos {g : List Tu.R} (h : Pos g) {u v c : Int} (he : Ed g u v c) : 1 ≤ c := by obtain ⟨m, hm, _, _, rfl⟩ := he; exact h m hm
theorem hp_one {g : List Tu.R} {f : Int} {L : Int → Option R} (hg : Good g f L) {v : Int} {x : R} (h : L v = some x) (hv : v ≠ f) : 1 ≤ x.hp := by
  obtain ⟨u, y, c, hu, _, rfl⟩ := hg.from' v x h hv
  have := (hg.too u y hu).2.2
  unfold ext; dsimp only; omega
theorem best_le {g : List Tu.R} (hp : Pos g) {f : Int} {L L' : Int → Option R} (h : Good g f L) (h' : Good g f L') :
    ∀ n : Nat, ∀ v x, L v = some x → x.co < n → ∃ x', L' v = some x' ∧ ¬ Bt x x' := by
  intro n
  induction n with
  | zero => intro v x hx hn; have := (h.too v x hx).2.1; omega
  | succ n ih =>
    intro v x hx hn
    by_cases hv : v = f
    · subst hv
      rw [h.own] at hx
      cases hx
      exact ⟨_, h'.own, no_self _⟩
    · obtain ⟨u, y, c, hu, he, rfl⟩ := h.from' v x hx hv
      have hc := ed_pos hp he
      obtain ⟨y', hy', hb⟩ := ih u y hu (by unfold ext at hn; dsimp only at hn; omega)
      obtain ⟨x', hx', hb'⟩ := h'.least u y' v c hy' he
      refine ⟨x', hx', ?_⟩
      by_cases hf : u = f
      · subst hf
        rw [h.own] at hu; rw [h'.own] at hy'
        cases hu; cases hy'; exact hb'
      · have h1 := hp_one h hu hf
        have h2 := hp_one h' hy' hf
        refine no_trans hb' ?_
        unfold ext Bt at *
        dsimp only
        rw [if_neg (by omega), if_neg (by omega)]
        omega
theorem best_one {g : List Tu.R} (hp : Pos g) {f : Int} {L L' : Int → Option R} (h : Good g f L) (h' : Good g f L') : ∀ v, L v = L' v := by
  intro v
  have key : ∀ {L L' : Int → Option R}, Good g f L → Good g f L' → ∀ x, L v = some x → L' v = some x := by
    intro L L' h h' x hx
    have := (h.too v x hx).2.1
    obtain ⟨x', hx', hb⟩ := best_le hp h h' (x.co.toNat + 1) v x hx (by omega)
    have := (h'.too v x' hx').2.1
    obtain ⟨x2, hx2, hb2⟩ := best_le hp h' h (x'.co.toNat + 1) v x' hx' (by omega)
    rw [hx] at hx2; cases hx2
    rw [hx', no_both ((h.too v x hx).1.trans (h'.too v x' hx').1.symm) hb2 hb]
  cases e : L v with
  | none =>
    cases e' : L' v with
    | none => rfl
    | some x => rw [key h' h x e'] at e; cases e
  | some x => exact (key h h' x e).symm
/-! Heaps. -/
def at' (hs : List R) (i : Nat) : R := hs.getD i R.zero
def swp (hs : List R) (i j : Nat) : List R := (hs.set i (at' hs j)).set j (at' hs i)
theorem swp_len (hs : List R) (i j : Nat) : (swp hs i j).length = hs.length := by unfold swp; simp
theorem swp_at (hs : List R) {i j : Nat} (hi : i < hs.length) (hj : j < hs.length) (k : Nat) : at' (swp hs i j) k = if k = j then at' hs i else if k = i then at' hs j else at' hs k := by
  unfold swp at'
  simp only [List.getD_eq_getElem?_getD, List.getElem?_set, List.length_set]
  by_cases h1 : k = j
  · subst h1; simp [hj]
  · rw [if_neg (by omega), if_neg h1]
    by_cases h2 : k = i
    · subst h2; simp [hi]
    · rw [if_neg (by omega), if_neg h2]
theorem at_mem {hs : List R} {i : Nat} (h : i < hs.length) : at' hs i ∈ hs := by
  unfold at'; rw [List.getD_eq_getElem?_getD, List.getElem?_eq_getElem h]; exact List.getElem_mem h
theorem mem_at {hs : List R} {x : R} (h : x ∈ hs) : ∃ i, i < hs.length ∧ at' hs i = x := by
  obtain ⟨i, hi, rfl⟩ := List.getElem_of_mem h
  exact ⟨i, hi, by unfold at'; rw [List.getD_eq_getElem?_getD, List.getElem?_eq_getElem hi]; rfl⟩
theorem swp_mem {hs : List R} {i j : Nat} (hi : i < hs.length) (hj : j < hs.length) (x : R) : x ∈ swp hs i j ↔ x ∈ hs := by
  constructor
  · intro h
    obtain ⟨k, hk, rfl⟩ := mem_at h
    rw [swp_at hs hi hj]
    rw [swp_len] at hk
    split
    · exact at_mem hi
    · split
      · exact at_mem hj
      · exact at_mem hk
  · intro h
    obtain ⟨k, hk, rfl⟩ := mem_at h
    by_cases h1 : k = i
    · subst h1
      have := at_mem (hs := swp hs k j) (i := j) (by rw [swp_len]; exact hj)
      rw [swp_at hs hi hj, if_pos rfl] at this; exact this
    · by_cases h2 : k = j
      · subst h2
        have := at_mem (hs := swp hs i k) (i := i) (by rw [swp_len]; exact hi)
        rw [swp_at hs hi hj, if_neg (by omega), if_pos rfl] at this; exact this
      · have := at_mem (hs := swp hs i j) (i := k) (by rw [swp_len]; exact hk)
        rw [swp_at hs hi hj, if_neg h2, if_neg h1] at this; exact this
def Heap (hs : List R) : Prop := ∀ i, 0 < i → i < hs.length → ¬ Bt (at' hs i) (at' hs ((i - 1) / 2))
/-- A heap but for one at a place that may have to rise, that may have to sink. -/
def UpI (hs : List R) (i : Nat) : Prop := (∀ j, 0 < j → j < hs.length → j ≠ i → ¬ Bt (at' hs j) (at' hs ((j - 1) / 2))) ∧ (∀ j, 0 < j → j < hs.length → (j - 1) / 2 = i → 0 < i → ¬ Bt (at' hs j) (at' hs ((i - 1) / 2)))
def DnI (hs : List R) (i : Nat) : Prop := (∀ j, 0 < j → j < hs.length → (j - 1) / 2 ≠ i → ¬ Bt (at' hs j) (at' hs ((j - 1) / 2))) ∧ (∀ j, 0 < j → j < hs.length → (j - 1) / 2 = i → 0 < i → ¬ Bt (at' hs j) (at' hs ((i - 1) / 2)))
theorem at_snoc_lt {hs : List R} (x : R) {i : Nat} (h : i < hs.length) : at' (hs ++ [x]) i = at' hs i := by
  unfold at'; rw [List.getD_eq_getElem?_getD, List.getD_eq_getElem?_getD, List.getElem?_append_left h]
theorem up_start {hs : List R} (h : Heap hs) (x : R) : UpI (hs ++ [x]) hs.length := by
  refine ⟨fun j h0 hj hne => ?_, fun j h0 hj he hi => ?_⟩
  · rw [List.length_append, List.length_singleton] at hj
    rw [at_snoc_lt x (by omega), at_snoc_lt x (by omega)]
    exact h j h0 (by omega)
  · rw [List.length_append, List.length_singleton] at hj; omega
theorem up_done {hs : List R} {i : Nat} (h : UpI hs i) (he : i = 0 ∨ ¬ Bt (at' hs i) (at' hs ((i - 1) / 2))) : Heap hs := by
  intro j h0 hj
  by_cases e : j = i
  · subst e
    rcases he with he | he
    · omega
    · exact he
  · exact h.1 j h0 hj e
theorem up_step {hs : List R} {i : Nat} (h : UpI hs i) (h0 : 0 < i) (hi : i < hs.length) (hb : Bt (at' hs i) (at' hs ((i - 1) / 2))) : UpI (swp hs i ((i - 1) / 2)) ((i - 1) / 2) := by
  obtain ⟨p, hp⟩ : ∃ p, p = (i - 1) / 2 := ⟨_, rfl⟩
  rw [← hp] at hb ⊢
  have hpl : p < hs.length := by omega
  refine ⟨fun j h1 hj hne => ?_, fun j h1 hj he h2 => ?_⟩
  · rw [swp_len] at hj
    rw [swp_at hs hi hpl, swp_at hs hi hpl, if_neg hne]
    by_cases e1 : j = i
    · subst e1
      rw [if_pos rfl, ← hp, if_pos rfl]
      exact bt_no hb
    · rw [if_neg e1]
      by_cases e2 : (j - 1) / 2 = p
      · rw [if_pos e2]
        have := h.1 j h1 hj e1
        rw [e2] at this
        exact no_trans (bt_no hb) this
      · rw [if_neg e2]
        by_cases e3 : (j - 1) / 2 = i
        · rw [if_pos e3]
          have := h.2 j h1 hj e3 h0
          rw [← hp] at this; exact this
        · rw [if_neg e3]; exact h.1 j h1 hj e1
  · rw [swp_len] at hj
    rw [swp_at hs hi hpl, swp_at hs hi hpl, if_neg (by omega : ¬ j = p), if_neg (by omega : ¬ (p - 1) / 2 = p), if_neg (by omega : ¬ (p - 1) / 2 = i)]
    have hpp := h.1 p h2 hpl (by omega)
    by_cases e1 : j = i
    · rw [if_pos e1]; exact hpp
    · rw [if_neg e1]
      have := h.1 j h1 hj e1
      rw [he] at this
      exact no_trans hpp this
theorem heap_top {hs : List R} (h : Heap hs) : ∀ n i, i ≤ n → i < hs.length → ¬ Bt (at' hs i) (at' hs 0) := by
  intro n
  induction n with
  | zero => intro i h0 hi; obtain rfl : i = 0 := by omega
            exact no_self _
  | succ n ih =>
    intro i h0 hi
    by_cases e : i = 0
    · subst e; exact no_self _
    · exact no_trans (ih ((i - 1) / 2) (by omega) (by omega)) (h i (by omega) hi)
theorem heap_min {hs : List R} (h : Heap hs) {x : R} (hx : x ∈ hs) : ¬ Bt x (at' hs 0) := by
  obtain ⟨i, hi, rfl⟩ := mem_at hx
  exact heap_top h i i (Nat.le_refl _) hi
/-- A heap's first and last one change places, and the last goes. -/
def cutL (hs : List R) : List R := (swp hs 0 (hs.length - 1)).take (hs.length - 1)
theorem cut_len {hs : List R} : (cutL hs).length = hs.length - 1 := by unfold cutL; rw [List.length_take, swp_len]; omega
theorem cut_at {hs : List R} {k : Nat} (hk : k < hs.length - 1) : at' (cutL hs) k = if k = 0 then at' hs (hs.length - 1) else at' hs k := by
  have : at' (cutL hs) k = at' (swp hs 0 (hs.length - 1)) k := by
    unfold cutL at'; rw [List.getD_eq_getElem?_getD, List.getD_eq_getElem?_getD, List.getElem?_take, if_pos hk]
  rw [this, swp_at hs (by omega) (by omega), if_neg (by omega)]
theorem cut_dn {hs : List R} (h : Heap hs) : DnI (cutL hs) 0 := by
  refine ⟨fun j h0 hj hne => ?_, fun j h0 hj he hi => by omega⟩
  rw [cut_len] at hj
  rw [cut_at hj, cut_at (by omega), if_neg (by omega), if_neg hne]
  exact h j h0 (by omega)
theorem cut_mem {hs : List R} {x : R} (h : x ∈ cutL hs) : x ∈ hs := by
  obtain ⟨k, hk, rfl⟩ := mem_at h
  rw [cut_len] at hk
  rw [cut_at hk]
  split
  · exact at_mem (by omega)
  · exact at_mem (by omega)
theorem mem_cut {hs : List R} {x : R} (h : x ∈ hs) : x = at' hs 0 ∨ x ∈ cutL hs := by
  obtain ⟨k, hk, rfl⟩ := mem_at h
  by_cases h0 : k = 0
  · subst h0; exact .inl rfl
  · right
    by_cases e : k = hs.length - 1
    · subst e
      have := at_mem (hs := cutL hs) (i := 0) (by rw [cut_len]; omega)
      rw [cut_at (by omega), if_pos rfl] at this; exact this
    · have := at_mem (hs := cutL hs) (i := k) (by rw [cut_len]; omega)
      rw [cut_at (by omega), if_neg h0] at this; exact this
/-- The first of one and of those below it. -/
def fst1 (hs : List R) (i b : Nat) (f : Nat) : Nat := if b < hs.length ∧ btB (at' hs b) (at' hs f) = true then b else f
def fstOf (hs : List R) (i : Nat) : Nat := fst1 hs i (2 * i + 2) (fst1 hs i (2 * i + 1) i)
theorem fst_cases (hs : List R) {i : Nat} (hi : i < hs.length) :
    (fstOf hs i = i ∨ (fstOf hs i = 2 * i + 1 ∨ fstOf hs i = 2 * i + 2) ∧ fstOf hs i < hs.length ∧ Bt (at' hs (fstOf hs i)) (at' hs i)) ∧ (∀ j, 0 < j → j < hs.length → (j - 1) / 2 = i → ¬ Bt (at' hs j) (at' hs (fstOf hs i))) := by
  have hj : ∀ j, 0 < j → (j - 1) / 2 = i → j = 2 * i + 1 ∨ j = 2 * i + 2 := fun j h0 h => by omega
  unfold fstOf fst1
  by_cases h1 : 2 * i + 1 < hs.length ∧ btB (at' hs (2 * i + 1)) (at' hs i) = true
  · rw [if_pos h1]
    have b1 := btB_iff.1 h1.2
    by_cases h2 : 2 * i + 2 < hs.length ∧ btB (at' hs (2 * i + 2)) (at' hs (2 * i + 1)) = true
    · rw [if_pos h2]
      have b2 := btB_iff.1 h2.2
      refine ⟨.inr ⟨.inr rfl, h2.1, by unfold Bt at *; omega⟩, fun j h0 hl hp => ?_⟩
      rcases hj j h0 hp with rfl | rfl
      · exact bt_no b2
      · exact no_self _
    · rw [if_neg h2]
      refine ⟨.inr ⟨.inl rfl, h1.1, b1⟩, fun j h0 hl hp => ?_⟩
      rcases hj j h0 hp with rfl | rfl
      · exact no_self _
      · intro hb; exact h2 ⟨hl, btB_iff.2 hb⟩
  · rw [if_neg h1]
    by_cases h2 : 2 * i + 2 < hs.length ∧ btB (at' hs (2 * i + 2)) (at' hs i) = true
    · rw [if_pos h2]
      have b2 := btB_iff.1 h2.2
      refine ⟨.inr ⟨.inr rfl, h2.1, b2⟩, fun j h0 hl hp => ?_⟩
      rcases hj j h0 hp with rfl | rfl
      · have : ¬ Bt (at' hs (2 * i + 1)) (at' hs i) := fun hb => h1 ⟨hl, btB_iff.2 hb⟩
        exact no_trans (bt_no b2) this
      · exact no_self _
    · rw [if_neg h2]
      refine ⟨.inl rfl, fun j h0 hl hp => ?_⟩
      rcases hj j h0 hp with rfl | rfl
      · exact fun hb => h1 ⟨hl, btB_iff.2 hb⟩
      · exact fun hb => h2 ⟨hl, btB_iff.2 hb⟩
theorem dn_done {hs : List R} {i : Nat} (h : DnI hs i) (hi : i < hs.length) (he : fstOf hs i = i) : Heap hs := by
  intro j h0 hj
  by_cases e : (j - 1) / 2 = i
  · have := (fst_cases hs hi).2 j h0 hj e
    rw [he] at this; rw [e]; exact this
  · exact h.1 j h0 hj e
theorem dn_step {hs : List R} {i k : Nat} (h : DnI hs i) (hi : i < hs.length) (hk : fstOf hs i = k) (hne : k ≠ i) : i < k ∧ k < hs.length ∧ DnI (swp hs i k) k := by
  obtain ⟨h1, h2⟩ := fst_cases hs hi
  rw [hk] at h1 h2
  rcases h1 with h1 | ⟨h1, h3, h4⟩
  · exact absurd h1 hne
  have hik : i < k := by omega
  have hpk : (k - 1) / 2 = i := by omega
  refine ⟨hik, h3, fun j h0 hj hp => ?_, fun j h0 hj hp hi0 => ?_⟩
  · rw [swp_len] at hj
    rw [swp_at hs hi h3, swp_at hs hi h3]
    by_cases e1 : j = k
    · subst e1
      rw [if_pos rfl, hpk, if_neg (by omega : ¬ i = j), if_pos rfl]
      exact bt_no h4
    · rw [if_neg e1]
      by_cases e2 : j = i
      · subst e2
        rw [if_pos rfl, if_neg (by omega : ¬ (j - 1) / 2 = k), if_neg (by omega : ¬ (j - 1) / 2 = j)]
        exact h.2 k (by omega) h3 hpk (by omega)
      · rw [if_neg e2]
        by_cases e3 : (j - 1) / 2 = i
        · rw [if_neg (by omega : ¬ (j - 1) / 2 = k), if_pos e3]
          exact h2 j h0 hj e3
        · rw [if_neg hp, if_neg e3]
          exact h.1 j h0 hj e3
  · rw [swp_len] at hj
    rw [swp_at hs hi h3, swp_at hs hi h3, hpk, if_neg (by omega : ¬ j = k), if_neg (by omega : ¬ j = i), if_neg (by omega : ¬ i = k), if_pos rfl]
    have := h.1 j h0 hj (by omega)
    rw [hp] at this; exact this
end Wd
namespace Wd
open Ro
def zl (f : Int) : R := ⟨f, 0, 0, 0⟩
/-- Whose best way is known (W), and what ways lie open (H). -/
structure Inv (g : List Tu.R) (f : Int) (W : Int → Option R) (H : R → Prop) : Prop where
  st : W f = some (zl f) ∨ (∀ v, W v = none) ∧ (∀ x, H x → x = zl f) ∧ H (zl f)
  too : ∀ v x, W v = some x → x.ds = v ∧ 0 ≤ x.co ∧ 0 ≤ x.hp
  fr : ∀ v x, W v = some x → v ≠ f → ∃ u y c, W u = some y ∧ Ed g u v c ∧ x = ext y v c
  hp : ∀ x, H x → x = zl f ∨ ∃ u y c, W u = some y ∧ Ed g u x.ds c ∧ x = ext y x.ds c
  ge : ∀ x, H x → ∀ v y, W v = some y → ¬ Bt x y
  le : ∀ u y v c, W u = some y → Ed g u v c → (∃ x, H x ∧ x.ds = v ∧ ¬ Bt (ext y v c) x) ∨ (∃ x, W v = some x ∧ ¬ Bt (ext y v c) x)
def upW (W : Int → Option R) (x : R) : Int → Option R := fun v => if v = x.ds then some x else W v
theorem ext_no {x : R} {v c : Int} (h : 1 ≤ c) : ¬ Bt (ext x v c) x := by unfold ext Bt; dsimp only; omega
theorem inv_start (g : List Tu.R) (f : Int) : Inv g f (fun _ => none) (fun x => x = zl f) :=
  ⟨.inr ⟨fun _ => rfl, fun _ h => h, rfl⟩, fun _ _ h => (by cases h), fun _ _ h => (by cases h), fun _ h => .inl h, fun _ _ _ _ h => (by cases h), fun _ _ _ _ h => (by cases h)⟩
theorem inv_ge0 {g : List Tu.R} (hp : Pos g) {f : Int} {W : Int → Option R} {H : R → Prop} (h : Inv g f W H) {x : R} (hx : H x) : 0 ≤ x.co ∧ 0 ≤ x.hp := by
  rcases h.hp x hx with rfl | ⟨u, y, c, hu, he, e⟩
  · exact ⟨Int.le_refl _, Int.le_refl _⟩
  · have := (h.too u y hu).2; have := ed_pos hp he
    rw [e]; unfold ext; dsimp only; omega
theorem inv_skip {g : List Tu.R} {f : Int} {W : Int → Option R} {H H' : R → Prop} (h : Inv g f W H) {b z : R} (hb : H b) (hz : W b.ds = some z)
    (h1 : ∀ x, H x → x = b ∨ H' x) (h2 : ∀ x, H' x → H x) : Inv g f W H' := by
  refine ⟨?_, h.too, h.fr, fun x hx => h.hp x (h2 x hx), fun x hx => h.ge x (h2 x hx), ?_⟩
  · rcases h.st with e | ⟨e, _, _⟩
    · exact .inl e
    · rw [e b.ds] at hz; cases hz
  · intro u y v c hu he
    rcases h.le u y v c hu he with ⟨x, hx, hd, hn⟩ | hr
    · rcases h1 x hx with rfl | hx'
      · exact .inr ⟨z, by rw [← hd]; exact hz, no_trans (h.ge x hx _ _ hz) hn⟩
      · exact .inl ⟨x, hx', hd, hn⟩
    · exact .inr hr
theorem inv_new {g : List Tu.R} (hp : Pos g) {f : Int} {W : Int → Option R} {H H' : R → Prop} (h : Inv g f W H) {b : R} (hb : H b) (hz : W b.ds = none)
    (hmin : ∀ x, H x → ¬ Bt x b)
    (h2 : ∀ x, H' x → H x ∨ ∃ c, Ed g b.ds x.ds c ∧ x = ext b x.ds c)
    (h1 : ∀ x, H x → x = b ∨ x.ds = b.ds ∨ ∃ x', H' x' ∧ x'.ds = x.ds ∧ ¬ Bt x x')
    (h3 : ∀ v c, Ed g b.ds v c → (∃ x, H' x ∧ x.ds = v ∧ ¬ Bt (ext b v c) x) ∨ (∃ y, upW W b v = some y)) : Inv g f (upW W b) H' := by
  have hge := inv_ge0 hp h hb
  have hbp : (b = zl f ∧ ∀ v, W v = none) ∨ (b.ds ≠ f ∧ W f = some (zl f) ∧ ∃ u y c, W u = some y ∧ Ed g u b.ds c ∧ b = ext y b.ds c) := by
    rcases h.st with e | ⟨e, e2, _⟩
    · have hne : b.ds ≠ f := fun hh => by rw [hh, e] at hz; cases hz
      rcases h.hp b hb with e3 | e3
      · rw [e3] at hne; exact absurd rfl hne
      · exact .inr ⟨hne, e, e3⟩
    · exact .inl ⟨e2 b hb, e⟩
  have keep : ∀ {v x}, W v = some x → upW W b v = some x := fun {v x} hv => by
    unfold upW; rw [if_neg (fun e => by rw [e, hz] at hv; cases hv)]; exact hv
  have self : upW W b b.ds = some b := by unfold upW; rw [if_pos rfl]
  have split : ∀ {v x}, upW W b v = some x → (v = b.ds ∧ x = b) ∨ W v = some x := fun {v x} hv => by
    unfold upW at hv; split at hv
    · cases hv; exact .inl ⟨by assumption, rfl⟩
    · exact .inr hv
  have geb : ∀ v y, upW W b v = some y → ¬ Bt b y := fun v y hv => by
    rcases split hv with ⟨_, rfl⟩ | hv
    · exact no_self _
    · exact h.ge b hb v y hv
  refine ⟨?_, ?_, ?_, ?_, ?_, ?_⟩
  · left
    rcases hbp with ⟨e, _⟩ | ⟨_, e, _⟩
    · have : b.ds = f := by rw [e]; rfl
      unfold upW; rw [if_pos this.symm, e]
    · exact keep e
  · intro v x hv
    rcases split hv with ⟨rfl, rfl⟩ | hv
    · exact ⟨rfl, hge⟩
    · exact h.too v x hv
  · intro v x hv hvf
    rcases split hv with ⟨rfl, rfl⟩ | hv
    · rcases hbp with ⟨e, _⟩ | ⟨_, _, u, y, c, hu, he, e⟩
      · exact absurd (by rw [e]; rfl) hvf
      · exact ⟨u, y, c, keep hu, he, e⟩
    · obtain ⟨u, y, c, hu, he, e⟩ := h.fr v x hv hvf
      exact ⟨u, y, c, keep hu, he, e⟩
  · intro x hx
    rcases h2 x hx with hx | ⟨c, he, e⟩
    · rcases h.hp x hx with e | ⟨u, y, c, hu, he, e⟩
      · exact .inl e
      · exact .inr ⟨u, y, c, keep hu, he, e⟩
    · exact .inr ⟨b.ds, b, c, self, he, e⟩
  · intro x hx v y hv
    rcases h2 x hx with hx | ⟨c, he, e⟩
    · rcases split hv with ⟨_, rfl⟩ | hv
      · exact hmin x hx
      · exact h.ge x hx v y hv
    · rw [e]; exact no_trans (geb v y hv) (ext_no (ed_pos hp he))
  · intro u y v c hu he
    rcases split hu with ⟨rfl, rfl⟩ | hu
    · rcases h3 v c he with hr | ⟨z, hz'⟩
      · exact .inl hr
      · exact .inr ⟨z, hz', no_trans (geb v z hz') (ext_no (ed_pos hp he))⟩
    · rcases h.le u y v c hu he with ⟨x, hx, hd, hn⟩ | ⟨x, hv, hn⟩
      · rcases h1 x hx with rfl | e | ⟨x', hx', hd', hn'⟩
        · exact .inr ⟨x, by rw [← hd]; exact self, hn⟩
        · exact .inr ⟨b, by rw [← hd, e]; exact self, no_trans (hmin x hx) hn⟩
        · exact .inl ⟨x', hx', hd'.trans hd, no_trans hn' hn⟩
      · exact .inr ⟨x, keep hv, hn⟩
theorem inv_done {g : List Tu.R} {f : Int} {W : Int → Option R} {H : R → Prop} (h : Inv g f W H) (he : ∀ x, ¬ H x) : Good g f W := by
  refine ⟨?_, h.too, h.fr, ?_⟩
  · rcases h.st with e | ⟨_, _, e⟩
    · exact e
    · exact absurd e (he _)
  · intro u y v c hu hE
    rcases h.le u y v c hu hE with ⟨x, hx, _⟩ | hr
    · exact absurd hx (he x)
    · exact hr
/-- How many addresses are known; hops and costs are bounded by it. -/
def cntW (W : Int → Option R) : Nat := (if (W 1).isSome then 1 else 0) + (if (W 2).isSome then 1 else 0) + (if (W 3).isSome then 1 else 0) + (if (W 4).isSome then 1 else 0) + (if (W 5).isSome then 1 else 0) + (if (W 6).isSome then 1 else 0) + (if (W 7).isSome then 1 else 0) + (if (W 8).isSome then 1 else 0)
theorem cnt_le (W : Int → Option R) : cntW W ≤ 8 := by
  have h : ∀ b : Bool, (if b = true then 1 else 0) ≤ 1 := fun b => by cases b <;> simp
  unfold cntW
  have := h (W 1).isSome; have := h (W 2).isSome; have := h (W 3).isSome; have := h (W 4).isSome
  have := h (W 5).isSome; have := h (W 6).isSome; have := h (W 7).isSome; have := h (W 8).isSome
  omega
theorem cnt_none (W : Int → Option R) (h : ∀ v, W v = none) : cntW W = 0 := by unfold cntW; simp [h]
theorem up_same (W : Int → Option R) (b : R) : upW W b b.ds = some b := by unfold upW; rw [if_pos rfl]
theorem up_other {W : Int → Option R} {b : R} {v : Int} (h : v ≠ b.ds) : upW W b v = W v := by unfold upW; rw [if_neg h]
theorem cnt_up {W : Int → Option R} {b : R} (h1 : 1 ≤ b.ds) (h8 : b.ds ≤ 8) (hz : W b.ds = none) : cntW (upW W b) = cntW W + 1 := by
  have hs := up_same W b
  obtain ⟨d, hd⟩ : ∃ d, b.ds = d := ⟨_, rfl⟩
  rw [hd] at h1 h8 hz hs
  have ho : ∀ v, v ≠ d → upW W b v = W v := fun v hv => up_other (by rw [hd]; exact hv)
  have hc : d = 1 ∨ d = 2 ∨ d = 3 ∨ d = 4 ∨ d = 5 ∨ d = 6 ∨ d = 7 ∨ d = 8 := by omega
  unfold cntW
  rcases hc with rfl | rfl | rfl | rfl | rfl | rfl | rfl | rfl
  · rw [hs, hz, ho 2 (by omega), ho 3 (by omega), ho 4 (by omega), ho 5 (by omega), ho 6 (by omega), ho 7 (by omega), ho 8 (by omega)]; simp <;> omega
  · rw [hs, hz, ho 1 (by omega), ho 3 (by omega), ho 4 (by omega), ho 5 (by omega), ho 6 (by omega), ho 7 (by omega), ho 8 (by omega)]; simp <;> omega
  · rw [hs, hz, ho 1 (by omega), ho 2 (by omega), ho 4 (by omega), ho 5 (by omega), ho 6 (by omega), ho 7 (by omega), ho 8 (by omega)]; simp <;> omega
  · rw [hs, hz, ho 1 (by omega), ho 2 (by omega), ho 3 (by omega), ho 5 (by omega), ho 6 (by omega), ho 7 (by omega), ho 8 (by omega)]; simp <;> omega
  · rw [hs, hz, ho 1 (by omega), ho 2 (by omega), ho 3 (by omega), ho 4 (by omega), ho 6 (by omega), ho 7 (by omega), ho 8 (by omega)]; simp <;> omega
  · rw [hs, hz, ho 1 (by omega), ho 2 (by omega), ho 3 (by omega), ho 4 (by omega), ho 5 (by omega), ho 7 (by omega), ho 8 (by omega)]; simp <;> omega
  · rw [hs, hz, ho 1 (by omega), ho 2 (by omega), ho 3 (by omega), ho 4 (by omega), ho 5 (by omega), ho 6 (by omega), ho 8 (by omega)]; simp <;> omega
  · rw [hs, hz, ho 1 (by omega), ho 2 (by omega), ho 3 (by omega), ho 4 (by omega), ho 5 (by omega), ho 6 (by omega), ho 7 (by omega)]; simp <;> omega
/-- Bounds: a way that is known, or open, has at most as many hops as there are known ones, and ends at an address. -/
def okN (n : Nat) (x : R) : Prop := 1 ≤ x.ds ∧ x.ds ≤ 8 ∧ 0 ≤ x.nx ∧ x.nx ≤ 8 ∧ 0 ≤ x.hp ∧ x.hp ≤ n ∧ 0 ≤ x.co ∧ x.co ≤ 1073741824 * n ∧ (x.hp = 0 ∨ 1 ≤ x.nx)
theorem okN_mono {n m : Nat} (h : n ≤ m) {x : R} (hx : okN n x) : okN m x := by unfold okN at *; omega
theorem okN_ext {n : Nat} {x : R} (hx : okN n x) {v c : Int} (hv : 1 ≤ v ∧ v ≤ 8) (hc : 0 ≤ c ∧ c ≤ 1073741824) : okN (n + 1) (ext x v c) := by
  unfold okN ext at *
  dsimp only
  split <;> omega
theorem okN_zl {f : Int} (h : 1 ≤ f ∧ f ≤ 8) : okN 0 (zl f) := by unfold okN zl; dsimp only; omega
/-- The best ways. -/
noncomputable def best (g : List Tu.R) (f : Int) : Int → Option R := by
  classical
  exact if h : ∃ L, Good g f L then h.choose else fun _ => none
theorem best_is {g : List Tu.R} (hp : Pos g) {f : Int} {L : Int → Option R} (h : Good g f L) : L = best g f := by
  have hx : ∃ L, Good g f L := ⟨L, h⟩
  have e : best g f = hx.choose := by unfold best; rw [dif_pos hx]
  rw [e]
  exact funext (best_one hp h hx.choose_spec)
end Wd
end Go.Proofs.YtfooahhdikobeaaGreat
namespace Go.Proofs.YtfooahhdikobeaaGreat
open Go.ChangeShapes Go.WideShapes Go.ChangeAt Go.RowKit
set_option linter.unusedVariables false
set_option linter.unusedSimpArgs false
set_option maxRecDepth 100000
attribute [local go_sem ↓] Go.wp_at_zero Go.wp_at_succ
namespace Wd
open W1 Tu St Tw
/-- The first j values are from 1 on; whether a graph is right; the code of one and an address. -/
def posJ (g : List Tu.R) (j : Nat) : Bool := (g.take j).all (fun m => decide (1 ≤ m.val))
def graphB (g : List Tu.R) : Bool := twoB g && posJ g g.length
def codeG (g : List Tu.R) (f : Int) : Int := if 4096 < (g.length : Int) then 2 else if graphB g = true then (if inB f 1 8 = true then 0 else 4) else 1
theorem pos_zero (g : List Tu.R) : posJ g 0 = true := rfl
theorem pos_succ {g : List Tu.R} {j : Nat} (hj : j < g.length) (h : posJ g j = true) (hk : 1 ≤ (g.getD j Tu.R.zero).val) : posJ g (j + 1) = true := by
  unfold posJ at *; rw [take_one hj, List.all_append, h, Bool.true_and, List.all_cons, decide_eq_true hk]; rfl
theorem pos_no {g : List Tu.R} {j : Nat} (hj : j < g.length) (hk : (g.getD j Tu.R.zero).val < 1) : graphB g = false := by
  have : posJ g g.length = false := by
    unfold posJ; rw [List.take_length, List.all_eq_false]
    exact ⟨_, getD_mem hj, by show ¬ decide (1 ≤ (g.getD j Tu.R.zero).val) = true; rw [decide_eq_false (by omega)]; simp⟩
  unfold graphB; rw [this, Bool.and_false]
theorem graph_two {g : List Tu.R} (h : graphB g = true) : twoB g = true := by unfold graphB at h; rw [Bool.and_eq_true] at h; exact h.1
theorem graph_pos {g : List Tu.R} (h : graphB g = true) : Pos g := by
  unfold graphB at h; rw [Bool.and_eq_true] at h
  intro m hm
  have := h.2
  unfold posJ at this
  rw [List.take_length] at this
  simpa using List.all_eq_true.1 this m hm
theorem graph_of {g : List Tu.R} (h : twoB g = true) (hp : Pos g) : graphB g = true := by
  unfold graphB posJ; rw [h, List.take_length, Bool.true_and]
  exact List.all_eq_true.2 (fun m hm => decide_eq_true (hp m hm))
theorem codeG_long {g : List Tu.R} {f : Int} (h : 4096 < (g.length : Int)) : codeG g f = 2 := by unfold codeG; rw [if_pos h]
theorem codeG_bad {g : List Tu.R} {f : Int} (h : ¬ 4096 < (g.length : Int)) (hg : graphB g = false) : codeG g f = 1 := by unfold codeG; rw [if_neg h, if_neg (by rw [hg]; simp)]
theorem codeG_range {g : List Tu.R} {f : Int} (h : ¬ 4096 < (g.length : Int)) (hg : graphB g = true) (hf : inB f 1 8 = false) : codeG g f = 4 := by unfold codeG; rw [if_neg h, if_pos hg, if_neg (by rw [hf]; simp)]
theorem codeG_zero {g : List Tu.R} {f : Int} (hg : graphB g = true) (hf : inB f 1 8 = true) : codeG g f = 0 := by
  have := two_len (graph_two hg); unfold codeG; rw [if_neg (by omega), if_pos hg, if_pos hf]
theorem codeG_ok {g : List Tu.R} {f : Int} (h : codeG g f = 0) : graphB g = true ∧ 1 ≤ f ∧ f ≤ 8 := by
  unfold codeG at h
  split at h
  · omega
  · split at h
    · split at h
      · refine ⟨by assumption, ?_⟩; rename_i hf; simpa [inB] using hf
      · omega
    · omega
theorem ed_rng {g : List Tu.R} (h : twoB g = true) {u v c : Int} (he : Ed g u v c) : (1 ≤ u ∧ u ≤ 8) ∧ (1 ≤ v ∧ v ≤ 8) ∧ u ≠ v ∧ 0 ≤ c ∧ c ≤ 1073741824 := by
  obtain ⟨m, hm, rfl, rfl, rfl⟩ := he
  have hk := ok_k (two_ok h m hm)
  obtain ⟨i, hi, rfl⟩ := List.getElem_of_mem hm
  have hb := ok_bounds (setB_ok (two_set h) hi)
  rw [show g.getD i Tu.R.zero = g[i] by rw [List.getD_eq_getElem?_getD, List.getElem?_eq_getElem hi]; rfl] at hb
  exact ⟨hk.1, hk.2.1, hk.2.2, by omega⟩
set_option maxHeartbeats 4000000 in
theorem implGraphOK (a : Option Addr) (ms : List Tu.R) (cap : Nat) (w : World) (hm : ms.length ≤ 1048576) (hr : Tu.RM w a ms) :
    Calls Tryz.prog 157 #[.slice a ms.length cap] w fun e w' => e = .returned (.bool (graphB ms)) ∧ Below w.heap.size w w' := by
  have HR := hide hr
  clear hr
  cases hs : twoB ms
  · rw [show graphB ms = false by unfold graphB; rw [hs]; rfl]
    have HS := hide hs
    clear hs
    go_enter Tryz.func157, Tryz.ntmps157
    go_wp2_with fail
    refine (areHops _ ms cap _ hm (unhide HR)).mono ?_
    rintro e w1 ⟨rfl, b1⟩
    rw [unhide HS]
    have HB := hide b1
    clear b1
    go_wp2_with fail
    go_ret
    exact ⟨rfl, unhide HB⟩
  have HS := hide hs
  clear hs
  obtain ⟨G, hG⟩ : ∃ G, graphB ms = G := ⟨_, rfl⟩
  have HG := hide hG
  rw [hG]
  clear hG
  generalize hN : ms.length = n at *
  have HN := hide hN
  clear hN
  go_enter Tryz.func157, Tryz.ntmps157
  go_wp2_with fail
  rw [← unhide HN]
  refine (areHops _ ms cap _ (by have := unhide HN; omega) (unhide HR)).mono ?_
  rintro e w1 ⟨rfl, b1⟩
  rw [unhide HS]
  have HB1 := hide b1
  clear b1
  go_wp2_with fail
  rw [unhide HN]
  go_loopw [10] (fun i wr => ∃ j : Nat, j ≤ n ∧ i = .int .i64 j ∧ Hid (posJ ms j = true) ∧ Hid (Below w.heap.size w wr)) (fun i _ => n - (intOf i).toNat)
  case atStart => exact ⟨0, by omega, rfl, hide (pos_zero ms), HB1⟩
  case round =>
    obtain ⟨j, hj, rfl, hkb, hbl⟩ := hrel
    by_cases hlt : (j : Int) < (n : Int)
    · have k0 : (0 : Int) ≤ (j : Int) := by omega
      have hlen : j < ms.length := by rw [unhide HN]; omega
      obtain ⟨g, off, rfl⟩ := (unhide HR).form (by omega)
      obtain ⟨c0, c1, c2⟩ := ((unhide HR).below (unhide hbl)).at hlen
      have hbs := (unhide hbl).size
      have HY : Hid (1 ≤ (ms.getD j Tu.R.zero).val → posJ ms (j + 1) = true) := hide (fun h => pos_succ hlen (unhide hkb) h)
      have HZ : Hid ((ms.getD j Tu.R.zero).val < 1 → G = false) := hide (fun h => by rw [← unhide HG]; exact pos_no hlen h)
      generalize ms.getD j Tu.R.zero = m at *
      obtain ⟨key, til, val⟩ := m
      dsimp only at c0 c1 c2 HY HZ
      have HBA := hide ((unhide hbl).alloc hbs (.cells #[.int .i64 key, .int .i64 til, .int .i64 val] 99))
      by_cases hv : val < 1
      · have HT := hide (unhide HZ hv)
        go_wp2_with fail
        go_ret
        exact ⟨ret_bool (unhide HT).symm, unhide HBA⟩
      · have HT := hide (unhide HY (by omega))
        go_wp2_with fail
        go_roundw
        case rel => exact ⟨j + 1, by omega, by go_num, HT, HBA⟩
        case measure => simp [intOf]; omega
    · obtain rfl : j = n := by omega
      have HT : Hid (G = true) := hide (by rw [← unhide HG]; unfold graphB; rw [unhide HS, unhide HN, unhide hkb]; rfl)
      go_wp2_with fail
      go_ret
      exact ⟨ret_bool (unhide HT).symm, unhide hbl⟩
set_option maxHeartbeats 2000000 in
theorem graphCode (a : Option Addr) (ms : List Tu.R) (cap : Nat) (f : Int) (w : World) (hm : ms.length ≤ 1048576) (hr : Tu.RM w a ms) :
    Calls Tryz.prog 116 #[.slice a ms.length cap, .int .i64 f] w fun e w' => e = .returned (.int .i64 (codeG ms f)) ∧ Below w.heap.size w w' := by
  have HR := hide hr
  clear hr
  by_cases hbig : (4096 : Int) < ms.length
  · rw [codeG_long hbig]
    go_enter Tryz.func116, Tryz.ntmps116
    go_wp2_with fail
    go_ret
    exact ⟨rfl, Below.refl _ _⟩
  cases hs : graphB ms
  · rw [codeG_bad hbig hs]
    have HS := hide hs
    clear hs
    go_enter Tryz.func116, Tryz.ntmps116
    go_wp2_with fail
    refine (implGraphOK _ ms cap _ hm (unhide HR)).mono ?_
    rintro e w1 ⟨rfl, b1⟩
    rw [unhide HS]
    have HB := hide b1
    clear b1
    go_wp2_with fail
    go_ret
    exact ⟨rfl, unhide HB⟩
  cases hf : inB f 1 8
  · rw [codeG_range hbig hs hf]
    have HS := hide hs
    clear hs
    go_enter Tryz.func116, Tryz.ntmps116
    go_wp2_with fail
    refine (implGraphOK _ ms cap _ hm (unhide HR)).mono ?_
    rintro e w1 ⟨rfl, b1⟩
    rw [unhide HS]
    have HB := hide b1
    clear b1
    go_wp2_with (go_at_call 109; refine (isAddress _ _).mono ?_; rintro e w' ⟨rfl, rfl⟩)
    go_ret
    exact ⟨rfl, unhide HB⟩
  rw [codeG_zero hs hf]
  have HS := hide hs
  clear hs
  go_enter Tryz.func116, Tryz.ntmps116
  go_wp2_with fail
  refine (implGraphOK _ ms cap _ hm (unhide HR)).mono ?_
  rintro e w1 ⟨rfl, b1⟩
  rw [unhide HS]
  have HB := hide b1
  clear b1
  go_wp2_with (go_at_call 109; refine (isAddress _ _).mono ?_; rintro e w' ⟨rfl, rfl⟩)
  go_ret
  exact ⟨rfl, unhide HB⟩
end Wd
end Go.Proofs.YtfooahhdikobeaaGreat
namespace Go.Proofs.YtfooahhdikobeaaGreat
open Go.ChangeShapes Go.WideShapes Go.ChangeAt Go.RowKit
set_option linter.unusedVariables false
set_option linter.unusedSimpArgs false
set_option maxRecDepth 100000
attribute [local go_sem ↓] Go.wp_at_zero Go.wp_at_succ
namespace Nt
open W1 Tu St Tw
/-- Whether the way at a place is there in both directions; its tuple; those of the first t places. -/
def tgO (cs : List Int) (n t : Nat) : Bool := decide (0 < cs.getD t 0) && decide (0 < cs.getD (t % n * n + t / n) 0)
def tgX (cs : List Int) (n t : Nat) : Tu.R := ⟨((100 * (t / n + 1) + (t % n + 1) : Nat) : Int), 0, cs.getD t 0⟩
def tgL (cs : List Int) (n : Nat) : Nat → List Tu.R
  | 0 => []
  | t + 1 => if tgO cs n t = true then tgL cs n t ++ [tgX cs n t] else tgL cs n t
theorem tg_nums {n : Nat} (h1 : 1 ≤ n) (h6 : n ≤ 6) : (∀ i j, i < j → j < n * n → 100 * (i / n + 1) + (i % n + 1) < 100 * (j / n + 1) + (j % n + 1)) ∧ ∀ t, t < n * n → t / n < n ∧ t % n < n := by
  have hn : n = 1 ∨ n = 2 ∨ n = 3 ∨ n = 4 ∨ n = 5 ∨ n = 6 := by omega
  rcases hn with rfl | rfl | rfl | rfl | rfl | rfl <;> exact ⟨fun i j hij hj => by omega, fun t ht => by omega⟩
theorem tgL_mem {cs : List Int} {n : Nat} {m : Tu.R} : ∀ {t : Nat}, m ∈ tgL cs n t → ∃ i, i < t ∧ tgO cs n i = true ∧ m = tgX cs n i
  | 0, h => by simp [tgL] at h
  | t + 1, h => by
    unfold tgL at h
    split at h
    · rename_i ho
      rcases List.mem_append.1 h with h | h
      · obtain ⟨i, hi, h1, h2⟩ := tgL_mem h; exact ⟨i, by omega, h1, h2⟩
      · exact ⟨t, by omega, ho, by simpa using h⟩
    · obtain ⟨i, hi, h1, h2⟩ := tgL_mem h; exact ⟨i, by omega, h1, h2⟩
theorem tgL_len (cs : List Int) (n : Nat) : ∀ t, (tgL cs n t).length ≤ t
  | 0 => Nat.le_refl _
  | t + 1 => by
    have := tgL_len cs n t
    unfold tgL
    split
    · rw [List.length_append, List.length_singleton]; omega
    · omega
theorem while_all {p : Tu.R → Bool} : ∀ {L : List Tu.R}, (∀ m ∈ L, p m = true) → L.takeWhile p = L
  | [], _ => rfl
  | m :: r, h => by rw [List.takeWhile_cons, if_pos (h m (List.mem_cons_self ..)), while_all (fun x hx => h x (List.mem_cons_of_mem _ hx))]
/-- What is put behind all others stands at the end. -/
theorem put_last {L : List Tu.R} {x : Tu.R} (h : ∀ m ∈ L, m.key < x.key) (hl : L.length < 64) : place L x.key = L.length ∧ thereB L x.key = false ∧ putL L x = L ++ [x] := by
  have e : place L x.key = L.length := by
    unfold place placeP
    rw [while_all (fun m hm => by have := h m hm; unfold atKey; simp; omega)]
  have et : thereB L x.key = false := by unfold thereB; rw [e, decide_eq_false (Nat.lt_irrefl _)]; rfl
  refine ⟨e, et, ?_⟩
  unfold putL
  rw [et, e]
  have h64 : ¬ L.length = 64 := by omega
  simp [h64]
theorem tg_lt {cs : List Int} {n t : Nat} (h1 : 1 ≤ n) (h6 : n ≤ 6) (ht : t < n * n) : ∀ m ∈ tgL cs n t, m.key < (tgX cs n t).key := fun m hm => by
  obtain ⟨i, hi, _, rfl⟩ := tgL_mem hm
  have := (tg_nums h1 h6).1 i t hi ht
  show ((100 * (i / n + 1) + (i % n + 1) : Nat) : Int) < ((100 * (t / n + 1) + (t % n + 1) : Nat) : Int)
  omega
theorem tg_short {cs : List Int} {n t : Nat} (h6 : n ≤ 6) (ht : t ≤ n * n) : (tgL cs n t).length ≤ 36 := by
  have := tgL_len cs n t
  have := Nat.mul_le_mul h6 h6
  omega
theorem tg_put {cs : List Int} {n t : Nat} (h1 : 1 ≤ n) (h6 : n ≤ 6) (ht : t < n * n) : putL (tgL cs n t) (tgX cs n t) = tgL cs n t ++ [tgX cs n t] :=
  (put_last (tg_lt h1 h6 ht) (by have := tg_short (cs := cs) h6 (Nat.le_of_lt ht); omega)).2.2
theorem tg_ok {cs : List Int} {n t : Nat} (h1 : 1 ≤ n) (h6 : n ≤ 6) (hc : costB cs n = true) (ht : t < n * n) (ho : tgO cs n t = true) : okR (tgX cs n t) = true ∧ okK (tgX cs n t) = true ∧ 1 ≤ (tgX cs n t).val := by
  unfold costB at hc
  simp only [Bool.and_eq_true, beq_iff_eq] at hc
  have hk := allI_at hc.2 (i := t) (by omega)
  unfold cok at hk
  unfold tgO at ho
  simp only [Bool.and_eq_true, Bool.or_eq_true, decide_eq_true_eq, inB, beq_iff_eq, Bool.not_eq_true', decide_eq_false_iff_not] at hk ho
  obtain ⟨k1, k2⟩ := (tg_nums h1 h6).2 t ht
  have hne : ¬ t / n = t % n := by rcases hk.2 with h | h <;> omega
  have hv1 : hv (tgX cs n t) = ((t / n + 1 : Nat) : Int) := by
    show (((100 * (t / n + 1) + (t % n + 1) : Nat) : Int)).tdiv 100 = _
    rw [Int.tdiv_eq_ediv_of_nonneg (by omega)]; omega
  have ha1 : ha (tgX cs n t) = ((t % n + 1 : Nat) : Int) := by
    show (((100 * (t / n + 1) + (t % n + 1) : Nat) : Int)).tmod 100 = _
    rw [Int.tmod_eq_emod_of_nonneg (by omega)]; omega
  refine ⟨?_, ?_, ?_⟩
  · unfold okR tgX inB
    simp only [Bool.and_eq_true, decide_eq_true_eq]
    omega
  · unfold okK
    rw [hv1, ha1]
    clear hv1 ha1
    generalize t / n = q at *
    generalize t % n = r at *
    simp only [inB, Bool.and_eq_true, decide_eq_true_eq, Bool.not_eq_true', beq_eq_false_iff_ne, ne_eq]
    omega
  · show 1 ≤ cs.getD t 0
    omega
theorem tg_two {cs : List Int} {n : Nat} (h1 : 1 ≤ n) (h6 : n ≤ 6) (hc : costB cs n = true) : ∀ t, t ≤ n * n → twoB (tgL cs n t) = true
  | 0, _ => rfl
  | t + 1, ht => by
    have ih := tg_two h1 h6 hc t (by omega)
    unfold tgL
    split
    · rename_i ho
      obtain ⟨k1, k2, _⟩ := tg_ok h1 h6 hc (by omega) ho
      rw [← tg_put h1 h6 (by omega)]
      exact two_put ih k1 k2
    · exact ih
/-- The true graph is a right one. -/
theorem tg_graph {cs : List Int} {n : Nat} (h1 : 1 ≤ n) (h6 : n ≤ 6) (hc : costB cs n = true) : Wd.graphB (tgL cs n (n * n)) = true :=
  Wd.graph_of (tg_two h1 h6 hc _ (Nat.le_refl _)) (fun m hm => by
    obtain ⟨i, hi, ho, rfl⟩ := tgL_mem hm
    exact (tg_ok h1 h6 hc hi ho).2.2)
end Nt
end Go.Proofs.YtfooahhdikobeaaGreat
namespace Go.Proofs.YtfooahhdikobeaaGreat
open Go.ChangeShapes Go.WideShapes Go.ChangeAt Go.RowKit
set_option linter.unusedVariables false
set_option linter.unusedSimpArgs false
set_option maxRecDepth 100000
attribute [local go_sem ↓] Go.wp_at_zero Go.wp_at_succ
namespace Nt
open W1 Rt
theorem own_bel {w w' : World} {base e k : Nat} {v : Value} {n : Nat} {xs : List Value} (h : w.ownsRow base e k v n xs) (hb : Below w.heap.size w w') : w'.ownsRow base e k v n xs :=
  h.kept (row := none) ⟨hb.os, hb.tape, hb.output, hb.size, fun k hk _ => hb.block k hk⟩ (by rcases hv : v.ownBlock with _ | g; exact .inl rfl; exact .inr (by simp))
theorem NB.under {w w' : World} {B b : Nat} {v1 v2 v3 : Value} {t : Int} (h : NB w b v1 v2 v3 t) (hb : Below B w w') (hg : b < B) : NB w' b v1 v2 v3 t := by
  obtain ⟨h0, h1, h2, h3⟩ := h
  refine ⟨?_, ?_, ?_, ?_⟩ <;> (rw [hb.cell (p := ⟨b, _, none⟩) hg]; assumption)
theorem tg_at {n A B : Nat} (h1 : 1 ≤ n) (h6 : n ≤ 6) (hB : B < n) (hA : A < n) : (A * n + B) / n = A ∧ (A * n + B) % n = B ∧ A * n + B < n * n ∧ plc n ((A : Int) + 1) ((B : Int) + 1) = A * n + B ∧ A * n + n = (A + 1) * n := by
  have hn : n = 1 ∨ n = 2 ∨ n = 3 ∨ n = 4 ∨ n = 5 ∨ n = 6 := by omega
  unfold plc
  rcases hn with rfl | rfl | rfl | rfl | rfl | rfl <;> refine ⟨?_, ?_, ?_, ?_, ?_⟩ <;> omega
set_option maxHeartbeats 16000000 in
theorem trueGraph (a b d : Option Addr) (n l ca cb cd : Nat) (t : Int) (cs : List Int) (w : World) (h1 : 1 ≤ n) (h6 : n ≤ 6) (hC : cs.length = n * n) (hi : In.RM w b cs) :
    Calls Tryz.prog 68 #[.agg #[.slice a n ca, .slice b cs.length cb, .slice d l cd, .int .i64 t]] w fun e w' => ∃ v, e = .returned v ∧ Below w.heap.size w w' ∧ Tu.LstV w' v (tgL cs n (n * n)) w.heap.size w'.heap.size := by
  have HX0 := hide (nb_new w (.slice a n ca) (.slice b cs.length cb) (.slice d l cd) t 31)
  have b0 := bel_new w (.cells #[.slice a n ca, .slice b cs.length cb, .slice d l cd, .int .i64 t] 31)
  have HB0 := hide b0
  obtain ⟨g, off, rfl, hgl, hcc⟩ : ∃ g off, b = some ⟨g, off, none⟩ ∧ g < w.heap.size ∧ ∀ i, i < cs.length → w.cell? ⟨g, off + i, none⟩ = some (.int .i64 (cs.getD i 0)) := by
    have hp : 0 < cs.length := by rw [hC]; exact Nat.mul_pos (by omega) (by omega)
    rcases hi with e | ⟨g, off, e, hc⟩
    · rw [e] at hp; simp at hp
    · exact ⟨g, off, e, World.block_lt_of_cell? _ _ (hc 0 hp), hc⟩
  have HCC := hide hcc
  have hz0 : (w.alloc (.cells #[.slice a n ca, .slice (some ⟨g, off, none⟩) cs.length cb, .slice d l cd, .int .i64 t] 31)).heap.size = w.heap.size + 1 := by simp
  have HCO := hide (fun W x y hx hx' hy hy' h => costOf a (some ⟨g, off, none⟩) d n l ca cb cd t cs x y W h1 h6 hC hx hx' hy hy' h)
  have HAT := hide (fun A B hB hA => tg_at (n := n) (A := A) (B := B) h1 h6 hB hA)
  clear hi hcc hC
  have O0 := hide (Tu.own_nil (w.alloc (.cells #[.slice a n ca, .slice (some ⟨g, off, none⟩) cs.length cb, .slice d l cd, .int .i64 t] 31)) (w.heap.size + 1))
  go_enter Tryz.func68, Tryz.ntmps68
  go_wp2_with fail
  have HI0 : Hid (∀ i, i < cs.length → (w.alloc (.cells #[.slice a n ca, .slice (some ⟨g, off, none⟩) cs.length cb, .slice d l cd, .int .i64 t] 31)).cell? ⟨g, off + i, none⟩ = some (.int .i64 (cs.getD i 0))) := hide (fun i hi => (b0.cell (p := ⟨g, off + i, none⟩) hgl).trans (unhide HCC i hi))
  have HZ0 := hide hz0
  clear HCC b0 hz0
  generalize w.alloc (.cells #[.slice a n ca, .slice (some ⟨g, off, none⟩) cs.length cb, .slice d l cd, .int .i64 t] 31) = w0 at *
  have HRM : Hid (∀ W, Below (w.heap.size + 1) w0 W → In.RM W (some ⟨g, off, none⟩) cs) := hide (fun W hW => .inr ⟨g, off, rfl, fun i hi => (hW.cell (p := ⟨g, off + i, none⟩) (by show g < w.heap.size + 1; omega)).trans (unhide HI0 i hi)⟩)
  have HNB : Hid (∀ W, Below (w.heap.size + 1) w0 W → NB W w.heap.size (.slice a n ca) (.slice (some ⟨g, off, none⟩) cs.length cb) (.slice d l cd) t) := hide (fun W hW => (unhide HX0).under hW (Nat.lt_succ_self _))
  clear HI0 HX0 hgl
  go_loopw [3, 4] (fun v i wr => ∃ A : Nat, A ≤ n ∧ i = .int .i64 ((A : Int) + 1) ∧ Hid (wr.ownsRow (w.heap.size + 1) 99 3 v (tgL cs n (A * n)).length (Tu.flat (tgL cs n (A * n)))) ∧ Hid (Below (w.heap.size + 1) w0 wr)) (fun _ i _ => n + 1 - (intOf i).toNat)
  case atStart => exact ⟨0, by omega, by simp, by simpa [tgL] using O0, hide (Below.refl _ _)⟩
  case round =>
    obtain ⟨A, hA, rfl, how, hbl⟩ := hrel
    obtain ⟨p0, p1, p2, p3⟩ := unhide HNB wr (unhide hbl)
    by_cases hlt : (A : Int) + 1 ≤ (n : Int)
    · have hAn : A < n := by omega
      have hA0 : (0 : Int) ≤ (A : Int) := by omega
      go_wp2_with fail
      clear p0 p1 p2 p3
      rename World => wA
      go_loopw [3, 5] (fun v i wr => ∃ B : Nat, B ≤ n ∧ i = .int .i64 ((B : Int) + 1) ∧ Hid (wr.ownsRow (w.heap.size + 1) 99 3 v (tgL cs n (A * n + B)).length (Tu.flat (tgL cs n (A * n + B)))) ∧ Hid (Below (w.heap.size + 1) w0 wr)) (fun _ i _ => n + 1 - (intOf i).toNat)
      case atStart => exact ⟨0, by omega, by simp, by simpa using how, hbl⟩
      case round =>
        clear how hbl
        obtain ⟨B, hB, rfl, how, hbl⟩ := hrel
        obtain ⟨p0, p1, p2, p3⟩ := unhide HNB wr (unhide hbl)
        by_cases hltB : (B : Int) + 1 ≤ (n : Int)
        · have hBn : B < n := by omega
          have hB0 : (0 : Int) ≤ (B : Int) := by omega
          obtain ⟨e1, e2, e3, e4, e5⟩ := unhide HAT A B hBn hAn
          obtain ⟨f1, f2, f3, f4, f5⟩ := unhide HAT B A hAn hBn
          have HTO : Hid (tgO cs n (A * n + B) = (decide (0 < cs.getD (A * n + B) 0) && decide (0 < cs.getD (B * n + A) 0))) := hide (by unfold tgO; rw [e1, e2])
          have HTX : Hid (tgX cs n (A * n + B) = ⟨100 * ((A : Int) + 1) + ((B : Int) + 1), 0, cs.getD (A * n + B) 0⟩) := hide (by unfold tgX; rw [e1, e2]; simp)
          have HTL : Hid (tgL cs n (A * n + (B + 1)) = if tgO cs n (A * n + B) = true then tgL cs n (A * n + B) ++ [tgX cs n (A * n + B)] else tgL cs n (A * n + B)) := hide rfl
          have hsm := tg_short (cs := cs) h6 (Nat.le_of_lt e3)
          have E4 := hide e4
          have F4 := hide f4
          have hwz : w.heap.size + 1 ≤ wr.heap.size := by have := (unhide hbl).size; rw [unhide HZ0] at this; exact this
          clear e1 e2 e3 e4 e5 f1 f2 f3 f4 f5
          go_wp2_with fail
          refine (unhide HCO wr ((A : Int) + 1) ((B : Int) + 1) (by omega) (by omega) (by omega) (by omega) (unhide HRM wr (unhide hbl))).mono ?_
          rintro e w2 ⟨rfl, b2⟩
          rw [unhide E4]
          have HB2 := hide ((unhide hbl).trans (b2.mono hwz))
          have HW2 := hide (own_bel (unhide how) b2)
          have hw2 : w.heap.size + 1 ≤ w2.heap.size := Nat.le_trans hwz b2.size
          clear b2 p0 p1 p2 p3
          obtain ⟨p0, p1, p2, p3⟩ := unhide HNB w2 (unhide HB2)
          generalize cs.getD (A * n + B) 0 = c1 at *
          by_cases hc1 : 0 < c1
          · go_wp2_with fail
            clear p0 p1 p2 p3
            refine (unhide HCO w2 ((B : Int) + 1) ((A : Int) + 1) (by omega) (by omega) (by omega) (by omega) (unhide HRM w2 (unhide HB2))).mono ?_
            rintro e w3 ⟨rfl, b3⟩
            rw [unhide F4]
            have HB3 := hide ((unhide HB2).trans (b3.mono hw2))
            have HW3 := hide (own_bel (unhide HW2) b3)
            have hw3 : w.heap.size + 1 ≤ w3.heap.size := Nat.le_trans hw2 b3.size
            clear b3 HB2 HW2
            generalize cs.getD (B * n + A) 0 = c2 at *
            by_cases hc2 : 0 < c2
            · have HT : Hid (tgL cs n (A * n + (B + 1)) = tgL cs n (A * n + B) ++ [⟨100 * ((A : Int) + 1) + ((B : Int) + 1), 0, c1⟩]) := hide (by rw [unhide HTL, unhide HTO, unhide HTX, if_pos (by simp [hc1, hc2])])
              go_wp2_with fail
              refine (Tw.keyOfHop ((A : Int) + 1) ((B : Int) + 1) _ (by omega) (by omega) (by omega) (by omega)).mono ?_
              rintro e w4 ⟨rfl, b4⟩
              have HB4 := hide ((unhide HB3).trans (b4.mono hw3))
              have HW4 := hide (own_bel (unhide HW3) b4)
              have hw4 : w.heap.size + 1 ≤ w4.heap.size := Nat.le_trans hw3 b4.size
              clear b4 HB3 HW3
              generalize hky : 100 * ((A : Int) + 1) + ((B : Int) + 1) = ky at *
              clear hky
              go_wp2_with (at_builtin; refine Tu.wpList_apS ((unhide HW4).alloc _) w4.heap.size 0 1 1 [(⟨ky, 0, c1⟩ : Tu.R)] rfl (Tu.rm_new w4 ⟨ky, 0, c1⟩) (by simp only [List.length_cons, List.length_nil]; omega) (by simp; omega) rfl _ _ rfl rfl rfl ?_; intro v' w' ho hg; have HO : Hid (w'.ownsRow (w.heap.size + 1) 99 3 v' (tgL cs n (A * n + (B + 1))).length (Tu.flat (tgL cs n (A * n + (B + 1))))) := hide (by rw [unhide HT]; exact ho); have HB := hide (Tu.below_own ((unhide HB4).alloc hw4 _) ((unhide HW4).alloc _) hg (Nat.le_refl _) (by simp; omega)); clear ho hg)
              go_roundw
              case rel => exact ⟨B + 1, by omega, by go_num, HO, HB⟩
              case measure => simp [intOf]; omega
            · have HO : Hid (w3.ownsRow (w.heap.size + 1) 99 3 u3 (tgL cs n (A * n + (B + 1))).length (Tu.flat (tgL cs n (A * n + (B + 1))))) := hide (by rw [unhide HTL, unhide HTO, if_neg (by simp [hc2])]; exact unhide HW3)
              go_wp2_with fail
              go_roundw
              case rel => exact ⟨B + 1, by omega, by go_num, HO, HB3⟩
              case measure => simp [intOf]; omega
          · have HO : Hid (w2.ownsRow (w.heap.size + 1) 99 3 u3 (tgL cs n (A * n + (B + 1))).length (Tu.flat (tgL cs n (A * n + (B + 1))))) := hide (by rw [unhide HTL, unhide HTO, if_neg (by simp [hc1])]; exact unhide HW2)
            go_wp2_with fail
            clear p0 p1 p2 p3
            go_roundw
            case rel => exact ⟨B + 1, by omega, by go_num, HO, HB2⟩
            case measure => simp [intOf]; omega
        · obtain rfl : B = n := by omega
          have HO : Hid (wr.ownsRow (w.heap.size + 1) 99 3 u3 (tgL cs B ((A + 1) * B)).length (Tu.flat (tgL cs B ((A + 1) * B)))) := hide (by rw [Nat.succ_mul]; exact unhide how)
          go_wp2_with fail
          clear p0 p1 p2 p3
          go_roundw
          case rel => exact ⟨A + 1, by omega, by go_num, HO, hbl⟩
          case measure => simp [intOf]; omega
    · obtain rfl : A = n := by omega
      have HL := hide ((Tu.lst_own rfl (unhide how)).mono (Nat.le_succ _) (Nat.le_refl _))
      have HF := hide ((unhide HB0).trans ((unhide hbl).mono (Nat.le_succ _)))
      go_wp2_with fail
      go_ret
      exact ⟨_, rfl, unhide HF, unhide HL⟩
end Nt
end Go.Proofs.YtfooahhdikobeaaGreat
namespace Go.Proofs.YtfooahhdikobeaaGreat
open Go.ChangeShapes Go.WideShapes Go.ChangeAt Go.RowKit
set_option linter.unusedVariables false
set_option linter.unusedSimpArgs false
set_option maxRecDepth 100000
attribute [local go_sem ↓] Go.wp_at_zero Go.wp_at_succ
namespace Nt
open W1 Rt
theorem l07Key (v a : Int) (w : World) (h0 : 0 ≤ v) (h1 : v ≤ 1000000) (h2 : 0 ≤ a) (h3 : a ≤ 1000000) : Calls Tryz.prog 115 #[.int .i64 v, .int .i64 a] w fun e w' => e = .returned (.int .i64 (100 * v + a)) ∧ w' = w := by
  go_enter Tryz.func115, Tryz.ntmps115
  go_wp2
  go_ret
  exact ⟨rfl, rfl⟩
theorem tg_diag {cs : List Int} {n t : Nat} (hc : costB cs n = true) (ht : t < n * n) (he : t / n = t % n) : tgO cs n t = false := by
  unfold costB at hc
  simp only [Bool.and_eq_true, beq_iff_eq] at hc
  have hk := allI_at hc.2 (i := t) (by omega)
  unfold cok at hk
  simp only [Bool.and_eq_true, Bool.or_eq_true, beq_iff_eq, Bool.not_eq_true', decide_eq_false_iff_not] at hk
  have h0 : cs.getD t 0 = 0 := by rcases hk.2 with h | h; exact absurd he h; exact h
  unfold tgO
  rw [h0]; rfl
/-- A list with an address of its own above a bound. -/
def OG (W : World) (v : Value) (xs : List Tu.R) (lo : Nat) : Prop := ∃ g c, v = .slice (some ⟨g, 0, none⟩) xs.length c ∧ lo ≤ g ∧ g < W.heap.size ∧ Tu.Upto W g xs.length xs.length xs
theorem OG.below {W W' : World} {v : Value} {xs : List Tu.R} {lo : Nat} (h : OG W v xs lo) (hb : Below W.heap.size W W') : OG W' v xs lo := by
  obtain ⟨g, c, e, h1, h2, h3⟩ := h
  exact ⟨g, c, e, h1, Nat.lt_of_lt_of_le h2 hb.size, h3.below hb h2⟩
set_option maxHeartbeats 16000000 in
theorem l14True (a b d : Option Addr) (n l ca cb cd : Nat) (t : Int) (cs : List Int) (w : World) (h1 : 1 ≤ n) (h6 : n ≤ 6) (hC : cs.length = n * n) (hcB : costB cs n = true) (hi : In.RM w b cs) :
    Calls Tryz.prog 65 #[.agg #[.slice a n ca, .slice b cs.length cb, .slice d l cd, .int .i64 t]] w fun e w' => ∃ v, e = .returned v ∧ Below w.heap.size w w' ∧ Tu.LstV w' v (tgL cs n (n * n)) w.heap.size w'.heap.size := by
  have HX0 := hide (nb_new w (.slice a n ca) (.slice b cs.length cb) (.slice d l cd) t 31)
  have b0 := bel_new w (.cells #[.slice a n ca, .slice b cs.length cb, .slice d l cd, .int .i64 t] 31)
  have HB0 := hide b0
  obtain ⟨g, off, rfl, hgl, hcc⟩ : ∃ g off, b = some ⟨g, off, none⟩ ∧ g < w.heap.size ∧ ∀ i, i < cs.length → w.cell? ⟨g, off + i, none⟩ = some (.int .i64 (cs.getD i 0)) := by
    have hp : 0 < cs.length := by rw [hC]; exact Nat.mul_pos (by omega) (by omega)
    rcases hi with e | ⟨g, off, e, hc⟩
    · rw [e] at hp; simp at hp
    · exact ⟨g, off, e, World.block_lt_of_cell? _ _ (hc 0 hp), hc⟩
  have HCC := hide hcc
  have hz0 : (w.alloc (.cells #[.slice a n ca, .slice (some ⟨g, off, none⟩) cs.length cb, .slice d l cd, .int .i64 t] 31)).heap.size = w.heap.size + 1 := by simp
  have HCO := hide (fun W x y hx hx' hy hy' h => l13Cost a (some ⟨g, off, none⟩) d n l ca cb cd t cs x y W h1 h6 hC hx hx' hy hy' h)
  have HDI := hide (fun t ht he => tg_diag (cs := cs) (n := n) (t := t) hcB ht he)
  have HPT := hide (fun t (ht : t < n * n) => put_last (tg_lt (cs := cs) h1 h6 ht) (by have := tg_short (cs := cs) h6 (Nat.le_of_lt ht); omega))
  have HAT := hide (fun A B hB hA => tg_at (n := n) (A := A) (B := B) h1 h6 hB hA)
  clear hi hcc hC
  go_enter Tryz.func65, Tryz.ntmps65
  go_wp2_with fail
  have HI0 : Hid (∀ i, i < cs.length → (w.alloc (.cells #[.slice a n ca, .slice (some ⟨g, off, none⟩) cs.length cb, .slice d l cd, .int .i64 t] 31)).cell? ⟨g, off + i, none⟩ = some (.int .i64 (cs.getD i 0))) := hide (fun i hi => (b0.cell (p := ⟨g, off + i, none⟩) hgl).trans (unhide HCC i hi))
  have HZ0 := hide hz0
  clear HCC b0 hz0
  generalize w.alloc (.cells #[.slice a n ca, .slice (some ⟨g, off, none⟩) cs.length cb, .slice d l cd, .int .i64 t] 31) = w0 at *
  have HRM : Hid (∀ W, Below (w.heap.size + 1) w0 W → In.RM W (some ⟨g, off, none⟩) cs) := hide (fun W hW => .inr ⟨g, off, rfl, fun i hi => (hW.cell (p := ⟨g, off + i, none⟩) (by show g < w.heap.size + 1; omega)).trans (unhide HI0 i hi)⟩)
  have HNB : Hid (∀ W, Below (w.heap.size + 1) w0 W → NB W w.heap.size (.slice a n ca) (.slice (some ⟨g, off, none⟩) cs.length cb) (.slice d l cd) t) := hide (fun W hW => (unhide HX0).under hW (Nat.lt_succ_self _))
  clear HI0 HX0 hgl
  have hs0 : w0.heap.size = w.heap.size + 1 := unhide HZ0
  have B00 : Below (w.heap.size + 1) w0 (w0.alloc (.cells #[] 99)) := (Below.refl _ _).alloc (by omega) _
  have O0 : Hid (OG (w0.alloc (.cells #[] 99)) (.slice (some ⟨w.heap.size + 1, 0, none⟩) 0 0) (tgL cs n (0 * n)) (w.heap.size + 1)) := hide ⟨w.heap.size + 1, 0, by simp [tgL], by omega, by simp; omega, ⟨fun i hi => by simp [tgL] at hi, fun i hi => by simp [tgL] at hi⟩⟩
  have HB00 := hide B00
  clear hs0 B00
  go_wp2_with fail
  go_loopw [3, 4] (fun v i wr => ∃ A : Nat, A ≤ n ∧ i = .int .i64 ((A : Int) + 1) ∧ Hid (OG wr v (tgL cs n (A * n)) (w.heap.size + 1)) ∧ Hid (Below (w.heap.size + 1) w0 wr)) (fun _ i _ => n + 1 - (intOf i).toNat)
  case atStart => exact ⟨0, by omega, by simp, O0, HB00⟩
  case round =>
    obtain ⟨A, hA, rfl, how, hbl⟩ := hrel
    obtain ⟨p0, p1, p2, p3⟩ := unhide HNB wr (unhide hbl)
    by_cases hlt : (A : Int) + 1 ≤ (n : Int)
    · have hAn : A < n := by omega
      have hA0 : (0 : Int) ≤ (A : Int) := by omega
      go_wp2_with fail
      clear p0 p1 p2 p3
      rename World => wA
      go_loopw [3, 5] (fun v i wr => ∃ B : Nat, B ≤ n ∧ i = .int .i64 ((B : Int) + 1) ∧ Hid (OG wr v (tgL cs n (A * n + B)) (w.heap.size + 1)) ∧ Hid (Below (w.heap.size + 1) w0 wr)) (fun _ i _ => n + 1 - (intOf i).toNat)
      case atStart => exact ⟨0, by omega, by simp, by simpa using how, hbl⟩
      case round =>
        clear how hbl
        obtain ⟨B, hB, rfl, how, hbl⟩ := hrel
        obtain ⟨p0, p1, p2, p3⟩ := unhide HNB wr (unhide hbl)
        by_cases hltB : (B : Int) + 1 ≤ (n : Int)
        · have hBn : B < n := by omega
          have hB0 : (0 : Int) ≤ (B : Int) := by omega
          obtain ⟨e1, e2, e3, e4, e5⟩ := unhide HAT A B hBn hAn
          obtain ⟨f1, f2, f3, f4, f5⟩ := unhide HAT B A hAn hBn
          have HTO : Hid (tgO cs n (A * n + B) = (decide (0 < cs.getD (A * n + B) 0) && decide (0 < cs.getD (B * n + A) 0))) := hide (by unfold tgO; rw [e1, e2])
          have HTX : Hid (tgX cs n (A * n + B) = ⟨100 * ((A : Int) + 1) + ((B : Int) + 1), 0, cs.getD (A * n + B) 0⟩) := hide (by unfold tgX; rw [e1, e2]; simp)
          have HTL : Hid (tgL cs n (A * n + (B + 1)) = if tgO cs n (A * n + B) = true then tgL cs n (A * n + B) ++ [tgX cs n (A * n + B)] else tgL cs n (A * n + B)) := hide rfl
          have hsm := tg_short (cs := cs) h6 (Nat.le_of_lt e3)
          have E4 := hide e4
          have F4 := hide f4
          have hwz : w.heap.size + 1 ≤ wr.heap.size := by have := (unhide hbl).size; rw [unhide HZ0] at this; exact this
          have e1' := e1
          have e2' := e2
          have e3' := e3
          clear e1 e2 e3 e4 e5 f1 f2 f3 f4 f5
          have HDD := hide (fun e => unhide HDI (A * n + B) e3' (by rw [e1', e2']; exact e))
          have HPP := hide (unhide HPT (A * n + B) e3')
          clear e1' e2' e3'
          cases hne : ((A : Int) + 1 != (B : Int) + 1)
          · have HO : Hid (OG wr u3 (tgL cs n (A * n + (B + 1))) (w.heap.size + 1)) := hide (by rw [unhide HTL, unhide HDD (by simp at hne; omega), if_neg (by simp)]; exact unhide how)
            go_wp2_with fail
            clear p0 p1 p2 p3
            go_roundw
            case rel => exact ⟨B + 1, by omega, by go_num, HO, hbl⟩
            case measure => simp [intOf]; omega
          have HCA := hide (fun W (hW : Below (w.heap.size + 1) w0 W) => unhide HCO W ((A : Int) + 1) ((B : Int) + 1) (by omega) (by omega) (by omega) (by omega) (unhide HRM W hW))
          have HCB := hide (fun W (hW : Below (w.heap.size + 1) w0 W) => unhide HCO W ((B : Int) + 1) ((A : Int) + 1) (by omega) (by omega) (by omega) (by omega) (unhide HRM W hW))
          rw [unhide E4] at HCA
          rw [unhide F4] at HCB
          generalize cs.getD (A * n + B) 0 = c1 at *
          generalize cs.getD (B * n + A) 0 = c2 at *
          go_wp2_with fail
          refine (unhide HCA wr (unhide hbl)).mono ?_
          rintro e w2 ⟨rfl, b2⟩
          have HB2 := hide ((unhide hbl).trans (b2.mono hwz))
          have HW2 := hide ((unhide how).below b2)
          have hw2 : w.heap.size + 1 ≤ w2.heap.size := Nat.le_trans hwz b2.size
          clear b2 p0 p1 p2 p3
          obtain ⟨p0, p1, p2, p3⟩ := unhide HNB w2 (unhide HB2)
          by_cases hc1 : 0 < c1
          rotate_left
          · have HO : Hid (OG w2 u3 (tgL cs n (A * n + (B + 1))) (w.heap.size + 1)) := hide (by rw [unhide HTL, unhide HTO, if_neg (by simp [hc1])]; exact unhide HW2)
            go_wp2_with fail
            clear p0 p1 p2 p3
            go_roundw
            case rel => exact ⟨B + 1, by omega, by go_num, HO, HB2⟩
            case measure => simp [intOf]; omega
          go_wp2_with fail
          clear p0 p1 p2 p3
          refine (unhide HCB w2 (unhide HB2)).mono ?_
          rintro e w3 ⟨rfl, b3⟩
          have HB3 := hide ((unhide HB2).trans (b3.mono hw2))
          have HW3 := hide ((unhide HW2).below b3)
          have hw3 : w.heap.size + 1 ≤ w3.heap.size := Nat.le_trans hw2 b3.size
          clear b3 HB2 HW2
          by_cases hc2 : 0 < c2
          rotate_left
          · have HO : Hid (OG w3 u3 (tgL cs n (A * n + (B + 1))) (w.heap.size + 1)) := hide (by rw [unhide HTL, unhide HTO, if_neg (by simp [hc2])]; exact unhide HW3)
            go_wp2_with fail
            go_roundw
            case rel => exact ⟨B + 1, by omega, by go_num, HO, HB3⟩
            case measure => simp [intOf]; omega
          have hpl := (unhide HPP).2.2
          have HT : Hid (tgL cs n (A * n + (B + 1)) = St.putL (tgL cs n (A * n + B)) ⟨100 * ((A : Int) + 1) + ((B : Int) + 1), 0, c1⟩) := hide (by rw [unhide HTL, unhide HTO, if_pos (by simp [hc1, hc2]), ← hpl, unhide HTX])
          have HPL : Hid (St.putL (tgL cs n (A * n + B)) ⟨100 * ((A : Int) + 1) + ((B : Int) + 1), 0, c1⟩ = tgL cs n (A * n + B) ++ [⟨100 * ((A : Int) + 1) + ((B : Int) + 1), 0, c1⟩]) := hide (by rw [← unhide HTX]; exact hpl)
          clear hpl HPP
          obtain ⟨gg, cc, hu3, hlo, hgg, hup⟩ := unhide HW3
          have HRO := hide (Tu.rm_of hup)
          have HHO := hide hlo
          have hlen : (tgL cs n (A * n + B)).length ≤ 64 := by omega
          clear hup hlo HW3 how
          subst hu3
          go_wp2_with fail
          refine wp_region_noPanic ?_
          refine wp_region_held_drew (S := fun w' => NB w' w.heap.size (.slice a n ca) (.slice (some ⟨g, off, none⟩) cs.length cb) (.slice d l cd) t) (by kernel_rfl) (unhide HNB w3 (unhide HB3)) (fun hHeld => ?_)
          refine Rg.t 0 39 ?_
          refine Rg.t 1 40 ?_
          refine Rg.t 2 41 ?_
          refine Rg.t (v := .agg #[.slice a n ca, .slice (some ⟨g, off, none⟩) cs.length cb, .slice d l cd, .int .i64 t]) 4 43 ?_ (hv := fun w0 hSw => execNB _ rfl rfl hSw)
          refine Rg.t 5 44 ?_
          refine Rg.t 6 45 ?_
          (refine Rg.o 3 (fun K hK => ?_); go_simp)
          refine (l07Key ((A : Int) + 1) ((B : Int) + 1) _ (by omega) (by omega) (by omega) (by omega)).mono ?_
          rintro e w4 ⟨rfl, hw4⟩
          subst w4
          refine hK.out _ _ (unhide HNB w3 (unhide HB3)) (fun hHeld => ?_)
          clear hK K
          (try simp only [Act.put, List.setIfInBounds_toArray, List.set_cons_zero, List.set_cons_succ])
          (refine Rg.o 7 (fun K hK => ?_); go_simp)
          refine (unhide HCA w3.drew (unhide HB3).drew).mono ?_
          rintro e w5 ⟨rfl, b5⟩
          have HB5 := hide ((unhide HB3).drew.trans (b5.mono (by show w.heap.size + 1 ≤ w3.heap.size; exact hw3)))
          have HR5 := hide (Tu.RM.below (w := w3.drew) (unhide HRO) b5)
          have hw5 : w.heap.size + 1 ≤ w5.heap.size := Nat.le_trans hw3 b5.size
          refine hK.out _ _ (unhide HNB w5 (unhide HB5)) (fun hHeld => ?_)
          clear hK K b5
          (try simp only [Act.put, List.setIfInBounds_toArray, List.set_cons_zero, List.set_cons_succ])
          refine Rg.t 8 47 ?_
          (refine Rg.o 9 (fun K hK => ?_); go_simp)
          refine (St.l03PutC gg 0 (tgL cs n (A * n + B)) cc (100 * ((A : Int) + 1) + ((B : Int) + 1)) 0 c1 w5 hlen (unhide HR5)).mono ?_
          rintro e w6 ⟨v, rfl, b6, lv, sh⟩
          obtain ⟨av, cv, rfl, lst⟩ := lv
          rcases lst with e0 | ⟨g6, rfl, l1, l2, l3, up⟩
          · exfalso; rw [unhide HPL] at e0; simp at e0
          have HB6 := hide ((unhide HB5).trans (b6.mono hw5))
          have HO : Hid (OG w6 (.slice (some ⟨g6, 0, none⟩) (St.putL (tgL cs n (A * n + B)) ⟨100 * ((A : Int) + 1) + ((B : Int) + 1), 0, c1⟩).length cv) (tgL cs n (A * n + (B + 1))) (w.heap.size + 1)) := hide (by rw [unhide HT]; exact ⟨g6, cv, rfl, by omega, l3, up⟩)
          clear l1 l2 l3 up b6 sh
          generalize (St.putL (tgL cs n (A * n + B)) ⟨100 * ((A : Int) + 1) + ((B : Int) + 1), 0, c1⟩).length = ln at *
          refine hK.out _ _ (unhide HNB w6 (unhide HB6)) (fun hHeld => ?_)
          clear hK K
          (try simp only [Act.put, List.setIfInBounds_toArray, List.set_cons_zero, List.set_cons_succ])
          refine Rg.t 10 38 ?_
          refine Rg.t 11 49 ?_
          refine Rg.t 12 50 ?_
          refine Rg.t 13 3 ?_
          refine wpAnyH_done (by kernel_rfl) (NoPanic.normal ?_) _
          clear hHeld
          go_wp2_with fail
          go_roundw
          case rel => exact ⟨B + 1, by omega, by go_num, HO, HB6⟩
          case measure => simp [intOf]; omega
        · obtain rfl : B = n := by omega
          have HO : Hid (OG wr u3 (tgL cs B ((A + 1) * B)) (w.heap.size + 1)) := hide (by rw [Nat.succ_mul]; exact unhide how)
          go_wp2_with fail
          clear p0 p1 p2 p3
          go_roundw
          case rel => exact ⟨A + 1, by omega, by go_num, HO, hbl⟩
          case measure => simp [intOf]; omega
    · obtain rfl : A = n := by omega
      obtain ⟨gg, cc, hv, hlo, hgg, hup⟩ := unhide how
      subst hv
      have HL : Hid (Tu.LstV wr (.slice (some ⟨gg, 0, none⟩) (tgL cs A (A * A)).length cc) (tgL cs A (A * A)) w.heap.size wr.heap.size) := hide ⟨_, _, rfl, .inr ⟨gg, rfl, by omega, hgg, hgg, hup⟩⟩
      have HF := hide ((unhide HB0).trans ((unhide hbl).mono (Nat.le_succ _)))
      go_wp2_with fail
      go_ret
      exact ⟨_, rfl, unhide HF, unhide HL⟩
end Nt
end Go.Proofs.YtfooahhdikobeaaGreat
namespace Go.Proofs.YtfooahhdikobeaaGreat
set_option linter.unusedVariables false
set_option linter.unusedSimpArgs false
namespace Pq
variable {α : Type}
/-- The first place at which something holds, or the list's length. -/
def place (p : α → Bool) (ms : List α) : Nat := (ms.takeWhile fun m => !p m).length
theorem place_of (z : α) (p : α → Bool) : ∀ (ms : List α) (j : Nat), j ≤ ms.length → (∀ i, i < j → p (ms.getD i z) = false) → (j < ms.length → p (ms.getD j z) = true) → place p ms = j
  | [], j, hj, _, _ => by simp at hj; subst hj; rfl
  | m :: t, 0, _, _, h2 => by
    have h := h2 (by simp)
    simp at h
    unfold place
    rw [List.takeWhile_cons_of_neg (by simp [h])]; rfl
  | m :: t, j + 1, hj, h1, h2 => by
    have h := h1 0 (by omega)
    simp at h
    have ih := place_of z p t j (by simpa using hj) (fun i hi => by have := h1 (i + 1) (by omega); simpa using this) (fun hl => by have := h2 (by simp; omega); simpa using this)
    unfold place at *
    rw [List.takeWhile_cons_of_pos (by simp [h]), List.length_cons, ih]
theorem place_le (p : α → Bool) (ms : List α) : place p ms ≤ ms.length := (List.takeWhile_sublist (p := fun m => !p m) (l := ms)).length_le
theorem place_cons_yes {p : α → Bool} {m : α} {t : List α} (h : p m = true) : place p (m :: t) = 0 := by unfold place; rw [List.takeWhile_cons_of_neg (by simp [h])]; rfl
theorem place_cons_no {p : α → Bool} {m : α} {t : List α} (h : p m = false) : place p (m :: t) = place p t + 1 := by unfold place; rw [List.takeWhile_cons_of_pos (by simp [h]), List.length_cons]
end Pq
namespace Rw
open W1 Ro
/-- Whether a route is right; whether routes are, the first j of them. -/
def okT (r : R) : Bool := inB r.ds 1 8 && (inB r.nx 1 8 && (inB r.co 1 1099511627776 && inB r.hp 1 8))
def isT (a : Int) (s : R) : Bool := s.ds == a
def hasT (ss : List R) (a : Int) : Bool := (ss.find? (isT a)).isSome
theorem ok_ad {s : R} (h : okT s = true) : 1 ≤ s.ds ∧ s.ds ≤ 8 := by unfold okT inB at h; simp at h; exact h.1
theorem ok_co {s : R} (h : okT s = true) : 1 ≤ s.co ∧ s.co ≤ 1099511627776 := by unfold okT inB at h; simp at h; exact h.2.2.1
theorem isT_iff {a : Int} {s : R} : isT a s = true ↔ s.ds = a := by unfold isT; simp
/-- Addresses that rise. -/
abbrev UpT (ss : List R) : Prop := ss.Pairwise (fun a b => a.ds < b.ds)
theorem getD_get {ss : List R} {i : Nat} (h : i < ss.length) : ss.getD i R.zero = ss[i] := by rw [List.getD_eq_getElem?_getD, List.getElem?_eq_getElem h]; rfl
/-- Where an address stands, or would; whether it is there. -/
def atT (a : Int) (s : R) : Bool := decide (a ≤ s.ds)
def placeT (ss : List R) (a : Int) : Nat := Pq.place (atT a) ss
def thereT (ss : List R) (a : Int) : Bool := decide (placeT ss a < ss.length) && decide ((ss.getD (placeT ss a) R.zero).ds = a)
theorem place_le (ss : List R) (a : Int) : placeT ss a ≤ ss.length := Pq.place_le _ _
theorem place_lt {s : R} {t : List R} {a : Int} (h : s.ds < a) : placeT (s :: t) a = placeT t a + 1 := Pq.place_cons_no (by unfold atT; exact decide_eq_false (by omega))
theorem place_ge {s : R} {t : List R} {a : Int} (h : a ≤ s.ds) : placeT (s :: t) a = 0 := Pq.place_cons_yes (by unfold atT; exact decide_eq_true h)
theorem there_lt {s : R} {t : List R} {a : Int} (h : s.ds < a) : thereT (s :: t) a = thereT t a := by
  unfold thereT; rw [place_lt h]; simp
theorem there_ge {s : R} {t : List R} {a : Int} (h : a ≤ s.ds) : thereT (s :: t) a = decide (s.ds = a) := by
  unfold thereT; rw [place_ge h]; simp
theorem find_there : ∀ {ss : List R}, UpT ss → ∀ a, ss.find? (isT a) = if thereT ss a = true then some (ss.getD (placeT ss a) R.zero) else none
  | [], _, a => rfl
  | s :: t, h, a => by
    obtain ⟨h1, h2⟩ := List.pairwise_cons.1 h
    rcases Int.lt_trichotomy s.ds a with hk | hk | hk
    · rw [List.find?_cons_of_neg (by rw [isT_iff]; omega), there_lt hk, place_lt hk, find_there h2 a]; simp
    · rw [List.find?_cons_of_pos (by rw [isT_iff]; exact hk), there_ge (by omega), place_ge (by omega), decide_eq_true hk]; simp
    · rw [there_ge (by omega), decide_eq_false (by omega)]
      simp only [Bool.false_eq_true, if_false]
      rw [List.find?_eq_none]
      intro x hx
      rw [isT_iff]
      rcases List.mem_cons.1 hx with rfl | hx
      · omega
      · have := h1 x hx; omega
theorem has_there {ss : List R} (h : UpT ss) (a : Int) : hasT ss a = thereT ss a := by
  unfold hasT; rw [find_there h a]; cases thereT ss a <;> rfl
end Rw
end Go.Proofs.YtfooahhdikobeaaGreat
namespace Go.Proofs.YtfooahhdikobeaaGreat
open Go.ChangeShapes Go.WideShapes Go.ChangeAt Go.RowKit
set_option linter.unusedVariables false
set_option linter.unusedSimpArgs false
set_option maxRecDepth 100000
attribute [local go_sem ↓] Go.wp_at_zero Go.wp_at_succ
namespace Rw
open W1 Ro
/-- A route in a variable's block. -/
def Bx (w : World) (b : Nat) (m : R) : Prop := w.cell? ⟨b, 0, none⟩ = some (.int .i64 m.ds) ∧ w.cell? ⟨b, 1, none⟩ = some (.int .i64 m.nx) ∧ w.cell? ⟨b, 2, none⟩ = some (.int .i64 m.co) ∧ w.cell? ⟨b, 3, none⟩ = some (.int .i64 m.hp)
theorem Bx.below {w w' : World} {b : Nat} {m : R} (h : Bx w b m) (hb : Below w.heap.size w w') : Bx w' b m := by
  have hg : b < w.heap.size := World.block_lt_of_cell? _ _ h.1
  obtain ⟨h0, h1, h2, h3⟩ := h
  refine ⟨?_, ?_, ?_, ?_⟩ <;> (rw [hb.cell hg]; assumption)
theorem Bx.lt {w : World} {b : Nat} {m : R} (h : Bx w b m) : b < w.heap.size := World.block_lt_of_cell? _ _ h.1
theorem Bx.drew {w : World} {b : Nat} {m : R} (h : Bx w b m) : Bx w.drew b m := h
theorem bx_new (w : World) (m : R) (t : Nat) : Bx (w.alloc (.cells #[.int .i64 m.ds, .int .i64 m.nx, .int .i64 m.co, .int .i64 m.hp] t)) w.heap.size m := by
  refine ⟨?_, ?_, ?_, ?_⟩ <;> simp [World.cell?_alloc_new]
theorem sBox {w : World} {b : Nat} {ds nx co hp : Int} (h : Bx w b ⟨ds, nx, co, hp⟩) : Bx w b ⟨ds, nx, co, hp⟩ ∧ w.cell? ⟨b, 0, none⟩ = some (.int .i64 ds) ∧ w.cell? ⟨b, 1, none⟩ = some (.int .i64 nx) ∧ w.cell? ⟨b, 2, none⟩ = some (.int .i64 co) ∧ w.cell? ⟨b, 3, none⟩ = some (.int .i64 hp) := ⟨h, h⟩
theorem sBox2 {w : World} {b g p : Nat} {m : R} {ds nx co hp : Int} (h : Bx w b ⟨ds, nx, co, hp⟩) (h' : At w g p m) :
    (Bx w b ⟨ds, nx, co, hp⟩ ∧ At w g p m) ∧ w.cell? ⟨b, 0, none⟩ = some (.int .i64 ds) ∧ w.cell? ⟨b, 1, none⟩ = some (.int .i64 nx) ∧ w.cell? ⟨b, 2, none⟩ = some (.int .i64 co) ∧ w.cell? ⟨b, 3, none⟩ = some (.int .i64 hp) ∧ w.cell? ⟨g, p, none⟩ = some (.int .i64 m.ds) := ⟨⟨h, h'⟩, h.1, h.2.1, h.2.2.1, h.2.2.2, h'.1⟩
theorem up_at {ms : List R} (h : UpT ms) (k : Int) : ∀ i j, i < j → j < ms.length → atT k (ms.getD i R.zero) = true → atT k (ms.getD j R.zero) = true := by
  intro i j hij hj hi
  have := (List.pairwise_iff_getElem.1 h) i j (by omega) hj hij
  rw [← getD_get (by omega), ← getD_get hj] at this
  unfold atT at *
  exact decide_eq_true (by have := of_decide_eq_true hi; omega)
theorem cloAt (ds nx co hp k : Int) (b : Nat) (w : World) (hc : w.cell? ⟨b, 0, none⟩ = some (.int .i64 k)) :
    Calls Tryz.prog 207 #[.agg #[.int .i64 ds, .int .i64 nx, .int .i64 co, .int .i64 hp], .pointer (some ⟨b, 0, none⟩)] w fun e w' => e = .returned (.bool (atT k ⟨ds, nx, co, hp⟩)) ∧ Below w.heap.size w w' := by
  have hlt : b < w.heap.size := World.block_lt_of_cell? _ _ hc
  have hne : ¬ b = w.heap.size := by omega
  by_cases h : k ≤ ds
  all_goals
    go_enter Tryz.func207, Tryz.ntmps207
    go_wp2
    go_ret
    exact ⟨ret_bool (by unfold atT; simp [h]), (Below.refl _ _).alloc (Nat.le_refl _) _⟩
set_option maxHeartbeats 2000000 in
theorem firstAt (b : Nat) (a : Option Addr) (k : Int) (ms : List R) (cap : Nat) (w : World) (hr : RM w a ms) (hs : UpT ms) (hm : ms.length ≤ 4096) (hb : w.cell? ⟨b, 0, none⟩ = some (.int .i64 k)) :
    Calls Tryz.prog 206 #[.slice a ms.length cap, .func (.func 207) #[] #[.pointer (some ⟨b, 0, none⟩)]] w fun e w' => e = .returned (.int .i64 (Pq.place (atT k) ms)) ∧ Below w.heap.size w w' := by
  have HR := hide hr
  have HB := hide hb
  have HUP := hide (up_at hs k)
  have hblt := World.block_lt_of_cell? _ _ hb
  clear hr hs hb
  generalize hN : ms.length = n at *
  have HN := hide hN
  clear hN
  go_enter Tryz.func206, Tryz.ntmps206
  go_wp2
  go_loopw [5, 6] (fun lo hi wr => ∃ low high : Nat, low ≤ high ∧ high ≤ n ∧ lo = .int .i64 low ∧ hi = .int .i64 high ∧ Hid (∀ i, i < low → atT k (ms.getD i R.zero) = false) ∧ Hid (∀ i, high ≤ i → i < n → atT k (ms.getD i R.zero) = true) ∧ Hid (Below w.heap.size w wr)) (fun lo hi _ => (intOf hi - intOf lo).toNat)
  case atStart => exact ⟨0, n, by omega, by omega, rfl, rfl, hide (fun i hi => by omega), hide (fun i hi h2 => by omega), hide (Below.refl _ _)⟩
  case round =>
    obtain ⟨low, high, hlh, hhn, rfl, rfl, h1, h2, hbl⟩ := hrel
    by_cases hlt : (low : Int) < (high : Int)
    · obtain ⟨mid, hmid⟩ : ∃ mid : Nat, mid = low + (high - low) / 2 := ⟨_, rfl⟩
      have hm1 : low ≤ mid := by omega
      have hm2 : mid < high := by omega
      have em : (low : Int) + ((high : Int) - (low : Int)) / 2 = (mid : Int) := by omega
      have et : ((high : Int) - (low : Int)).tdiv 2 = ((high : Int) - (low : Int)) / 2 := Int.tdiv_eq_ediv_of_nonneg (by omega)
      have k0 : (0 : Int) ≤ (mid : Int) := by omega
      have k1 : (mid : Int) < (n : Int) := by omega
      obtain ⟨g, off, rfl⟩ := (unhide HR).form (by rw [unhide HN]; omega)
      have hA := ((unhide HR).below (unhide hbl)).at (i := mid) (by rw [unhide HN]; omega)
      have HC := hide ((unhide hbl).cell (p := ⟨b, 0, none⟩) hblt)
      have HP : Hid (atT k (ms.getD mid R.zero) = true → ∀ i, mid ≤ i → i < n → atT k (ms.getD i R.zero) = true) := hide (fun h i hi hn => by
        by_cases e : mid = i
        · subst e; exact h
        · exact unhide HUP mid i (by omega) hn h)
      have HQ : Hid (atT k (ms.getD mid R.zero) = false → ∀ i, i < mid + 1 → atT k (ms.getD i R.zero) = false) := hide (fun h i hi => by
        by_cases e : mid = i
        · subst e; exact h
        · cases hb : atT k (ms.getD i R.zero)
          · rfl
          · rw [unhide HUP i mid (by omega) (by omega) hb] at h; cases h)
      clear hmid
      generalize ms.getD mid R.zero = m at *
      obtain ⟨ds, nx, co, hp⟩ := m
      obtain ⟨c0, c1, c2, c3⟩ := hA
      dsimp only at c0 c1 c2 c3
      go_wp2_with fail
      refine (cloAt ds nx co hp k b _ ((unhide HC).trans (unhide HB))).mono ?_
      rintro e w1 ⟨rfl, b1⟩
      have hb1 := hide ((unhide hbl).trans (b1.mono (unhide hbl).size))
      clear c0 c1 c2 c3 b1
      cases hp : atT k ⟨ds, nx, co, hp⟩
      · have HST := hide (unhide HQ hp)
        go_wp2_with fail
        exact ⟨⟨mid + 1, high, by omega, by omega, by go_num, rfl, HST, h2, hb1⟩, by simp [intOf]; omega⟩
      · have HST := hide (unhide HP hp)
        go_wp2_with fail
        exact ⟨⟨low, mid, by omega, by omega, rfl, rfl, h1, HST, hb1⟩, by simp [intOf]; omega⟩
    · obtain rfl : low = high := by omega
      have HST : Hid (Pq.place (atT k) ms = low) := hide (Pq.place_of R.zero _ ms low (by rw [unhide HN]; omega) (unhide h1) (fun h => unhide h2 low (Nat.le_refl _) (by rw [unhide HN] at h; exact h)))
      go_wp2_with fail
      go_ret
      exact ⟨ret_int (by rw [unhide HST]), unhide hbl⟩
theorem there_no {ms : List R} {k : Int} {p : Nat} (e : placeT ms k = p) (h : ms.length ≤ p) : thereT ms k = false := by unfold thereT; rw [e, decide_eq_false (by omega)]; rfl
theorem there_ne {ms : List R} {k : Int} {p : Nat} (e : placeT ms k = p) (h : ¬ (ms.getD p R.zero).ds = k) : thereT ms k = false := by unfold thereT; rw [e, decide_eq_false h, Bool.and_false]
theorem there_yes {ms : List R} {k : Int} {p : Nat} (e : placeT ms k = p) (hl : p < ms.length) (h : (ms.getD p R.zero).ds = k) : thereT ms k = true := by unfold thereT; rw [e, decide_eq_true hl, decide_eq_true h]; rfl
theorem sKey {w : World} {b g o : Nat} {k : Int} {m : R} (h : w.cell? ⟨b, 0, none⟩ = some (.int .i64 k)) (h' : At w g o m) : w.cell? ⟨b, 0, none⟩ = some (.int .i64 k) ∧ w.cell? ⟨g, o, none⟩ = some (.int .i64 m.ds) := ⟨h, h'.1⟩
theorem lt_block {w : World} {b : Nat} {c : Obj} (h : w.heap[b]? = some c) : b < w.heap.size := by
  rcases Nat.lt_or_ge b w.heap.size with hlt | hge
  · exact hlt
  · rw [Array.getElem?_eq_none hge] at h; cases h
theorem heap_set {w : World} {b i : Nat} {c : Array Value} {t : TypeId} {fr : Nat × Nat} (u : Value) (h : w.heap[b]? = some (.cells c t fr)) : (w.setCell ⟨b, i, none⟩ u).heap[b]? = some (.cells (c.setIfInBounds i u) t fr) := by
  have hlt := lt_block h
  have h' : w.heap[b] = .cells c t fr := by simpa [Array.getElem?_eq_getElem hlt] using h
  show (w.heap.modify b _)[b]? = _
  rw [Array.getElem?_eq_getElem (by simpa using hlt), Array.getElem_modify_self, h']
  rfl
/-- A route's block that may be written. -/
def RV (w : World) (b : Nat) (m : R) : Prop := w.heap[b]? = some (.cells #[.int .i64 m.ds, .int .i64 m.nx, .int .i64 m.co, .int .i64 m.hp] 87 (0, 0))
theorem RV.cells {w : World} {b : Nat} {m : R} (h : RV w b m) : Bx w b m := by
  unfold RV at h; refine ⟨?_, ?_, ?_, ?_⟩ <;> simp [World.cell?, h]
theorem RV.free {w : World} {b : Nat} {m : R} (h : RV w b m) (i : Nat) : w.frozen? ⟨b, i, none⟩ = false := by unfold RV at h; simp [World.frozen?, h]
theorem RV.lt {w : World} {b : Nat} {m : R} (h : RV w b m) : b < w.heap.size := lt_block h
theorem RV.drew {w : World} {b : Nat} {m : R} (h : RV w b m) : RV w.drew b m := h
theorem RV.below {w w' : World} {b : Nat} {m : R} (h : RV w b m) (hb : Below w.heap.size w w') : RV w' b m := (hb.block b h.lt).trans h
theorem RV.under {w w' : World} {B b : Nat} {m : R} (h : RV w b m) (hb : Below B w w') (hl : b < B) : RV w' b m := (hb.block b hl).trans h
theorem rv_new (w : World) (m : R) : RV (w.alloc (.cells #[.int .i64 m.ds, .int .i64 m.nx, .int .i64 m.co, .int .i64 m.hp] 87)) w.heap.size m := heap_alloc_new w _
theorem rv_put {w : World} {b : Nat} {m : R} (h : RV w b m) (x y z u : Int) : RV ((((w.setCell ⟨b, 0, none⟩ (.int .i64 x)).setCell ⟨b, 1, none⟩ (.int .i64 y)).setCell ⟨b, 2, none⟩ (.int .i64 z)).setCell ⟨b, 3, none⟩ (.int .i64 u)) b ⟨x, y, z, u⟩ := by
  have h1 := heap_set (i := 0) (.int .i64 x) h
  have h2 := heap_set (i := 1) (.int .i64 y) h1
  have h3 := heap_set (i := 2) (.int .i64 z) h2
  exact heap_set (i := 3) (.int .i64 u) h3
end Rw
end Go.Proofs.YtfooahhdikobeaaGreat
namespace Go.Proofs.YtfooahhdikobeaaGreat
open Go.ChangeShapes Go.WideShapes Go.ChangeAt Go.RowKit
set_option linter.unusedVariables false
set_option linter.unusedSimpArgs false
set_option maxRecDepth 100000
attribute [local go_sem ↓] Go.wp_at_zero Go.wp_at_succ
namespace Wd
open W1 Ro Rw
/-- How two numbers compare; the first of several that is not 0. -/
def cmpV (x y : Int) : Int := if x < y then -1 else if y < x then 1 else 0
def orV : List Int → Int
  | [] => 0
  | x :: t => if x = 0 then orV t else x
theorem cmp_zero {x y : Int} : cmpV x y = 0 ↔ x = y := by
  unfold cmpV
  split
  · constructor <;> intro h <;> omega
  · split <;> constructor <;> intro h <;> omega
theorem cmp_neg {x y : Int} : cmpV x y < 0 ↔ x < y := by
  unfold cmpV
  split
  · constructor <;> intro h <;> omega
  · split <;> constructor <;> intro h <;> omega
theorem bt_cmp (x y : R) : decide (orV [cmpV x.co y.co, cmpV x.hp y.hp, cmpV x.nx y.nx] < 0) = btB x y := by
  simp only [orV, cmp_zero]
  rw [Bool.eq_iff_iff, decide_eq_true_eq, btB_iff]
  unfold Bt
  by_cases h1 : x.co = y.co
  · rw [if_pos h1]
    by_cases h2 : x.hp = y.hp
    · rw [if_pos h2]
      by_cases h3 : x.nx = y.nx
      · rw [if_pos h3]; omega
      · rw [if_neg h3, cmp_neg]; omega
    · rw [if_neg h2, cmp_neg]; omega
  · rw [if_neg h1, cmp_neg]; omega
set_option maxHeartbeats 1000000 in
theorem compare (x y : Int) (w : World) : Calls Tryz.prog 192 #[.int .i64 x, .int .i64 y] w fun e w' => e = .returned (.int .i64 (cmpV x y)) ∧ w' = w := by
  by_cases h1 : x < y
  · rw [show cmpV x y = -1 by unfold cmpV; rw [if_pos h1]]
    go_enter Tryz.func192, Tryz.ntmps192
    go_wp2
    go_ret
    exact ⟨rfl, rfl⟩
  by_cases h2 : y < x
  · rw [show cmpV x y = 1 by unfold cmpV; rw [if_neg h1, if_pos h2]]
    go_enter Tryz.func192, Tryz.ntmps192
    go_wp2
    go_ret
    exact ⟨rfl, rfl⟩
  · rw [show cmpV x y = 0 by unfold cmpV; rw [if_neg h1, if_neg h2]]
    go_enter Tryz.func192, Tryz.ntmps192
    go_wp2
    go_ret
    exact ⟨rfl, rfl⟩
theorem or_drop {zs : List Int} {j : Nat} (h : j < zs.length) : orV (zs.drop j) = if zs.getD j 0 = 0 then orV (zs.drop (j + 1)) else zs.getD j 0 := by
  rw [List.drop_eq_getElem_cons h, List.getD_eq_getElem?_getD, List.getElem?_eq_getElem h]; rfl
set_option maxHeartbeats 2000000 in
theorem cmpOr (a : Option Addr) (zs : List Int) (cap : Nat) (w : World) (hm : zs.length ≤ 64) (hr : In.RM w a zs) :
    Calls Tryz.prog 191 #[.slice a zs.length cap] w fun e w' => e = .returned (.int .i64 (orV zs)) ∧ w' = w := by
  have HR := hide hr
  clear hr
  generalize hN : zs.length = n at *
  have HN := hide hN
  clear hN
  go_enter Tryz.func191, Tryz.ntmps191
  go_wp2_with fail
  go_loopw [8] (fun i wr => w = wr ∧ ∃ j : Nat, j ≤ n ∧ i = .int .i64 j ∧ Hid (orV zs = orV (zs.drop j))) (fun i _ => n - (intOf i).toNat)
  case atStart => exact ⟨rfl, 0, by omega, rfl, hide rfl⟩
  case round =>
    obtain ⟨rfl, j, hj, rfl, ho⟩ := hrel
    by_cases hlt : (j : Int) < (n : Int)
    · have k0 : (0 : Int) ≤ (j : Int) := by omega
      have hlen : j < zs.length := by rw [unhide HN]; omega
      rcases unhide HR with e0 | ⟨g, off, rfl, hc⟩
      · exfalso; rw [e0] at hlen; simp at hlen
      have c0 := hc j hlen
      clear hc
      have HT := hide (or_drop hlen)
      generalize zs.getD j 0 = y at *
      by_cases hy : y = 0
      · have HE : Hid (orV zs = orV (zs.drop (j + 1))) := hide (by rw [unhide ho, unhide HT, if_pos hy])
        subst hy
        go_wp2_with fail
        go_roundw
        case rel => exact ⟨by first | trivial | rfl, j + 1, by omega, by go_num, HE⟩
        case measure => simp [intOf]; omega
      · have HE : Hid (y = orV zs) := hide (by rw [unhide ho, unhide HT, if_neg hy])
        have hy2 : (y != 0) = true := by simpa using hy
        go_wp2_with fail
        go_ret
        exact ⟨ret_int (unhide HE), rfl⟩
    · obtain rfl : j = n := by omega
      have HE : Hid (0 = orV zs) := hide (by have := unhide ho; rw [← unhide HN, List.drop_length] at this; exact this.symm)
      go_wp2_with fail
      go_ret
      exact ⟨ret_int (unhide HE), rfl⟩
theorem rm_new3 (w : World) (a b c : Int) : In.RM (w.alloc (.cells #[.int .i64 a, .int .i64 b, .int .i64 c] 3)) (some ⟨w.heap.size, 0, none⟩) [a, b, c] := by
  refine .inr ⟨_, _, rfl, fun i hi => ?_⟩
  rw [World.cell?_alloc_new]
  match i, hi with
  | 0, _ | 1, _ | 2, _ => rfl
  | n + 3, h => simp at h; omega
set_option maxRecDepth 100000 in
set_option maxHeartbeats 8000000 in
theorem isBetter (x y : R) (w : World) : Calls Tryz.prog 158 #[x.value, y.value] w fun e w' => e = .returned (.bool (btB x y)) ∧ Below w.heap.size w w' := by
  have HE := hide (bt_cmp x y)
  obtain ⟨xa, xn, xc, xh⟩ := x
  obtain ⟨ya, yn, yc, yh⟩ := y
  dsimp only at HE ⊢
  show Calls Tryz.prog 158 #[.agg #[.int .i64 xa, .int .i64 xn, .int .i64 xc, .int .i64 xh], .agg #[.int .i64 ya, .int .i64 yn, .int .i64 yc, .int .i64 yh]] w _
  have HBx := hide (bx_new w ⟨xa, xn, xc, xh⟩ 87)
  have HBy := hide (bx_new (w.alloc (.cells #[.int .i64 xa, .int .i64 xn, .int .i64 xc, .int .i64 xh] 87)) ⟨ya, yn, yc, yh⟩ 87)
  have P1 := hide ((Below.refl w.heap.size w).alloc (Nat.le_refl _) (.cells #[.int .i64 xa, .int .i64 xn, .int .i64 xc, .int .i64 xh] 87))
  have P2 := hide ((unhide P1).alloc (unhide P1).size (.cells #[.int .i64 ya, .int .i64 yn, .int .i64 yc, .int .i64 yh] 87))
  go_enter Tryz.func158, Tryz.ntmps158
  go_wp2_with fail
  have HX2 := hide ((unhide HBx).below ((Below.refl _ _).alloc (Nat.le_refl _) (.cells #[.int .i64 ya, .int .i64 yn, .int .i64 yc, .int .i64 yh] 87)))
  rw [World.size_alloc] at HBy
  generalize hw2 : (w.alloc (.cells #[.int .i64 xa, .int .i64 xn, .int .i64 xc, .int .i64 xh] 87)).alloc (.cells #[.int .i64 ya, .int .i64 yn, .int .i64 yc, .int .i64 yh] 87) = w2 at *
  clear hw2 P1 HBx
  have HS : Hid (∀ w', Below w2.heap.size w2 w' → w'.cell? ⟨w.heap.size, 1, none⟩ = some (.int .i64 xn) ∧ w'.cell? ⟨w.heap.size, 2, none⟩ = some (.int .i64 xc) ∧ w'.cell? ⟨w.heap.size, 3, none⟩ = some (.int .i64 xh) ∧ w'.cell? ⟨w.heap.size + 1, 1, none⟩ = some (.int .i64 yn) ∧ w'.cell? ⟨w.heap.size + 1, 2, none⟩ = some (.int .i64 yc) ∧ w'.cell? ⟨w.heap.size + 1, 3, none⟩ = some (.int .i64 yh)) := hide (fun w' hb => by
    obtain ⟨x0, x1, x2, x3⟩ := (unhide HX2).below hb
    obtain ⟨y0, y1, y2, y3⟩ := (unhide HBy).below hb
    exact ⟨x1, x2, x3, y1, y2, y3⟩)
  clear HX2 HBy
  have B2 : Below w2.heap.size w2 w2.drew := (Below.refl _ _).drew
  refine wp_region_noPanic ?_
  refine wp_region_held_drew (S := fun w' => w'.cell? ⟨w.heap.size, 1, none⟩ = some (.int .i64 xn) ∧ w'.cell? ⟨w.heap.size, 2, none⟩ = some (.int .i64 xc) ∧ w'.cell? ⟨w.heap.size, 3, none⟩ = some (.int .i64 xh) ∧ w'.cell? ⟨w.heap.size + 1, 1, none⟩ = some (.int .i64 yn) ∧ w'.cell? ⟨w.heap.size + 1, 2, none⟩ = some (.int .i64 yc) ∧ w'.cell? ⟨w.heap.size + 1, 3, none⟩ = some (.int .i64 yh)) (by kernel_rfl) (unhide HS _ B2) (fun hHeld => ?_)
  refine Rg.t 0 5 ?_
  refine Rg.t 1 6 ?_
  refine Rg.t 2 7 ?_
  refine Rg.t 3 8 ?_
  refine Rg.t 5 10 ?_
  refine Rg.t 6 11 ?_
  refine Rg.t 7 12 ?_
  refine Rg.t 8 13 ?_
  refine Rg.t 10 15 ?_
  refine Rg.t 11 16 ?_
  refine Rg.t 12 17 ?_
  refine Rg.t 13 18 ?_
  (refine Rg.o 4 (fun K hK => ?_); go_simp)
  refine (compare _ _ _).mono ?_
  rintro e v3 ⟨rfl, hv3⟩
  have B3 : Below w2.heap.size w2 v3 := by rw [hv3]; exact B2
  clear hv3 hHeld
  refine hK.out _ _ (unhide HS _ B3) (fun hHeld => ?_)
  clear hK K
  (try simp only [Act.put, List.setIfInBounds_toArray, List.set_cons_zero, List.set_cons_succ])
  (refine Rg.o 9 (fun K hK => ?_); go_simp)
  refine (compare _ _ _).mono ?_
  rintro e v4 ⟨rfl, hv4⟩
  have B4 : Below w2.heap.size w2 v4 := by rw [hv4]; exact B3
  clear hv4 hHeld
  refine hK.out _ _ (unhide HS _ B4) (fun hHeld => ?_)
  clear hK K
  (try simp only [Act.put, List.setIfInBounds_toArray, List.set_cons_zero, List.set_cons_succ])
  (refine Rg.o 14 (fun K hK => ?_); go_simp)
  refine (compare _ _ _).mono ?_
  rintro e v5 ⟨rfl, hv5⟩
  have B5 : Below w2.heap.size w2 v5 := by rw [hv5]; exact B4
  clear hv5 hHeld
  refine hK.out _ _ (unhide HS _ B5) (fun hHeld => ?_)
  clear hK K
  (try simp only [Act.put, List.setIfInBounds_toArray, List.set_cons_zero, List.set_cons_succ])
  (refine Rg.o 15 (fun K hK => ?_); go_simp)
  have B6 := B5.alloc B5.size (.cells #[.int .i64 (cmpV xc yc), .int .i64 (cmpV xh yh), .int .i64 (cmpV xn yn)] 3)
  have HRN := hide (rm_new3 v5 (cmpV xc yc) (cmpV xh yh) (cmpV xn yn))
  clear hHeld
  refine hK.out _ _ (unhide HS _ B6) (fun hHeld => ?_)
  clear hK K
  (try simp only [Act.put, List.setIfInBounds_toArray, List.set_cons_zero, List.set_cons_succ])
  (refine Rg.o 16 (fun K hK => ?_); go_simp)
  refine (cmpOr _ [_, _, _] _ _ (by simp) (unhide HRN)).mono ?_
  rintro e v7 ⟨rfl, hv7⟩
  have B7 : Below w2.heap.size w2 v7 := by rw [hv7]; exact B6
  clear hv7 hHeld
  refine hK.out _ _ (unhide HS _ B7) (fun hHeld => ?_)
  clear hK K
  (try simp only [Act.put, List.setIfInBounds_toArray, List.set_cons_zero, List.set_cons_succ])
  refine Rg.t 17 22 ?_
  refine Rg.t 18 4 ?_
  refine wpAnyH_done (by kernel_rfl) (NoPanic.normal ?_) _
  clear hHeld
  have HBF := hide ((unhide P2).trans (B7.mono (unhide P2).size))
  go_wp2_with fail
  go_ret
  exact ⟨ret_bool (unhide HE), unhide HBF⟩
set_option maxHeartbeats 4000000 in
theorem longer (x : R) (v c : Int) (w : World) (hc : 0 ≤ x.co ∧ x.co ≤ 1099511627776) (hh : 0 ≤ x.hp ∧ x.hp ≤ 1000) (hv : 0 ≤ c ∧ c ≤ 1099511627776) :
    Calls Tryz.prog 163 #[x.value, .int .i64 v, .int .i64 c] w fun e w' => e = .returned (ext x v c).value ∧ Below w.heap.size w w' := by
  obtain ⟨xa, xn, xc, xh⟩ := x
  dsimp only at hc hh
  show Calls Tryz.prog 163 #[.agg #[.int .i64 xa, .int .i64 xn, .int .i64 xc, .int .i64 xh], .int .i64 v, .int .i64 c] w _
  by_cases h0 : xh = 0
  · have e : (ext ⟨xa, xn, xc, xh⟩ v c).value = .agg #[.int .i64 v, .int .i64 v, .int .i64 (xc + c), .int .i64 (xh + 1)] := by unfold ext R.value; dsimp only; rw [if_pos h0]
    rw [e]
    have h0' : (xh == 0) = true := by simpa using h0
    clear e h0
    go_enter Tryz.func163, Tryz.ntmps163
    go_wp2_with fail
    refine bodyPost_ret (v := .agg #[.int .i64 v, .int .i64 v, .int .i64 (xc + c), .int .i64 (xh + 1)]) (by simp [results, Tryz.results163, go_sem]) rfl ⟨rfl, ((Below.refl _ _).alloc (Nat.le_refl _) _).alloc (by simp) _⟩
  · have e : (ext ⟨xa, xn, xc, xh⟩ v c).value = .agg #[.int .i64 v, .int .i64 xn, .int .i64 (xc + c), .int .i64 (xh + 1)] := by unfold ext R.value; dsimp only; rw [if_neg h0]
    rw [e]
    have h0' : (xh == 0) = false := by simpa using h0
    clear e h0
    go_enter Tryz.func163, Tryz.ntmps163
    go_wp2_with fail
    refine bodyPost_ret (v := .agg #[.int .i64 v, .int .i64 xn, .int .i64 (xc + c), .int .i64 (xh + 1)]) (by simp [results, Tryz.results163, go_sem]) rfl ⟨rfl, ((Below.refl _ _).alloc (Nat.le_refl _) _).alloc (by simp) _⟩
end Wd
end Go.Proofs.YtfooahhdikobeaaGreat
namespace Go.Proofs.YtfooahhdikobeaaGreat
open Go.ChangeShapes Go.WideShapes Go.ChangeAt Go.RowKit
set_option linter.unusedVariables false
set_option linter.unusedSimpArgs false
set_option maxRecDepth 100000
attribute [local go_sem ↓] Go.wp_at_zero Go.wp_at_succ
namespace Wd
open W1 Ro Rw
theorem flat_set : ∀ (hs : List R) (i : Nat) (m : R), i < hs.length → flat (hs.set i m) = ((((flat hs).set (i * 4) (.int .i64 m.ds)).set (i * 4 + 1) (.int .i64 m.nx)).set (i * 4 + 2) (.int .i64 m.co)).set (i * 4 + 3) (.int .i64 m.hp)
  | [], i, m, h => by simp at h
  | x :: t, 0, m, _ => rfl
  | x :: t, i + 1, m, h => by
    have ih := flat_set t i m (by simpa using h)
    have e : flat (x :: t) = .int .i64 x.ds :: .int .i64 x.nx :: .int .i64 x.co :: .int .i64 x.hp :: flat t := rfl
    have e' : flat ((x :: t).set (i + 1) m) = .int .i64 x.ds :: .int .i64 x.nx :: .int .i64 x.co :: .int .i64 x.hp :: flat (t.set i m) := rfl
    rw [e', e, ih, show (i + 1) * 4 = i * 4 + 1 + 1 + 1 + 1 by omega]
    rw [show i * 4 + 1 + 1 + 1 + 1 + 1 = (i * 4 + 1) + 1 + 1 + 1 + 1 by omega, show i * 4 + 1 + 1 + 1 + 1 + 2 = (i * 4 + 2) + 1 + 1 + 1 + 1 by omega, show i * 4 + 1 + 1 + 1 + 1 + 3 = (i * 4 + 3) + 1 + 1 + 1 + 1 by omega]
    simp only [List.set_cons_succ]
/-- One of a row of one's own is written. -/
theorem own_put {w : World} {base g n cap : Nat} {hs : List R} (hn : n = hs.length) (h : w.ownsRow base 87 4 (.slice (some ⟨g, 0, none⟩) n cap) n (flat hs)) {i : Nat} (hi : i < hs.length) (m : R) :
    (put w g (i * 4) m).ownsRow base 87 4 (.slice (some ⟨g, 0, none⟩) n cap) n (flat (hs.set i m)) := by
  obtain ⟨hl, ⟨h1, _⟩ | ⟨g', cap', cur, e, hb, hg, hc1, hc2, hsz, ht⟩⟩ := h
  · cases h1
  · cases e
    refine ⟨by rw [flat_len, List.length_set, hn], .inr ⟨g, cap, (((cur.setIfInBounds (i * 4) (.int .i64 m.ds)).setIfInBounds (i * 4 + 1) (.int .i64 m.nx)).setIfInBounds (i * 4 + 2) (.int .i64 m.co)).setIfInBounds (i * 4 + 3) (.int .i64 m.hp), rfl, hb, ?_, hc1, hc2, ?_, ?_⟩⟩
    · unfold put; exact heap_set _ (heap_set _ (heap_set _ (heap_set _ hg)))
    · simpa using hsz
    · rw [flat_set hs i m hi, ← ht]
      simp only [Array.toList_setIfInBounds, List.take_set]
theorem own_cut {w : World} {base n cap : Nat} {a : Addr} {hs : List R} (hn : n = hs.length) (h : w.ownsRow base 87 4 (.slice (some a) n cap) n (flat hs)) {k : Nat} (hk : k ≤ n) :
    w.ownsRow base 87 4 (.slice (some a) k cap) k (flat (hs.take k)) := by
  obtain ⟨hl, ⟨h1, _⟩ | ⟨g', cap', cur, e, hb, hg, hc1, hc2, hsz, ht⟩⟩ := h
  · cases h1
  · cases e
    refine ⟨by rw [flat_len, List.length_take]; rw [Nat.min_eq_left (by omega)], .inr ⟨g', cap, cur, rfl, hb, hg, by omega, hc2, hsz, ?_⟩⟩
    have e2 : flat hs = flat (hs.take k) ++ flat (hs.drop k) := by rw [← flat_append, List.take_append_drop]
    have e3 : (flat (hs.take k)).length = k * 4 := by rw [flat_len, List.length_take, Nat.min_eq_left (by omega)]
    have : cur.toList.take (k * 4) = (cur.toList.take (n * 4)).take (k * 4) := by rw [List.take_take, Nat.min_eq_left (by omega)]
    rw [this, ht, e2, ← e3, List.take_left]
/-- A heap in block p: its items' slice v, whose row of its own stands above block p. -/
def HP (w : World) (p : Nat) (v : Value) (hs : List R) : Prop :=
  w.heap[p]? = some (.cells #[v, (Value.func (.func 158) #[] #[])] 189 (0, 0)) ∧ w.ownsRow (p + 1) 87 4 v hs.length (flat hs)
/-- Nothing is written but block p and the row of v, and what is new. -/
structure Frm (p : Nat) (v : Value) (w w' : World) : Prop where
  os : w'.os = w.os
  tape : w'.tape = w.tape
  output : w'.output = w.output
  size : w.heap.size ≤ w'.heap.size
  block : ∀ k, k < w.heap.size → k ≠ p → some k ≠ v.ownBlock → w'.heap[k]? = w.heap[k]?
/-- The slice has the row that it had, or one that is new. -/
def Nxt (w : World) (v v' : Value) : Prop := v'.ownBlock = v.ownBlock ∨ v'.ownBlock = none ∨ ∃ k, v'.ownBlock = some k ∧ w.heap.size ≤ k
theorem Frm.refl (p : Nat) (v : Value) (w : World) : Frm p v w w := ⟨rfl, rfl, rfl, Nat.le_refl _, fun _ _ _ _ => rfl⟩
theorem Frm.of_below {p : Nat} {v : Value} {w w' : World} (h : Below w.heap.size w w') : Frm p v w w' := ⟨h.os, h.tape, h.output, h.size, fun k hk _ _ => h.block k hk⟩
theorem Frm.trans {p : Nat} {v v' : Value} {a b c : World} (h : Frm p v a b) (k : Frm p v' b c) (hn : Nxt a v v') : Frm p v a c :=
  ⟨k.os.trans h.os, k.tape.trans h.tape, k.output.trans h.output, Nat.le_trans h.size k.size, fun i hi hp hv => (k.block i (Nat.lt_of_lt_of_le hi h.size) hp (by
    rcases hn with e | e | ⟨q, e, hq⟩
    · rw [e]; exact hv
    · rw [e]; simp
    · rw [e]; intro e'; cases e'; omega)).trans (h.block i hi hp hv)⟩
theorem Nxt.refl (w : World) (v : Value) : Nxt w v v := .inl rfl
theorem Nxt.trans {a b : World} {v v' v'' : Value} (h : Nxt a v v') (k : Nxt b v' v'') (hs : a.heap.size ≤ b.heap.size) : Nxt a v v'' := by
  rcases k with e | e | ⟨q, e, hq⟩
  · rcases h with f | f | f
    · exact .inl (e.trans f)
    · exact .inr (.inl (e.trans f))
    · obtain ⟨q, f, hq⟩ := f; exact .inr (.inr ⟨q, e.trans f, hq⟩)
  · exact .inr (.inl e)
  · exact .inr (.inr ⟨q, e, by omega⟩)
/-- What stands below block p is as it was. -/
theorem Frm.below {p : Nat} {v : Value} {w w' : World} {hs : List R} (h : Frm p v w w') (hp : HP w p v hs) : Below p w w' :=
  ⟨h.os, h.tape, h.output, h.size, fun k hk => h.block k (Nat.lt_trans hk (lt_block hp.1)) (by omega) (fun e => by have := hp.2.lt k e.symm; omega)⟩
theorem HP.lt {w : World} {p : Nat} {v : Value} {hs : List R} (h : HP w p v hs) : p < w.heap.size := lt_block h.1
theorem HP.below {w w' : World} {p : Nat} {v : Value} {hs : List R} (h : HP w p v hs) (hb : Below w.heap.size w w') : HP w' p v hs := by
  refine ⟨(hb.block p h.lt).trans h.1, ?_⟩
  exact h.2.kept (row := none) ⟨hb.os, hb.tape, hb.output, hb.size, fun k hk _ => hb.block k hk⟩ (by cases hv : v.ownBlock <;> simp)
theorem HP.c0 {w : World} {p : Nat} {v : Value} {hs : List R} (h : HP w p v hs) : w.cell? ⟨p, 0, none⟩ = some v := by simp [World.cell?, h.1]
theorem HP.c1 {w : World} {p : Nat} {v : Value} {hs : List R} (h : HP w p v hs) : w.cell? ⟨p, 1, none⟩ = some (Value.func (.func 158) #[] #[]) := by simp [World.cell?, h.1]
theorem HP.free {w : World} {p : Nat} {v : Value} {hs : List R} (h : HP w p v hs) (i : Nat) : w.frozen? ⟨p, i, none⟩ = false := by simp [World.frozen?, h.1]
theorem HP.form {w : World} {p : Nat} {v : Value} {hs : List R} (h : HP w p v hs) (h0 : 0 < hs.length) : ∃ g cap, v = .slice (some ⟨g, 0, none⟩) hs.length cap ∧ p < g ∧ g < w.heap.size ∧ hs.length ≤ cap ∧ cap ≤ maxLen := by
  obtain ⟨hl, ⟨e, h1⟩ | ⟨g, cap, cur, e, hb, hg, hc1, hc2, hsz, ht⟩⟩ := h.2
  · omega
  · exact ⟨g, cap, e, by omega, lt_block hg, hc1, hc2⟩
theorem HP.at {w : World} {p g cap : Nat} {hs : List R} (h : HP w p (.slice (some ⟨g, 0, none⟩) hs.length cap) hs) {i : Nat} (hi : i < hs.length) : At w g (i * 4) (at' hs i) := at_own rfl h.2 i hi
theorem HP.gfree {w : World} {p g n cap : Nat} {hs : List R} (h : HP w p (.slice (some ⟨g, 0, none⟩) n cap) hs) (i : Nat) : w.frozen? ⟨g, i, none⟩ = false := by
  obtain ⟨hl, ⟨e, h1⟩ | ⟨g', cap', cur, e, hb, hg, _⟩⟩ := h.2
  · cases e
  · cases e; simp [World.frozen?, hg]
theorem HP.slice {w : World} {p : Nat} {v : Value} {hs : List R} (h : HP w p v hs) : ∃ a cap, v = .slice a hs.length cap ∧ (hs.length ≤ cap) := by
  obtain ⟨hl, ⟨e, h1⟩ | ⟨g, cap, cur, e, hb, hg, hc1, hc2, hsz, ht⟩⟩ := h.2
  · exact ⟨none, 0, by rw [h1]; exact e, by omega⟩
  · exact ⟨_, cap, e, hc1⟩
theorem isEmpty (p : Nat) (v : Value) (hs : List R) (w : World) (h : HP w p v hs) :
    Calls Tryz.prog 160 #[.pointer (some ⟨p, 0, none⟩)] w fun e w' => e = .returned (.bool (decide (hs.length = 0))) ∧ w' = w := by
  have c0 := h.c0
  obtain ⟨a, cap, rfl, _⟩ := h.slice
  generalize hs.length = n at *
  by_cases hn : n = 0
  · have h1 : ((n : Int) == 0) = true := by simpa using hn
    rw [decide_eq_true hn]
    go_enter Tryz.func160, Tryz.ntmps160
    go_wp2_with fail
    go_ret
    exact ⟨rfl, rfl⟩
  · have h1 : ((n : Int) == 0) = false := by simpa using hn
    rw [decide_eq_false hn]
    go_enter Tryz.func160, Tryz.ntmps160
    go_wp2_with fail
    go_ret
    exact ⟨rfl, rfl⟩
set_option maxHeartbeats 8000000 in
theorem swap0 (p g cap n i j : Nat) (x y : R) (w : World) (hi : i < n) (hj : j < n) (c0 : w.cell? ⟨p, 0, none⟩ = some (.slice (some ⟨g, 0, none⟩) n cap)) (hpg : p ≠ g)
    (hx : At w g (i * 4) x) (hy : At w g (j * 4) y) (hf : ∀ k, w.frozen? ⟨g, k, none⟩ = false) (hne : i ≠ j) :
    Calls Tryz.prog 193 #[.pointer (some ⟨p, 0, none⟩), .int .i64 (i : Int), .int .i64 (j : Int)] w fun e w' => e = .returned (.tuple #[]) ∧ w' = (put (put w g (i * 4) y) g (j * 4) x).drew := by
  obtain ⟨xa, xn, xc, xh⟩ := x
  obtain ⟨ya, yn, yc, yh⟩ := y
  obtain ⟨x0, x1, x2, x3⟩ := hx
  obtain ⟨y0, y1, y2, y3⟩ := hy
  dsimp only at x0 x1 x2 x3 y0 y1 y2 y3
  have i0 : (0 : Int) ≤ (i : Int) := by omega
  have j0 : (0 : Int) ≤ (j : Int) := by omega
  have i1 : (i : Int) < (n : Int) := by omega
  have j1 : (j : Int) < (n : Int) := by omega
  unfold put
  dsimp only
  go_enter Tryz.func193, Tryz.ntmps193
  go_wp2_with fail
  go_region
  go_wp2_with fail
  refine bodyPost_end (v := .tuple #[]) (by simp [results, Tryz.results193, go_sem]) rfl ⟨rfl, ?_⟩
  rfl
set_option maxHeartbeats 8000000 in
theorem swap1 (p g cap n i : Nat) (x : R) (w : World) (hi : i < n) (c0 : w.cell? ⟨p, 0, none⟩ = some (.slice (some ⟨g, 0, none⟩) n cap)) (hpg : p ≠ g)
    (hx : At w g (i * 4) x) (hf : ∀ k, w.frozen? ⟨g, k, none⟩ = false) :
    Calls Tryz.prog 193 #[.pointer (some ⟨p, 0, none⟩), .int .i64 (i : Int), .int .i64 (i : Int)] w fun e w' => e = .returned (.tuple #[]) ∧ w' = (put (put w g (i * 4) x) g (i * 4) x).drew := by
  obtain ⟨xa, xn, xc, xh⟩ := x
  obtain ⟨x0, x1, x2, x3⟩ := hx
  dsimp only at x0 x1 x2 x3
  have i0 : (0 : Int) ≤ (i : Int) := by omega
  have i1 : (i : Int) < (n : Int) := by omega
  unfold put
  dsimp only
  go_enter Tryz.func193, Tryz.ntmps193
  go_wp2_with fail
  go_region
  go_wp2_with fail
  refine bodyPost_end (v := .tuple #[]) (by simp [results, Tryz.results193, go_sem]) rfl ⟨rfl, ?_⟩
  rfl
theorem put_other {w : World} {g o b : Nat} {m : R} (h : b ≠ g) : (put w g o m).heap[b]? = w.heap[b]? := by
  unfold put
  rw [Below.heap_setCell _ _ _ _ h, Below.heap_setCell _ _ _ _ h, Below.heap_setCell _ _ _ _ h, Below.heap_setCell _ _ _ _ h]
theorem HP.drew {w : World} {p : Nat} {v : Value} {hs : List R} (h : HP w p v hs) : HP w.drew p v hs := h
theorem Frm.drew {p : Nat} {v : Value} {w w' : World} (h : Frm p v w w') : Frm p v w w'.drew := ⟨h.os, h.tape, h.output, h.size, h.block⟩
theorem put_os (w : World) (g o : Nat) (m : R) : (put w g o m).os = w.os ∧ (put w g o m).tape = w.tape ∧ (put w g o m).output = w.output := by
  unfold put; exact ⟨rfl, rfl, rfl⟩
theorem put_hp {p g n cap : Nat} {hs : List R} {w : World} (hn : n = hs.length) (h : HP w p (.slice (some ⟨g, 0, none⟩) n cap) hs) {i : Nat} (hi : i < hs.length) (hne : p ≠ g) (m : R) : HP (put w g (i * 4) m) p (.slice (some ⟨g, 0, none⟩) n cap) (hs.set i m) := by
  refine ⟨(put_other hne).trans h.1, ?_⟩
  subst hn
  have := own_put rfl h.2 hi m
  rw [List.length_set]; exact this
theorem put_frm {p g n cap o : Nat} {w : World} {m : R} : Frm p (.slice (some ⟨g, 0, none⟩) n cap) w (put w g o m) := by
  obtain ⟨h1, h2, h3⟩ := put_os w g o m
  exact ⟨h1, h2, h3, by rw [put_size]; exact Nat.le_refl _, fun k hk hkp hkv => put_other (fun e => hkv (by rw [e]; rfl))⟩
theorem swap_ok (p g cap : Nat) (hs : List R) (i j : Nat) (w : World) (h : HP w p (.slice (some ⟨g, 0, none⟩) hs.length cap) hs) (hi : i < hs.length) (hj : j < hs.length) (hne : p ≠ g) :
    HP (put (put w g (i * 4) (at' hs j)) g (j * 4) (at' hs i)).drew p (.slice (some ⟨g, 0, none⟩) hs.length cap) (swp hs i j) ∧ Frm p (.slice (some ⟨g, 0, none⟩) hs.length cap) w (put (put w g (i * 4) (at' hs j)) g (j * 4) (at' hs i)).drew := by
  have h1 := put_hp rfl h hi hne (at' hs j)
  have h2 := put_hp (by simp) h1 (i := j) (by simpa using hj) hne (at' hs i)
  have f1 : Frm p (.slice (some ⟨g, 0, none⟩) hs.length cap) w (put w g (i * 4) (at' hs j)) := put_frm
  have f2 : Frm p (.slice (some ⟨g, 0, none⟩) hs.length cap) (put w g (i * 4) (at' hs j)) (put (put w g (i * 4) (at' hs j)) g (j * 4) (at' hs i)) := put_frm
  exact ⟨h2.drew, (f1.trans f2 (Nxt.refl _ _)).drew⟩
theorem swap (p : Nat) (v : Value) (hs : List R) (i j : Nat) (w : World) (h : HP w p v hs) (hi : i < hs.length) (hj : j < hs.length) :
    Calls Tryz.prog 193 #[.pointer (some ⟨p, 0, none⟩), .int .i64 (i : Int), .int .i64 (j : Int)] w fun e w' => e = .returned (.tuple #[]) ∧ HP w' p v (swp hs i j) ∧ Frm p v w w' := by
  obtain ⟨g, cap, rfl, hpg, hgl, hc1, hc2⟩ := h.form (by omega)
  have hne : p ≠ g := by omega
  have key : Calls Tryz.prog 193 #[.pointer (some ⟨p, 0, none⟩), .int .i64 (i : Int), .int .i64 (j : Int)] w fun e w' => e = .returned (.tuple #[]) ∧ w' = (put (put w g (i * 4) (at' hs j)) g (j * 4) (at' hs i)).drew := by
    by_cases hij : i = j
    · subst hij; exact swap1 p g cap hs.length i (at' hs i) w hi h.c0 hne (h.at hi) (fun k => h.gfree k)
    · exact swap0 p g cap hs.length i j (at' hs i) (at' hs j) w hi hj h.c0 hne (h.at hi) (h.at hj) (fun k => h.gfree k) hij
  have hw : ∀ w', w' = (put (put w g (i * 4) (at' hs j)) g (j * 4) (at' hs i)).drew → HP w' p (.slice (some ⟨g, 0, none⟩) hs.length cap) (swp hs i j) ∧ Frm p (.slice (some ⟨g, 0, none⟩) hs.length cap) w w' := by
    intro w' hw'
    subst hw'
    exact swap_ok p g cap hs i j w h hi hj hne
  refine key.mono ?_
  rintro e w' ⟨rfl, hw'⟩
  exact ⟨rfl, hw w' hw'⟩
end Wd
end Go.Proofs.YtfooahhdikobeaaGreat
namespace Go.Proofs.YtfooahhdikobeaaGreat
namespace Rl
variable {P : Program} {ops : Array Oper} {Q : Exit → Act → World → Prop} {md : Region.Mode} {S T : World → Prop} {k : Nat}
/-- Whatever order is picked from here on, S holds behind every operation that is carried out, and T as long as k has not come up. -/
def wpAnyL (P : Program) (md : Region.Mode) (ops : Array Oper) (Q : Exit → Act → World → Prop) (S T : World → Prop) (k : Nat) : Nat → Array Bool → Act → World → Prop
  | 0, listed, a, w => Region.ready md ops listed = [] ∧ Q .normal a w
  | fuel + 1, listed, a, w =>
    (Region.ready md ops listed = [] → Q .normal a w) ∧
    ∀ i ∈ Region.ready md ops listed, wpOp P ops Q i (fun a' w' => (S w' ∧ ((listed.setIfInBounds i true).getD k true = false → T w')) ∧ wpAnyL P md ops Q S T k fuel (listed.setIfInBounds i true) a' w') a w
theorem wpAny_of : ∀ (fuel : Nat) (listed : Array Bool) (a : Act) (w : World), wpAnyL P md ops Q S T k fuel listed a w → wpAny P md ops Q fuel listed a w
  | 0, _, _, _, h => h
  | fuel + 1, _, _, _, h => ⟨h.1, fun i hi => wpOp_mono (fun a' w' h' => wpAny_of fuel _ a' w' h'.2) (h.2 i hi)⟩
theorem first {i : Nat} {oi ok : Oper} {v : Value} (hi : ops[i]? = some oi) (hk : ops[k]? = some ok) (hki : k ≠ i) (hsel : ∀ (j : Nat) (o : Oper) cs b, ops[j]? = some o → o.op ≠ .select cs b)
    (hwait : ∃ e ∈ ok.after, Region.binds md e = true ∧ e.on = i)
    (hQ : ∀ c a w, Q (.panic c) (a.put oi.dst v) w → Q (.panic c) a w) :
    ∀ (fuel : Nat) (listed : Array Bool) (a : Act) (w : World),
      (∀ j oj, ops[j]? = some oj → j ≠ i → listed.getD j true = false → (∀ e ∈ oj.after, Region.binds md e = true → e.on ≠ i) → oi.apart ops oj = true) →
      i ∈ Region.ready md ops listed → YieldsIf P ops (fun w => S w ∧ T w) oi v a → listed.getD k true = false → S w ∧ T w →
      wpAnyL P md ops Q S T k fuel (listed.setIfInBounds i true) (a.put oi.dst v) w → wpAnyL P md ops Q S T k (fuel + 1) listed a w := by
  intro fuel
  induction fuel with
  | zero =>
    intro listed a w _ hr hy hlk hS H
    refine ⟨fun h => (by rw [h] at hr; cases hr), fun j hj => ?_⟩
    by_cases hji : j = i
    · subst hji; exact hy.wpOp hi hS ⟨⟨hS.1, fun _ => hS.2⟩, H⟩
    · have := ready_mono hj hji
      rw [H.1] at this
      cases this
  | succ fuel ih =>
    intro listed a w hfree hr hy hlk hS H
    refine ⟨fun h => (by rw [h] at hr; cases hr), fun j hj => ?_⟩
    by_cases hji : j = i
    · subst hji; exact hy.wpOp hi hS ⟨⟨hS.1, fun _ => hS.2⟩, H⟩
    · have h1 := H.2 j (ready_mono hj hji)
      obtain ⟨hjun, oj, hoj, hall⟩ := mem_ready.1 hj
      have hnot : ∀ e ∈ oj.after, Region.binds md e = true → e.on ≠ i := fun e he hb heq => by
        have h1 := hall e he hb
        have h0 := (mem_ready.1 hr).1
        rw [heq] at h1
        rcases Nat.lt_or_ge i listed.size with h' | h'
        · simp [h'] at h0 h1; rw [h0] at h1; cases h1
        · simp [Array.getElem?_eq_none h'] at h1
      have hjk : j ≠ k := fun e => by
        subst e
        rw [hk] at hoj; cases hoj
        obtain ⟨e, he, hb, hon⟩ := hwait
        exact hnot e he hb hon
      have hlj : (listed.setIfInBounds j true).getD k true = false := by rw [getD_set_ne true hjk]; exact hlk
      have hlij : ((listed.setIfInBounds i true).setIfInBounds j true).getD k true = false := by rw [getD_set_ne true hjk, getD_set_ne true (Ne.symm hki)]; exact hlk
      have h2 := wpOp_putIf hoj (hfree j oj hoj hji hjun hnot) (fun cs b => hsel i oi cs b hi) (fun cs b => hsel j oj cs b hoj) hQ hy h1
      have hfree' : ∀ k ok, ops[k]? = some ok → k ≠ i → (listed.setIfInBounds j true).getD k true = false →
          (∀ e ∈ ok.after, Region.binds md e = true → e.on ≠ i) → oi.apart ops ok = true := fun k ok hk hki hun hno => by
        refine hfree k ok hk hki ?_ hno
        by_cases hjk : j = k
        · subst hjk; exact hjun
        · rw [getD_set_ne true hjk] at hun; exact hun
      refine wpOp_mono (fun a' w' h3 => ⟨⟨h3.2.1.1, fun _ => h3.2.1.2 hlij⟩, ih (listed.setIfInBounds j true) a' w' hfree' (ready_mono hr (Ne.symm hji)) h3.1 hlj ⟨h3.2.1.1, h3.2.1.2 hlij⟩ ?_⟩) h2
      rw [Array.setIfInBounds_comm _ _ hji]
      exact h3.2.2
/-- Whether operation k waits for i. -/
def waits (md : Region.Mode) (ops : Array Oper) (k i : Nat) : Bool := match ops[k]? with | some ok => ok.after.any (fun e => Region.binds md e && e.on == i) | none => false
theorem waits_spec {i : Nat} (h : waits md ops k i = true) : ∃ ok, ops[k]? = some ok ∧ ∃ e ∈ ok.after, Region.binds md e = true ∧ e.on = i := by
  unfold waits at h
  split at h
  · rename_i ok ho
    obtain ⟨e, he, hh⟩ := Array.any_eq_true'.1 h
    rw [Bool.and_eq_true] at hh
    exact ⟨ok, ho, e, he, hh.1, by simpa using hh.2⟩
  · cases h
/-- Take number i first, into slot d. -/
theorem tk {i d : Nat} {oi : Oper} {v : Value} {fuel : Nat} {listed : Array Bool} {a : Act} {w : World} (hi : ops[i]? = some oi) (hd : oi.dst = some d)
    (hs : Region.noSelect ops = true) (hf : Region.free md ops listed i = true) (hr : (Region.ready md ops listed).contains i = true) (hw : waits md ops k i = true) (hki : (k == i) = false) (hlk : listed.getD k true = false)
    (hQ : ∀ c a w, Q (.panic c) (a.put oi.dst v) w → Q (.panic c) a w) (hy : Region.wanted oi (yielded ops a.tmps) = true) (hv : ∀ w, S w ∧ T w → (execOp a.eval oi).run P w = .ok (.value v) w) (hS : S w ∧ T w)
    (h : wpAnyL P md ops Q S T k fuel (listed.setIfInBounds i true) (a.put (some d) v) w) : wpAnyL P md ops Q S T k (fuel + 1) listed a w := by
  obtain ⟨ok, hok, hwt⟩ := waits_spec hw
  exact first hi hok (fun e => by subst e; simp at hki) (Region.noSelect_spec hs) hwt hQ fuel listed a w (Region.free_spec hi hf) (by simpa using hr) (.inl ⟨hy, hv⟩) hlk hS (by rw [hd]; exact h)
/-- What yields under S alone may be taken first whether k waits for it or not. -/
theorem firstS {i : Nat} {oi : Oper} {v : Value} (hi : ops[i]? = some oi) (hki : k ≠ i) (hsel : ∀ (j : Nat) (o : Oper) cs b, ops[j]? = some o → o.op ≠ .select cs b)
    (hQ : ∀ c a w, Q (.panic c) (a.put oi.dst v) w → Q (.panic c) a w) :
    ∀ (fuel : Nat) (listed : Array Bool) (a : Act) (w : World),
      (∀ j oj, ops[j]? = some oj → j ≠ i → listed.getD j true = false → (∀ e ∈ oj.after, Region.binds md e = true → e.on ≠ i) → oi.apart ops oj = true) →
      i ∈ Region.ready md ops listed → YieldsIf P ops S oi v a → S w ∧ (listed.getD k true = false → T w) →
      wpAnyL P md ops Q S T k fuel (listed.setIfInBounds i true) (a.put oi.dst v) w → wpAnyL P md ops Q S T k (fuel + 1) listed a w := by
  intro fuel
  induction fuel with
  | zero =>
    intro listed a w _ hr hy hS H
    refine ⟨fun h => (by rw [h] at hr; cases hr), fun j hj => ?_⟩
    by_cases hji : j = i
    · subst hji; exact hy.wpOp hi hS.1 ⟨⟨hS.1, fun h => hS.2 (by rw [getD_set_ne true (Ne.symm hki)] at h; exact h)⟩, H⟩
    · have := ready_mono hj hji
      rw [H.1] at this
      cases this
  | succ fuel ih =>
    intro listed a w hfree hr hy hS H
    refine ⟨fun h => (by rw [h] at hr; cases hr), fun j hj => ?_⟩
    by_cases hji : j = i
    · subst hji; exact hy.wpOp hi hS.1 ⟨⟨hS.1, fun h => hS.2 (by rw [getD_set_ne true (Ne.symm hki)] at h; exact h)⟩, H⟩
    · have h1 := H.2 j (ready_mono hj hji)
      obtain ⟨hjun, oj, hoj, hall⟩ := mem_ready.1 hj
      have hnot : ∀ e ∈ oj.after, Region.binds md e = true → e.on ≠ i := fun e he hb heq => by
        have h1 := hall e he hb
        have h0 := (mem_ready.1 hr).1
        rw [heq] at h1
        rcases Nat.lt_or_ge i listed.size with h' | h'
        · simp [h'] at h0 h1; rw [h0] at h1; cases h1
        · simp [Array.getElem?_eq_none h'] at h1
      have hsame : ((listed.setIfInBounds i true).setIfInBounds j true).getD k true = (listed.setIfInBounds j true).getD k true := by rw [Array.setIfInBounds_comm _ _ (Ne.symm hji), getD_set_ne true (Ne.symm hki)]
      have h2 := wpOp_putIf hoj (hfree j oj hoj hji hjun hnot) (fun cs b => hsel i oi cs b hi) (fun cs b => hsel j oj cs b hoj) hQ hy h1
      have hfree' : ∀ k ok, ops[k]? = some ok → k ≠ i → (listed.setIfInBounds j true).getD k true = false →
          (∀ e ∈ ok.after, Region.binds md e = true → e.on ≠ i) → oi.apart ops ok = true := fun k ok hk hki hun hno => by
        refine hfree k ok hk hki ?_ hno
        by_cases hjk : j = k
        · subst hjk; exact hjun
        · rw [getD_set_ne true hjk] at hun; exact hun
      refine wpOp_mono (fun a' w' h3 => ⟨⟨h3.2.1.1, fun h => h3.2.1.2 (hsame.trans h)⟩, ih (listed.setIfInBounds j true) a' w' hfree' (ready_mono hr (Ne.symm hji)) h3.1 ⟨h3.2.1.1, fun h => h3.2.1.2 (hsame.trans h)⟩ ?_⟩) h2
      rw [Array.setIfInBounds_comm _ _ hji]
      exact h3.2.2
theorem tkS {i d : Nat} {oi : Oper} {v : Value} {fuel : Nat} {listed : Array Bool} {a : Act} {w : World} (hi : ops[i]? = some oi) (hd : oi.dst = some d)
    (hs : Region.noSelect ops = true) (hf : Region.free md ops listed i = true) (hr : (Region.ready md ops listed).contains i = true) (hki : (k == i) = false)
    (hQ : ∀ c a w, Q (.panic c) (a.put oi.dst v) w → Q (.panic c) a w) (hy : Region.wanted oi (yielded ops a.tmps) = true) (hv : ∀ w, S w → (execOp a.eval oi).run P w = .ok (.value v) w) (hS : S w ∧ T w)
    (h : wpAnyL P md ops Q S T k fuel (listed.setIfInBounds i true) (a.put (some d) v) w) : wpAnyL P md ops Q S T k (fuel + 1) listed a w :=
  firstS hi (fun e => by subst e; simp at hki) (Region.noSelect_spec hs) hQ fuel listed a w (Region.free_spec hi hf) (by simpa using hr) (.inl ⟨hy, hv⟩) ⟨hS.1, fun _ => hS.2⟩ (by rw [hd]; exact h)
/-- Each of the operations rs comes up next. -/
def AllReadyL (P : Program) (md : Region.Mode) (ops : Array Oper) (Q : Exit → Act → World → Prop) (S T : World → Prop) (k : Nat) (fuel : Nat) (listed : Array Bool) (a : Act) (w : World) (rs : List Nat) : Prop :=
  ∀ i ∈ rs, wpOp P ops Q i (fun a' w' => (S w' ∧ ((listed.setIfInBounds i true).getD k true = false → T w')) ∧ wpAnyL P md ops Q S T k fuel (listed.setIfInBounds i true) a' w') a w
theorem AllReadyL.nil {fuel : Nat} {listed : Array Bool} {a : Act} {w : World} : AllReadyL P md ops Q S T k fuel listed a w [] := fun _ h => by cases h
theorem AllReadyL.cons {fuel : Nat} {listed : Array Bool} {a : Act} {w : World} {i : Nat} {o : Oper} {rs : List Nat} (ho : ops[i]? = some o) (hik : (i == k) = false)
    (h : ∀ K' : Act → World → Prop, Shut (∀ a w, S w ∧ T w → (S w ∧ T w → wpAnyL P md ops Q S T k fuel (listed.setIfInBounds i true) a w) → K' a w) → if Region.wanted o (yielded ops a.tmps) = true then Oper.wp P o a w K' Q else K' (a.put o.dst undef) w)
    (hs : AllReadyL P md ops Q S T k fuel listed a w rs) : AllReadyL P md ops Q S T k fuel listed a w (i :: rs) := fun j hj => by
  rcases List.mem_cons.1 hj with rfl | hj
  · exact wpOp_step ho (fun K' hK => h K' (fun a w hS hW => hK a w ⟨⟨hS.1, fun _ => hS.2⟩, hW hS⟩))
  · exact hs j hj
theorem AllReadyL.last {fuel : Nat} {listed : Array Bool} {a : Act} {w : World} {o : Oper} (ho : ops[k]? = some o) (hlk : (listed.setIfInBounds k true).getD k true = true)
    (h : ∀ K' : Act → World → Prop, Shut (∀ a w, S w → (S w → wpAnyL P md ops Q S T k fuel (listed.setIfInBounds k true) a w) → K' a w) → if Region.wanted o (yielded ops a.tmps) = true then Oper.wp P o a w K' Q else K' (a.put o.dst undef) w) :
    AllReadyL P md ops Q S T k fuel listed a w [k] := fun j hj => by
  rcases List.mem_cons.1 hj with rfl | hj
  · exact wpOp_step ho (fun K' hK => h K' (fun a w hS hW => hK a w ⟨⟨hS, fun e => by rw [hlk] at e; cases e⟩, hW hS⟩))
  · cases hj
theorem ready {rs : List Nat} {fuel : Nat} {listed : Array Bool} {a : Act} {w : World} (hr : Region.ready md ops listed = rs) (hne : rs ≠ [])
    (h : AllReadyL P md ops Q S T k fuel listed a w rs) : wpAnyL P md ops Q S T k (fuel + 1) listed a w :=
  ⟨fun h0 => absurd (hr ▸ h0) hne, hr ▸ h⟩
theorem done {listed : Array Bool} {a : Act} {w : World} (hr : Region.ready md ops listed = []) (h : Q .normal a w) : ∀ fuel, wpAnyL P md ops Q S T k fuel listed a w
  | 0 => ⟨hr, h⟩
  | _ + 1 => ⟨fun _ => h, by rw [hr]; simp⟩
/-- The beginning. -/
theorem drew {id : Nat} {a : Act} {w : World} (k : Nat) (hm : P.follows .mixedOrders = true) (hS : S w.drew ∧ T w.drew)
    (h : S w.drew ∧ T w.drew → wpAnyL P .any ops Q S T k ops.size (Array.replicate ops.size false) a w.drew) : (Code.region id ops true).wp P Q a w :=
  wp_region_any hm (wpAny_of _ _ _ _ (h hS))
end Rl
end Go.Proofs.YtfooahhdikobeaaGreat
