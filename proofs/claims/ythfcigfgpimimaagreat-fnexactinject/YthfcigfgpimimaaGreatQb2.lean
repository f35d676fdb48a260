/-
  Of the texts RecEdge, NetV, SetM, SetL, SetS, TwoM, Rise, TopM, Mpt, Rg, SetC, TwoH, SetD, TwoI, TopA, TopB: what this claim needs of them. (put together by mkprune.py)
-/
import Derived.Test.YthfcigfgpimimaaGreatQb1
import Derived.Deep.RegionHeld3
import Derived.Deep.DrawnRows
import Derived.Deep.Slices
import Derived.Laws.AppendOwn
import Derived.Maps.OwnSet
import Derived.DeepKeys4
import Derived.Maps.AppendAt
import Derived.Laws.NewBlocks
namespace Go.Proofs.YthfcigfgpimimaaGreat
open Go.ChangeShapes Go.WideShapes Go.ChangeAt Go.RowKit
set_option linter.unusedVariables false
set_option maxRecDepth 100000
set_option linter.unusedSimpArgs false
attribute [local go_sem ↓] Go.wp_at_zero Go.wp_at_succ
namespace Ed
open W1
structure R where
  ad : Int
  mt : Int
def R.zero : R := ⟨0, 0⟩
/-- The value of one. -/
def R.value (m : R) : Value := .agg #[.int .i64 m.ad, .int .i64 m.mt]
/-- The cells of one, of a list of them. -/
def R.cells (m : R) : List Value := [.int .i64 m.ad, .int .i64 m.mt]
def flat (ms : List R) : List Value := ms.flatMap R.cells
/-- The cells of one that lies at an address. -/
def At (w : World) (g o : Nat) (m : R) : Prop :=
  w.cell? ⟨g, o, none⟩ = some (.int .i64 m.ad) ∧ w.cell? ⟨g, o + 1, none⟩ = some (.int .i64 m.mt)
/-- The slice at a reads as these. -/
def RM (w : World) (a : Option Addr) (ms : List R) : Prop :=
  ms = [] ∨ ∃ g off, a = some ⟨g, off, none⟩ ∧ ∀ i, i < ms.length → At w g (off + i * 2) (ms.getD i R.zero)
theorem At.below {w w' : World} {g o : Nat} {m : R} (h : At w g o m) (hb : Below w.heap.size w w') : At w' g o m := by
  have hg : g < w.heap.size := World.block_lt_of_cell? _ _ h.1
  obtain ⟨h0, h1⟩ := h
  refine ⟨?_, ?_⟩ <;> (rw [hb.cell hg]; assumption)
theorem At.drew {w : World} {g o : Nat} {m : R} (h : At w g o m) : At w.drew g o m := h
theorem RM.below {w w' : World} {a : Option Addr} {ms : List R} (h : RM w a ms) (hb : Below w.heap.size w w') : RM w' a ms := by
  rcases h with h | ⟨g, off, rfl, hc⟩
  · exact .inl h
  · exact .inr ⟨g, off, rfl, fun i hi => (hc i hi).below hb⟩
theorem RM.drew {w : World} {a : Option Addr} {ms : List R} (h : RM w a ms) : RM w.drew a ms := h
theorem RM.at {w : World} {g off : Nat} {ms : List R} {i : Nat} (h : RM w (some ⟨g, off, none⟩) ms) (hi : i < ms.length) : At w g (off + i * 2) (ms.getD i R.zero) := by
  rcases h with rfl | ⟨g', off', e, hc⟩
  · simp at hi
  · cases e; exact hc i hi
theorem RM.form {w : World} {a : Option Addr} {ms : List R} (h : RM w a ms) (h0 : 0 < ms.length) : ∃ g off, a = some ⟨g, off, none⟩ := by
  rcases h with rfl | ⟨g, off, e, _⟩
  · simp at h0
  · exact ⟨g, off, e⟩
theorem getD_mem {ms : List R} {j : Nat} (h : j < ms.length) : ms.getD j R.zero ∈ ms := by rw [List.getD_eq_getElem?_getD, List.getElem?_eq_getElem h]; exact List.getElem_mem h
theorem R.len (m : R) : m.cells.length = 2 := rfl
theorem flat_len (ms : List R) : (flat ms).length = ms.length * 2 := by
  unfold flat
  induction ms with
  | nil => rfl
  | cons m t ih => rw [List.flatMap_cons, List.length_append, ih, R.len, List.length_cons]; omega
theorem flat_append (xs ys : List R) : flat (xs ++ ys) = flat xs ++ flat ys := by unfold flat; rw [List.flatMap_append]
theorem flat_get : ∀ (ms : List R) (i j : Nat), j < 2 → i < ms.length → (flat ms)[i * 2 + j]? = (ms.getD i R.zero).cells[j]?
  | [], i, j, hj, hi => by simp at hi
  | m :: t, 0, j, hj, hi => by
    unfold flat
    rw [List.flatMap_cons, Nat.zero_mul, Nat.zero_add, List.getElem?_append_left (by rw [R.len]; exact hj)]; rfl
  | m :: t, i + 1, j, hj, hi => by
    have ih := flat_get t i j hj (by simpa using hi)
    unfold flat at ih ⊢
    rw [List.flatMap_cons, show (i + 1) * 2 + j = m.cells.length + (i * 2 + j) by rw [R.len]; omega, List.getElem?_append_right (by omega), Nat.add_sub_cancel_left, ih]; rfl
theorem cell_one {m : R} {u : Value} (h : u ∈ m.cells) : u.oneCell' = true := by
  unfold R.cells at h; simp only [List.mem_cons, List.not_mem_nil, or_false] at h
  rcases h with rfl | rfl <;> rfl
theorem flat_one_cell {ms : List R} {u : Value} (h : u ∈ flat ms) : u.oneCell' = true := by
  obtain ⟨m, _, hu⟩ := List.mem_flatMap.1 h; exact cell_one hu
theorem at_cells {w : World} {g o : Nat} {m : R} (h : At w g o m) : ∀ j u, m.cells[j]? = some u → w.cell? ⟨g, o + j, none⟩ = some u := by
  intro j u hj
  match j, hj with
  | 0, hj => simp [R.cells] at hj; subst hj; exact h.1
  | 1, hj => simp [R.cells] at hj; subst hj; exact h.2
  | n + 2, hj => simp [R.cells] at hj
theorem plain_add (b off k : Nat) : (⟨b, off, none⟩ : Addr).add k = ⟨b, off + k, none⟩ := by unfold Addr.add; split <;> simp_all
/-- A list that is read, cell by cell. -/
theorem RM.cells {w : World} {g off : Nat} {ms : List R} (h : RM w (some ⟨g, off, none⟩) ms) : ∀ j u, (flat ms)[j]? = some u → w.cell? ((⟨g, off, none⟩ : Addr).add j) = some u := by
  intro j u hj
  have hl : j < ms.length * 2 := by
    rw [← flat_len]; exact (List.getElem?_eq_some_iff.1 hj).1
  have hi : j / 2 < ms.length := by omega
  have e : j / 2 * 2 + j % 2 = j := by omega
  rw [← e, flat_get ms _ _ (by omega) hi] at hj
  rw [plain_add, ← e, ← Nat.add_assoc]
  exact at_cells (h.at hi) _ _ hj
/-- A row of one's own that holds a list. -/
theorem at_own {w : World} {base g n cap : Nat} {ms : List R} (hn : n = ms.length) (h : w.ownsRow base 130 2 (.slice (some ⟨g, 0, none⟩) n cap) n (flat ms)) (i : Nat) (hi : i < ms.length) : At w g (i * 2) (ms.getD i R.zero) := by
  have hc : ∀ j, j < 2 → ∀ u, (ms.getD i R.zero).cells[j]? = some u → w.cell? ⟨g, i * 2 + j, none⟩ = some u := by
    intro j hj u hu
    have := h.cells (g := g) rfl (i * 2 + j) u (by rw [flat_get ms i j hj hi]; exact hu)
    rw [plain_add, Nat.zero_add] at this
    exact this
  exact ⟨hc 0 (by omega) _ rfl, hc 1 (by omega) _ rfl⟩

/-- One laid at an address. -/
def put (w : World) (g o : Nat) (m : R) : World := (w.setCell ⟨g, o, none⟩ (.int .i64 m.ad)).setCell ⟨g, o + 1, none⟩ (.int .i64 m.mt)
theorem put_below {B : Nat} {w0 w : World} {g o : Nat} {m : R} (h : Below B w0 w) (hg : B ≤ g) : Below B w0 (put w g o m) := by
  unfold put
  exact (h.setCell (p := ⟨g, o, none⟩) hg _).setCell (p := ⟨g, o + 1, none⟩) hg _
theorem put_size (w : World) (g o : Nat) (m : R) : (put w g o m).heap.size = w.heap.size := by simp [put, World.setCell]
theorem put_frozen (w : World) (g o : Nat) (m : R) (a : Addr) : (put w g o m).frozen? a = w.frozen? a := by
  unfold put; rw [World.frozen?_setCell, World.frozen?_setCell]
theorem put_far (w : World) (g o : Nat) (m : R) {b q : Nat} (h : b ≠ g ∨ q < o ∨ o + 2 ≤ q) : (put w g o m).cell? ⟨b, q, none⟩ = w.cell? ⟨b, q, none⟩ := by
  unfold put
  rw [World.cell?_setCell_other _ _ _ _ (by intro e; cases e <;> omega), World.cell?_setCell_other _ _ _ _ (by intro e; cases e <;> omega)]
theorem put_at (w : World) (g o : Nat) (m : R) (h : ∀ k, k < 2 → (w.cell? ⟨g, o + k, none⟩).isSome = true) : At (put w g o m) g o m := by
  obtain ⟨v0, h0⟩ := Option.isSome_iff_exists.1 (h 0 (by omega))
  obtain ⟨v1, h1⟩ := Option.isSome_iff_exists.1 (h 1 (by omega))
  rw [Nat.add_zero] at h0
  have n : ∀ {w : World} {v : Value} {a b : Nat}, a ≠ b → (w.setCell ⟨g, a, none⟩ v).cell? ⟨g, b, none⟩ = w.cell? ⟨g, b, none⟩ := fun {w v a b} e => World.cell?_setCell_other _ _ _ _ (by intro h; cases h; exact e rfl)
  unfold put
  refine ⟨?_, ?_⟩
  · rw [n (by omega), World.cell?_setCell_same _ _ _ h0]
  · rw [World.cell?_setCell_same _ _ _ ((n (by omega)).trans h1)]
theorem put_some (w : World) (g o : Nat) (m : R) (b q : Nat) (h : (w.cell? ⟨b, q, none⟩).isSome = true) : ((put w g o m).cell? ⟨b, q, none⟩).isSome = true := by
  obtain ⟨v, y0⟩ := Option.isSome_iff_exists.1 h
  unfold put
  obtain ⟨v1, y1⟩ := cell?_setCell_some (p := ⟨g, o, none⟩) (x := .int .i64 m.ad) y0
  obtain ⟨v2, y2⟩ := cell?_setCell_some (p := ⟨g, o + 1, none⟩) (x := .int .i64 m.mt) y1
  rw [y2]; rfl
/-- The first j stand at the head of block g, whose n times 2 cells may be written. -/
def Upto (w : World) (g n j : Nat) (ms : List R) : Prop :=
  (∀ i, i < j → At w g (i * 2) (ms.getD i R.zero)) ∧ ∀ i, i < n * 2 → (w.cell? ⟨g, i, none⟩).isSome = true ∧ w.frozen? ⟨g, i, none⟩ = false
theorem Upto.step {w : World} {g n j : Nat} {ms : List R} (h : Upto w g n j ms) (hj : j < n) : Upto (put w g (j * 2) (ms.getD j R.zero)) g n (j + 1) ms := by
  refine ⟨fun i hi => ?_, fun i hi => ⟨put_some _ _ _ _ _ _ (h.2 i hi).1, by rw [put_frozen]; exact (h.2 i hi).2⟩⟩
  by_cases e : i = j
  · subst e
    exact put_at _ _ _ _ (fun k hk => (h.2 _ (by omega)).1)
  · obtain ⟨h0, h1⟩ := h.1 i (by omega)
    exact ⟨(put_far _ _ _ _ (by omega)).trans h0, (put_far _ _ _ _ (by omega)).trans h1⟩
theorem Upto.below {w w' : World} {g n j : Nat} {ms : List R} (h : Upto w g n j ms) (hb : Below w.heap.size w w') (hg : g < w.heap.size) : Upto w' g n j ms :=
  ⟨fun i hi => (h.1 i hi).below hb, fun i hi => ⟨by rw [hb.cell (p := ⟨g, i, none⟩) hg]; exact (h.2 i hi).1, by rw [hb.frozen (p := ⟨g, i, none⟩) hg]; exact (h.2 i hi).2⟩⟩
theorem Upto.of_block {w w' : World} {g n j : Nat} {ms : List R} (h : Upto w g n j ms) (hb : w'.heap[g]? = w.heap[g]?) : Upto w' g n j ms := by
  have c : ∀ q, w'.cell? ⟨g, q, none⟩ = w.cell? ⟨g, q, none⟩ := fun q => World.cell?_of_block (a := ⟨g, q, none⟩) hb
  have f : ∀ q, w'.frozen? ⟨g, q, none⟩ = w.frozen? ⟨g, q, none⟩ := fun q => World.frozen?_of_block (a := ⟨g, q, none⟩) hb
  refine ⟨fun i hi => ?_, fun i hi => ⟨by rw [c]; exact (h.2 i hi).1, by rw [f]; exact (h.2 i hi).2⟩⟩
  obtain ⟨h0, h1⟩ := h.1 i hi
  exact ⟨(c _).trans h0, (c _).trans h1⟩
theorem rm_of {w : World} {g n : Nat} {ms : List R} (h : Upto w g n ms.length ms) : RM w (some ⟨g, 0, none⟩) ms := .inr ⟨g, 0, rfl, fun i hi => by rw [Nat.zero_add]; exact h.1 i hi⟩
theorem upto_own {w : World} {base g cap n : Nat} {ms : List R} (hn : n = ms.length) (h : w.ownsRow base 130 2 (.slice (some ⟨g, 0, none⟩) n cap) n (flat ms)) : Upto w g n n ms := by
  subst hn
  refine ⟨fun i hi => at_own rfl h i hi, fun i hi => ?_⟩
  obtain ⟨_, ⟨e, _⟩ | ⟨g', cap', cur, e, _, hg, h1, _, h3, _⟩⟩ := h
  · cases e
  · cases e
    have hlt : i < cur.size := by rw [h3]; exact Nat.lt_of_lt_of_le hi (Nat.mul_le_mul_right _ h1)
    refine ⟨?_, ?_⟩
    · simp [World.cell?, hg, hlt]
    · simp [World.frozen?, hg]
/-- A list between two bounds of the heap, in memory that may be written. -/
def Lst (W : World) (a : Option Addr) (ms : List R) (lo hi : Nat) : Prop := ms = [] ∨ ∃ g, a = some ⟨g, 0, none⟩ ∧ lo ≤ g ∧ g < hi ∧ g < W.heap.size ∧ Upto W g ms.length ms.length ms
theorem Lst.rm {W : World} {a : Option Addr} {ms : List R} {lo hi : Nat} (h : Lst W a ms lo hi) : RM W a ms := by
  rcases h with rfl | ⟨g, rfl, _, _, _, hu⟩
  · exact .inl rfl
  · exact rm_of hu
theorem Lst.below {W W' : World} {a : Option Addr} {ms : List R} {lo hi : Nat} (h : Lst W a ms lo hi) (hb : Below W.heap.size W W') : Lst W' a ms lo hi := by
  rcases h with rfl | ⟨g, rfl, h1, h2, h3, hu⟩
  · exact .inl rfl
  · exact .inr ⟨g, rfl, h1, h2, Nat.lt_of_lt_of_le h3 hb.size, hu.below hb h3⟩
theorem Lst.mono {W : World} {a : Option Addr} {ms : List R} {lo hi lo' hi' : Nat} (h : Lst W a ms lo hi) (h1 : lo' ≤ lo) (h2 : hi ≤ hi') : Lst W a ms lo' hi' := by
  rcases h with rfl | ⟨g, rfl, h3, h4, h5, hu⟩
  · exact .inl rfl
  · exact .inr ⟨g, rfl, by omega, by omega, h5, hu⟩
theorem Lst.but {W W' : World} {a : Option Addr} {ms : List R} {lo hi : Nat} {p : Nat → Prop} (h : Lst W a ms lo hi) (hs : W.heap.size ≤ W'.heap.size) (hb : ∀ k, k < W.heap.size → p k → W'.heap[k]? = W.heap[k]?) (hp : ∀ k, lo ≤ k → k < hi → p k) : Lst W' a ms lo hi := by
  rcases h with rfl | ⟨g, rfl, h1, h2, h3, hu⟩
  · exact .inl rfl
  · exact .inr ⟨g, rfl, h1, h2, Nat.lt_of_lt_of_le h3 hs, hu.of_block (hb g h3 (hp g h1 h2))⟩
/-- The same of a value. -/
def LstV (W : World) (v : Value) (ms : List R) (lo hi : Nat) : Prop := ∃ a c, v = .slice a ms.length c ∧ Lst W a ms lo hi
theorem LstV.below {W W' : World} {v : Value} {ms : List R} {lo hi : Nat} (h : LstV W v ms lo hi) (hb : Below W.heap.size W W') : LstV W' v ms lo hi := by
  obtain ⟨a, c, e, hl⟩ := h; exact ⟨a, c, e, hl.below hb⟩
theorem LstV.mono {W : World} {v : Value} {ms : List R} {lo hi lo' hi' : Nat} (h : LstV W v ms lo hi) (h1 : lo' ≤ lo) (h2 : hi ≤ hi') : LstV W v ms lo' hi' := by
  obtain ⟨a, c, e, hl⟩ := h; exact ⟨a, c, e, hl.mono h1 h2⟩
theorem lstV_nil (W : World) (a : Option Addr) (c lo hi : Nat) : LstV W (.slice a 0 c) [] lo hi := ⟨a, c, rfl, .inl rfl⟩
/-- A row of one's own as such a list. -/
theorem lst_own {w : World} {base n : Nat} {v : Value} {ms : List R} (hn : n = ms.length) (h : w.ownsRow base 130 2 v n (flat ms)) : LstV w v ms base w.heap.size := by
  unfold LstV
  have h' := h
  obtain ⟨hl, ⟨rfl, h0⟩ | ⟨g, cap, cur, rfl, hb, hg, _, _, _, _⟩⟩ := h
  · exact ⟨none, 0, by rw [← hn, h0], .inl (List.eq_nil_of_length_eq_zero (by omega))⟩
  · have hlt : g < w.heap.size := by
      rcases Nat.lt_or_ge g w.heap.size with h | h
      · exact h
      · rw [Array.getElem?_eq_none h] at hg; cases hg
    refine ⟨_, cap, by rw [hn], .inr ⟨g, rfl, hb, hlt, hlt, ?_⟩⟩
    have := upto_own hn h'
    rw [hn] at this; exact this

set_option maxHeartbeats 1000000 in
theorem szS (a : Option Addr) (n cap : Nat) (L : Int) (w : World) (hL : 0 ≤ L) (hL1 : L ≤ 1048576) (hm : n ≤ maxLen) :
    Calls Tryz.prog 63 #[.slice a n cap, .int .i64 L] w fun e w' => ∃ r : Int, e = .returned (.int .i64 r) ∧ w' = w ∧ (r < 0 ∨ (0 ≤ r ∧ r = L - n)) := by
  unfold maxLen at hm
  by_cases h0 : L - n < 0
  all_goals
    go_enter Tryz.func63, Tryz.ntmps63
    go_wp2
    go_ret
  · exact ⟨_, rfl, rfl, .inl (by omega)⟩
  · exact ⟨_, rfl, rfl, .inr ⟨by omega, rfl⟩⟩

theorem infoR : ∃ i, Tryz.prog.info? 130 = some i ∧ i.zero = some (Value.agg #[.int .i64 0, .int .i64 0]) ∧ i.size = 2 ∧ i.bytes = 16 := by
  have h : (Tryz.prog.info? 130).map (fun i => (i.zero, i.size, i.bytes)) = some (some (Value.agg #[.int .i64 0, .int .i64 0]), 2, 16) := by kernel_rfl
  obtain ⟨i, hi, he⟩ := Option.map_eq_some_iff.1 h
  simp only [Prod.mk.injEq] at he
  exact ⟨i, hi, he.1, he.2.1, he.2.2⟩

/-- append of a list to a row of one's own, as a walk meets it. -/
theorem wpList_apS {ops : Array Oper} {rest : List Oper} {o : Oper} {a : Act} {Q : Exit → Act → World → Prop} {w : World} {base : Nat} {v : Value} {xs : List R} (hown : w.ownsRow base 130 2 v xs.length (flat xs)) (g off m c : Nat) (ms : List R) (hm : ms.length = m) (hr : RM w (some ⟨g, off, none⟩) ms) (hlen : xs.length + ms.length ≤ 4194304) (hbase : base ≤ w.heap.size)
    (hgd : o.guard = none) (s x : Operand) (ho : o.op = .call { callee := .builtin .append, args := #[s, x], argTypes := #[78, 78] }) (hs : a.eval s = v) (hx : a.eval x = .slice (some ⟨g, off, none⟩) m c)
    (h : ∀ v' w', w'.ownsRow base 130 2 v' (xs ++ ms).length (flat (xs ++ ms)) → w.grownBy w' v.ownBlock → wpList Tryz.prog ops Q rest (a.put o.dst v') w') : wpList Tryz.prog ops Q (o :: rest) a w := by
  subst hm
  obtain ⟨i0, hi, hz0, hz1, hz2⟩ := infoR
  refine wpList_append_own w hgd s x _ ho base 130 i0 _ 2 16 Tryz.underlying78 hi hz0 hz1 hz2 rfl (by decide) v xs.length (flat xs) hs hown ⟨g, off, none⟩ ms.length c (flat ms) hx (flat_len ms) hr.cells (fun u hu => flat_one_cell hu) (by unfold maxLen; omega) (by omega) hbase (fun v' w' h1 h2 _ => ?_)
  refine h v' w' ?_ h2
  rw [List.length_append, flat_append]; exact h1
theorem rm_new (w : World) (m : R) : RM (w.alloc (.cells #[.int .i64 m.ad, .int .i64 m.mt] 130)) (some ⟨w.heap.size, 0, none⟩) [m] := by
  refine .inr ⟨_, _, rfl, fun i hi => ?_⟩
  obtain rfl : i = 0 := by simp at hi; omega
  refine ⟨?_, ?_⟩ <;> simp [World.cell?_alloc_new]
theorem own_empty (w : World) (base : Nat) (hb : base ≤ w.heap.size) : (w.alloc (.cells #[] 130)).ownsRow base 130 2 (.slice (some ⟨w.heap.size, 0, none⟩) 0 0) ([] : List R).length (flat []) := World.ownsRow_made w #[] 0 hb (Nat.zero_le _) (by simp)
theorem own_nil (w : World) (base : Nat) : w.ownsRow base 130 2 (.slice none 0 0) ([] : List R).length (flat []) := World.ownsRow_nil w base _ _
theorem below_own {B : Nat} {w0 w w' : World} {base : Nat} {v : Value} {n : Nat} {xs : List Value} (h : Below B w0 w) (ho : w.ownsRow base 130 2 v n xs) (hg : w.grownBy w' v.ownBlock) (hb : B ≤ base) (hB : B ≤ w.heap.size) : Below B w0 w' :=
  h.grown hg hB (fun k hk => Nat.le_trans hb (ho.lt k hk).1)

set_option maxHeartbeats 1000000 in
theorem toR (ad : Int) (mt : Int) (w : World) :
    Calls Tryz.prog 100 #[.agg #[.int .i64 ad, .int .i64 mt]] w fun e w' => e = .returned (Value.agg #[.int .i64 ad, .int .i64 mt]) ∧ Below w.heap.size w w' := by
  go_enter Tryz.func100, Tryz.ntmps100
  go_wp2
  refine bodyPost_ret (v := .agg #[.int .i64 ad, .int .i64 mt]) (by simp [results, Tryz.results100, go_sem]) rfl ⟨rfl, ?_⟩
  repeat (first | exact Below.refl _ _ | refine Below.setCell ?_ (by simp <;> omega) _ | refine Below.alloc ?_ (by simp <;> omega) _)

set_option maxHeartbeats 2000000 in
theorem toS (a : Option Addr) (ms : List R) (cap : Nat) (w : World) (hm : ms.length ≤ 1048576) (hr : RM w a ms) :
    Calls Tryz.prog 79 #[.slice a ms.length cap] w fun e w' => ∃ g, e = .returned (.slice (some ⟨g, 0, none⟩) ms.length ms.length) ∧ Below w.heap.size w w' ∧ w.heap.size ≤ g ∧ g < w'.heap.size ∧ Upto w' g ms.length ms.length ms := by
  obtain ⟨i0, hi, hz0, hz1, hz2⟩ := infoR
  have hmk := run_make (P := Tryz.prog) w 78 130 i0 _ Tryz.underlying78 hi hz0 .i64 .i64 (ms.length : Int) (ms.length : Int) (by omega) (by omega) (by rw [hz2]; omega) (by omega)
  have HR := hide hr
  clear hr
  generalize hN : ms.length = n at *
  have HN := hide hN
  clear hN
  rw [Int.toNat_natCast, hz1] at hmk
  have hcs : (madeCells (Value.agg #[.int .i64 0, .int .i64 0]).cells (n * 2)).size = n * 2 := size_madeCells _ _
  generalize madeCells (Value.agg #[.int .i64 0, .int .i64 0]).cells (n * 2) = cs at *
  have hup0 : Upto (w.alloc (.cells cs 130)) w.heap.size n 0 ms := by
    refine ⟨fun i hi => by omega, fun i hi => ⟨?_, by simp⟩⟩
    rw [World.cell?_alloc_new, Array.getElem?_eq_getElem (by omega)]; rfl
  have HU := hide hup0
  clear hup0 hcs hi hz0 hz1 hz2
  go_enter Tryz.func79, Tryz.ntmps79
  go_wp2
  go_loopw [4] (fun i wr => ∃ j : Nat, j ≤ n ∧ i = .int .i64 j ∧ Hid (w.heap.size < wr.heap.size) ∧ Hid (Below w.heap.size w wr) ∧ Hid (Upto wr w.heap.size n j ms)) (fun i _ => n - (intOf i).toNat)
  case atStart => exact ⟨0, by omega, rfl, hide (by simp), hide ((Below.refl _ _).alloc (Nat.le_refl _) _), HU⟩
  case round =>
    obtain ⟨j, hj, rfl, hsz, hb, hu⟩ := hrel
    by_cases hlt : (j : Int) < (n : Int)
    · have k0 : (0 : Int) ≤ (j : Int) := by omega
      rcases (unhide HR).below (unhide hb) with e0 | ⟨g, off, rfl, hc⟩
      · exfalso
        have := unhide HN
        rw [e0] at this
        simp at this
        omega
      have hlen : j < ms.length := by rw [unhide HN]; omega
      obtain ⟨c0, c1⟩ := hc j hlen
      have hstep : Hid (∀ w1, Below wr.heap.size wr w1 → Upto (put w1 w.heap.size (j * 2) (ms.getD j R.zero)) w.heap.size n (j + 1) ms) := fun w1 h1 => ((unhide hu).below h1 (unhide hsz)).step (by omega)
      have hsome : Hid (∀ w1, Below wr.heap.size wr w1 → ∀ k, k < 2 → (w1.cell? ⟨w.heap.size, j * 2 + k, none⟩).isSome = true ∧ w1.frozen? ⟨w.heap.size, j * 2 + k, none⟩ = false) := fun w1 h1 k hk => ((unhide hu).below h1 (unhide hsz)).2 (j * 2 + k) (by omega)
      generalize ms.getD j R.zero = m at *
      obtain ⟨ad, mt⟩ := m
      dsimp only at c0 c1
      clear hc
      go_wp2_with fail
      refine (toR ad mt _).mono ?_
      rintro e w1 ⟨rfl, b1⟩
      clear c0 c1
      obtain ⟨v0, x0⟩ := Option.isSome_iff_exists.1 (unhide hsome w1 b1 0 (by omega)).1
      obtain ⟨v1, x1⟩ := Option.isSome_iff_exists.1 (unhide hsome w1 b1 1 (by omega)).1
      have y0 := (unhide hsome w1 b1 0 (by omega)).2
      have y1 := (unhide hsome w1 b1 1 (by omega)).2
      rw [Nat.add_zero] at x0 y0
      have hs1 := hide (unhide hstep w1 b1)
      have hb1 := hide ((unhide hb).trans (b1.mono (unhide hb).size))
      have hz1 := hide (Nat.lt_of_lt_of_le (unhide hsz) b1.size)
      clear hsome hstep b1
      go_wp2_with fail
      exact ⟨⟨j + 1, by omega, by go_num, hide (Nat.lt_of_lt_of_le (unhide hz1) (Nat.le_of_eq (put_size w1 w.heap.size (j * 2) ⟨ad, mt⟩).symm)), hide (put_below (m := ⟨ad, mt⟩) (unhide hb1) (Nat.le_refl _)), hs1⟩, by simp [intOf]; omega⟩
    · obtain rfl : j = n := by omega
      go_wp2
      go_ret
      exact ⟨w.heap.size, rfl, unhide hb, Nat.le_refl _, unhide hsz, unhide hu⟩

set_option maxHeartbeats 1000000 in
theorem eqR (ad : Int) (mt : Int) (w : World) :
    Calls Tryz.prog 117 #[.agg #[.int .i64 ad, .int .i64 mt], .agg #[.int .i64 ad, .int .i64 mt]] w
      fun e w' => e = .returned (.bool true) ∧ Below w.heap.size w w' := by
  go_enter Tryz.func117, Tryz.ntmps117
  go_wp2
  go_ret
  repeat (first | exact ⟨rfl, Below.refl _ _⟩ | refine ⟨rfl, ?_⟩ | exact Below.refl _ _ | refine Below.alloc ?_ (by simp <;> omega) _)

theorem sAt {w : World} {g g' o o' : Nat} {ad mt : Int}  (h : At w g o ⟨ad, mt⟩) (h' : At w g' o' ⟨ad, mt⟩) :
    (At w g o ⟨ad, mt⟩ ∧ At w g' o' ⟨ad, mt⟩) ∧ w.cell? ⟨g, o, none⟩ = some (.int .i64 ad) ∧ w.cell? ⟨g, o + 1, none⟩ = some (.int .i64 mt) ∧ w.cell? ⟨g', o', none⟩ = some (.int .i64 ad) ∧ w.cell? ⟨g', o' + 1, none⟩ = some (.int .i64 mt) := ⟨⟨h, h'⟩, h.1, h.2, h'⟩

set_option maxRecDepth 100000 in
set_option maxHeartbeats 4000000 in
theorem eqS (a b : Option Addr) (ms : List R) (ca cb : Nat) (w : World) (hm : ms.length ≤ 1048576) (hr : RM w a ms) (hr' : RM w b ms) :
    Calls Tryz.prog 90 #[.slice a ms.length ca, .slice b ms.length cb] w fun e w' => e = .returned (.bool true) ∧ Below w.heap.size w w' := by
  have HR := hide hr
  have HR' := hide hr'
  clear hr hr'
  generalize hN : ms.length = n at *
  have HN := hide hN
  clear hN
  go_enter Tryz.func90, Tryz.ntmps90
  go_wp2
  go_loopw [5] (fun i wr => ∃ j : Nat, j ≤ n ∧ i = .int .i64 j ∧ Hid (Below w.heap.size w wr)) (fun i _ => n - (intOf i).toNat)
  case atStart => exact ⟨0, by omega, rfl, hide (Below.refl _ _)⟩
  case round =>
    obtain ⟨j, hj, rfl, hbl⟩ := hrel
    by_cases hlt : (j : Int) < (n : Int)
    · have k0 : (0 : Int) ≤ (j : Int) := by omega
      have hlen : j < ms.length := by rw [unhide HN]; omega
      rcases (unhide HR).below (by exact (unhide hbl)) with e0 | ⟨g, off, rfl, hc⟩
      · exfalso; rw [e0] at hlen; simp at hlen
      rcases (unhide HR').below (by exact (unhide hbl)) with e0 | ⟨g', off', rfl, hc'⟩
      · exfalso; rw [e0] at hlen; simp at hlen
      have hA := hc j hlen
      have hA' := hc' j hlen
      clear hc hc'
      generalize ms.getD j R.zero = m at *
      obtain ⟨ad, mt⟩ := m
      go_wp2_with fail
      go_region_held3 (fun w' => (At w' g (off + j * 2) ⟨ad, mt⟩ ∧ At w' g' (off' + j * 2) ⟨ad, mt⟩) ∧ w'.cell? ⟨g, off + j * 2, none⟩ = some (.int .i64 ad) ∧ w'.cell? ⟨g, off + j * 2 + 1, none⟩ = some (.int .i64 mt) ∧ w'.cell? ⟨g', off' + j * 2, none⟩ = some (.int .i64 ad) ∧ w'.cell? ⟨g', off' + j * 2 + 1, none⟩ = some (.int .i64 mt))
        ((go_split_ands; exact sAt (by first | with_reducible assumption | (with_reducible refine At.drew ?_; with_reducible assumption) | (exact At.below (by with_reducible assumption) b1)) (by first | with_reducible assumption | (with_reducible refine At.drew ?_; with_reducible assumption) | (exact At.below (by with_reducible assumption) b1))))
        (first | (go_at_call 117; refine (eqR ad mt _).mono ?_; rintro e w1 ⟨rfl, b1⟩))
      have hb1 := hide ((unhide hbl).drew.trans (b1.mono (by show w.heap.size ≤ wr.heap.size; exact (unhide hbl).size)))
      go_wp2_with fail
      go_roundw
      case rel => exact ⟨j + 1, by omega, by go_num, hb1⟩
      case measure => simp [intOf]; omega
    · go_wp2
      go_ret
      exact ⟨rfl, unhide hbl⟩

/-- The marks from K on. -/
def markR (K : Int) : R := ⟨K, K + 1⟩
def marks (K : Int) (n : Nat) : List R := (List.range n).map fun t : Nat => markR (K + 2 * (t : Int))
theorem marks_len (K : Int) (n : Nat) : (marks K n).length = n := by simp [marks]
theorem marks_at (K : Int) (n t : Nat) (h : t < n) : (marks K n).getD t R.zero = markR (K + 2 * (t : Int)) := by
  unfold marks
  rw [List.getD_eq_getElem?_getD, List.getElem?_map, List.getElem?_range h]; rfl
theorem grown_set {w w1 : World} {g o : Nat} {v : Value} (h : w.grownBy w1 (some g)) : w.grownBy (w1.setCell ⟨g, o, none⟩ v) (some g) :=
  ⟨h.os, h.tape, h.output, by have := h.size; simp [World.setCell]; exact this, fun k hk hne => (Below.heap_setCell _ _ _ _ (fun e => hne (by rw [e]))).trans (h.block k hk hne)⟩
theorem grown_put {w w1 : World} {g o : Nat} {m : R} (h : w.grownBy w1 (some g)) : w.grownBy (put w1 g o m) (some g) := grown_set (grown_set (h))

set_option maxHeartbeats 4000000 in
theorem markS (g n c : Nat) (K : Int) (ms : List R) (w : World) (hK : 0 ≤ K) (hK1 : K ≤ 1073741824) (hn : n ≤ 1048576) (hg : g < w.heap.size) (hU : Upto w g n n ms) :
    Calls Tryz.prog 54 #[.slice (some ⟨g, 0, none⟩) n c, .int .i64 K] w fun e w' => e = .returned (.int .i64 (K + 2 * (n : Int))) ∧ w.grownBy w' (some g) ∧ Upto w' g n n (marks K n) := by
  have hU0 : Hid (Upto w g n 0 (marks K n)) := hide ⟨fun i hi => by omega, hU.2⟩
  clear hU
  go_enter Tryz.func54, Tryz.ntmps54
  go_wp2
  go_loopw [1, 5] (fun q i wr => ∃ j : Nat, j ≤ n ∧ i = .int .i64 j ∧ q = .int .i64 (K + 2 * (j : Int)) ∧ Hid (w.grownBy wr (some g)) ∧ Hid (Upto wr g n j (marks K n))) (fun _ i _ => n - (intOf i).toNat)
  case atStart => exact ⟨0, by omega, rfl, by simp, hide ⟨rfl, rfl, rfl, Nat.le_refl _, fun _ _ _ => rfl⟩, hU0⟩
  case round =>
    obtain ⟨j, hj, rfl, rfl, hgr, hu⟩ := hrel
    by_cases hlt : (j : Int) < (n : Int)
    · have k0 : (0 : Int) ≤ (j : Int) := by omega
      obtain ⟨v0, x0⟩ := Option.isSome_iff_exists.1 ((unhide hu).2 (j * 2) (by omega)).1
      obtain ⟨v1, x1⟩ := Option.isSome_iff_exists.1 ((unhide hu).2 (j * 2 + 1) (by omega)).1
      have y0 := ((unhide hu).2 (j * 2) (by omega)).2
      have y1 := ((unhide hu).2 (j * 2 + 1) (by omega)).2
      have hst := (unhide hu).step (by omega)
      rw [marks_at K n j (by omega)] at hst
      have HST := hide hst
      have HGN := hide (grown_put (o := j * 2) (m := markR (K + 2 * (j : Int))) (unhide hgr))
      clear hst
      generalize hq : K + 2 * (j : Int) = q at *
      have hq0 : 0 ≤ q := by omega
      have hq1 : q ≤ 1109393408 := by omega
      go_wp2_with fail
      exact ⟨⟨j + 1, by omega, by go_num, by go_num, HGN, HST⟩, by simp [intOf]; omega⟩
    · obtain rfl : j = n := by omega
      go_wp2
      go_ret
      exact ⟨rfl, unhide hgr, unhide hu⟩
theorem markS0 (a : Option Addr) (c : Nat) (K : Int) (w : World) :
    Calls Tryz.prog 54 #[.slice a 0 c, .int .i64 K] w fun e w' => e = .returned (.int .i64 K) ∧ w' = w := by
  go_enter Tryz.func54, Tryz.ntmps54
  go_wp2
  go_loop [1, 5] (fun q i => q = .int .i64 K ∧ i = .int .i64 0) (fun _ i => 0)
  case atStart => exact ⟨rfl, rfl⟩
  case round =>
    obtain ⟨rfl, rfl⟩ := hrel
    go_wp2
    go_ret
    exact ⟨rfl, rfl⟩
theorem heldS0 (a : Option Addr) (c : Nat) (K : Int) (w : World) :
    Calls Tryz.prog 59 #[.slice a 0 c, .int .i64 K] w fun e w' => e = .returned (.int .i64 K) ∧ w' = w := by
  go_enter Tryz.func59, Tryz.ntmps59
  go_wp2
  go_loop [1, 5] (fun q i => q = .int .i64 K ∧ i = .int .i64 0) (fun _ i => 0)
  case atStart => exact ⟨rfl, rfl⟩
  case round =>
    obtain ⟨rfl, rfl⟩ := hrel
    go_wp2
    go_ret
    exact ⟨rfl, rfl⟩

set_option maxHeartbeats 4000000 in
theorem heldS (g n c : Nat) (K : Int) (w : World) (hK : 0 ≤ K) (hK1 : K ≤ 1073741824) (hn : n ≤ 1048576) (hU : Upto w g n n (marks K n)) :
    Calls Tryz.prog 59 #[.slice (some ⟨g, 0, none⟩) n c, .int .i64 K] w fun e w' => e = .returned (.int .i64 (K + 2 * (n : Int))) ∧ w' = w := by
  have HU := hide hU
  clear hU
  go_enter Tryz.func59, Tryz.ntmps59
  go_wp2
  go_loopw [1, 5] (fun q i wr => wr = w ∧ ∃ j : Nat, j ≤ n ∧ i = .int .i64 j ∧ q = .int .i64 (K + 2 * (j : Int))) (fun _ i _ => n - (intOf i).toNat)
  case atStart => exact ⟨rfl, 0, by omega, rfl, by simp⟩
  case round =>
    obtain ⟨rfl, j, hj, rfl, rfl⟩ := hrel
    by_cases hlt : (j : Int) < (n : Int)
    · have k0 : (0 : Int) ≤ (j : Int) := by omega
      have hA := (unhide HU).1 j (by omega)
      rw [marks_at K n j (by omega)] at hA
      obtain ⟨c0, c1⟩ := hA
      unfold markR at c0 c1
      dsimp only at c0 c1
      generalize hq : K + 2 * (j : Int) = q at *
      have hq0 : 0 ≤ q := by omega
      have hq1 : q ≤ 1109393408 := by omega
      go_wp2_with fail
      go_roundw
      case rel => exact ⟨by first | trivial | rfl, j + 1, by omega, by go_num, by go_num⟩
      case measure => simp [intOf]; omega
    · obtain rfl : j = n := by omega
      go_wp2
      go_ret
      exact ⟨by first | trivial | rfl, rfl⟩
/-- Marks on a list that may be written, whether it has any or not. -/
theorem markF (a : Option Addr) (c lo hi : Nat) (K : Int) (ms : List R) (w : World) (hK : 0 ≤ K) (hK1 : K ≤ 1073741824) (hn : ms.length ≤ 1048576) (h : Lst w a ms lo hi) :
    Calls Tryz.prog 54 #[.slice a ms.length c, .int .i64 K] w fun e w' => e = .returned (.int .i64 (K + 2 * (ms.length : Int))) ∧ w.heap.size ≤ w'.heap.size ∧ Below (min lo w.heap.size) w w' ∧ Lst w' a (marks K ms.length) lo hi ∧ ∀ k, k < w.heap.size → (k < lo ∨ hi ≤ k) → w'.heap[k]? = w.heap[k]? := by
  have hnil : ∀ w', w' = w → w.heap.size ≤ w'.heap.size ∧ Below (min lo w.heap.size) w w' ∧ ∀ k, k < w.heap.size → (k < lo ∨ hi ≤ k) → w'.heap[k]? = w.heap[k]? := by
    rintro w' rfl
    exact ⟨Nat.le_refl _, Below.refl _ _, fun _ _ _ => rfl⟩
  by_cases h0 : ms.length = 0
  · obtain rfl : ms = [] := List.eq_nil_of_length_eq_zero h0
    refine (markS0 a c K w).mono ?_
    rintro e w' ⟨rfl, hw⟩
    obtain ⟨q1, q2, q3⟩ := hnil w' hw
    exact ⟨by simp, q1, q2, .inl rfl, q3⟩
  rcases h with rfl | ⟨g, rfl, h1, h2, h3, hu⟩
  · simp at h0
  refine (markS g ms.length c K ms w hK hK1 hn h3 hu).mono ?_
  rintro e w' ⟨rfl, gr, hu'⟩
  exact ⟨rfl, gr.size, ⟨gr.os, gr.tape, gr.output, gr.size, fun k hk => gr.block k (by omega) (fun e => by cases e; omega)⟩, .inr ⟨g, rfl, h1, h2, Nat.lt_of_lt_of_le h3 gr.size, by rw [marks_len]; exact hu'⟩, fun k hk hne => gr.block k hk (fun e => by cases e; omega)⟩
theorem heldF (a : Option Addr) (c n lo hi : Nat) (K : Int) (w : World) (hK : 0 ≤ K) (hK1 : K ≤ 1073741824) (hn : n ≤ 1048576) (h : Lst w a (marks K n) lo hi) :
    Calls Tryz.prog 59 #[.slice a n c, .int .i64 K] w fun e w' => e = .returned (.int .i64 (K + 2 * (n : Int))) ∧ w' = w := by
  by_cases h0 : n = 0
  · subst h0
    refine (heldS0 a c K w).mono ?_
    rintro e w' ⟨rfl, rfl⟩
    exact ⟨by simp, rfl⟩
  rcases h with h | ⟨g, rfl, _, _, _, hu⟩
  · have := marks_len K n; rw [h] at this; simp at this; omega
  · rw [marks_len] at hu
    exact heldS g n c K w hK hK1 hn hu
theorem cellsR : Tryz.prog.cellsOf 142 = 2 := by kernel_rfl
theorem cells_int : Tryz.prog.cellsOf 3 = 1 := by kernel_rfl
theorem listR {α : Type} {l : List α} (h : l.length = 2) : ∃ c0 c1, l = [c0, c1] := by
  match l, h with
  | [c0, c1], _ => exact ⟨c0, c1, rfl⟩
/-- The cells that read as one. -/
theorem open_one {H : Type} {enc : TypeId × Value → H} {W : World} {base n : Nat} {spare : Nat → Bool} {held : Bool} {c : List Value} {y : DataW H × List MemPlace} (hl : c.length = 2)
    (h : DataW.trod enc Tryz.prog W base spare held n 142 c = some y) : ∃ m : R, c = m.cells := by
  obtain ⟨c0, c1, rfl⟩ := listR hl
  obtain ⟨xs, n, _, _, _, hlen, hf⟩ := DataW.trod_struct Tryz.underlying142 h
  obtain ⟨x0, x1, rfl⟩ := listR hlen
  have k0 := hf 0 _ rfl
  have k1 := hf 1 _ rfl
  simp [cells_int] at k0 k1
  obtain ⟨a0, e0, _, _⟩ := DataW.trod_int Tryz.underlying3 k0
  obtain ⟨a1, e1, _, _⟩ := DataW.trod_int Tryz.underlying3 k1
  simp at e0 e1
  subst e0 e1
  exact ⟨⟨a0, a1⟩, rfl⟩
/-- A slice that came in: what it reads as. -/
theorem open_cell {H : Type} {enc : TypeId × Value → H} {W : World} {v : Value} {fuel : Nat} {y : DataW H × List MemPlace}
    (hf : DataW.trod enc Tryz.prog W 0 (fun _ => true) true fuel 65 [v] = some y) : ∃ a len cap, ∃ ms : List R, v = .slice a len cap ∧ ms.length = len ∧ len ≤ maxLen ∧ RM W a ms := by
  rcases Deep.open_slice Tryz.underlying65 hf with ⟨hcs, _⟩ | ⟨x, len, cap, m, n, D, Pl, hcs, _, hl, hm, hmm, _, hx⟩
  · simp only [List.cons.injEq, and_true] at hcs
    subst hcs
    exact ⟨none, 0, 0, [], rfl, rfl, Nat.zero_le _, .inl rfl⟩
  · simp only [List.cons.injEq, and_true] at hcs
    subst hcs
    simp at hmm
    subst hmm
    rw [cellsR] at hx
    by_cases h0 : len = 0
    · subst h0; exact ⟨_, _, _, [], rfl, rfl, Nat.zero_le _, .inl rfl⟩
    obtain ⟨b, off, spot⟩ := x
    have hsp : spot = none := by
      obtain ⟨cs', h1, _⟩ := hx 0 (by omega)
      obtain ⟨_, hlen, hc⟩ := World.cells?_some h1
      have h2 := hc 0 (by omega)
      rw [List.getElem?_eq_getElem (by omega)] at h2
      simpa [Addr.add] using World.cell?_spot h2
    subst hsp
    have hex : ∀ i, i < len → ∃ m : R, At W b (off + i * 2) m := by
      intro i hi
      obtain ⟨cs', h1, h2⟩ := hx i (by omega)
      obtain ⟨_, hlen, hc⟩ := World.cells?_some h1
      obtain ⟨m, rfl⟩ := open_one hlen h2
      have q0 := hc 0 (by omega)
      have q1 := hc 1 (by omega)
      rw [plain_add, plain_add] at q0 q1
      exact ⟨m, q0, q1⟩
    have hin : Inhabited R := ⟨R.zero⟩
    obtain ⟨V, hV⟩ := Deep.choose_lt hex
    refine ⟨_, _, _, (List.range len).map V, rfl, by simp, Nat.le_trans hl hm, .inr ⟨b, off, rfl, fun i hi => ?_⟩⟩
    have hi' : i < len := by simpa using hi
    have e : ((List.range len).map V).getD i R.zero = V i := by
      rw [List.getD_eq_getElem?_getD, List.getElem?_map, List.getElem?_range hi']; rfl
    rw [e]
    exact hV i hi'
theorem open_list {H : Type} {enc : TypeId × Value → H} {W : World} {a : Option Addr} {len cap : Nat} {d : DataW H} {p : List MemPlace}
    (h : DataW.Trod enc Tryz.prog W 0 (fun _ => true) true 65 (.slice a len cap) d p) : ∃ ms : List R, ms.length = len ∧ len ≤ maxLen ∧ RM W a ms := by
  obtain ⟨fuel, hf⟩ := h
  obtain ⟨a', len', cap', ms, e, h1, h2, h3⟩ := open_cell (v := .slice a len cap) hf
  cases e
  exact ⟨ms, h1, h2, h3⟩
end Ed
end Go.Proofs.YthfcigfgpimimaaGreat
namespace Go.Proofs.YthfcigfgpimimaaGreat
open Go.ChangeShapes Go.WideShapes Go.ChangeAt Go.RowKit
set_option linter.unusedVariables false
set_option linter.unusedSimpArgs false
set_option maxRecDepth 100000
namespace Nt
open W1 Rt
/-- A router: its numbers and its lists. -/
structure Rm where
  x1 : Int
  x2 : Int
  x3 : Int
  x4 : Int
  x5 : Int
  x6 : Int
  ls : List Lk.R
  tw : List Tu.R
  se : List Tu.R
  du : List Tu.R
  ss : List So.R
  es : List Tu.R
  la : List Ed.R
/-- Where its lists lie, and their capacities. -/
structure Pl where
  a1 : Option Addr
  a2 : Option Addr
  a3 : Option Addr
  a4 : Option Addr
  a5 : Option Addr
  a6 : Option Addr
  a7 : Option Addr
  c1 : Nat
  c2 : Nat
  c3 : Nat
  c4 : Nat
  c5 : Nat
  c6 : Nat
  c7 : Nat
def Rm.zero : Rm := ⟨0, 0, 0, 0, 0, 0, [], [], [], [], [], [], []⟩
def Pl.zero : Pl := ⟨none, none, none, none, none, none, none, 0, 0, 0, 0, 0, 0, 0⟩
/-- Its cells. -/
def cl (m : Rm) (p : Pl) : List Value := rC m.x1 m.x2 m.x3 m.x4 m.x5 (.slice p.a1 m.ls.length p.c1) (.slice p.a2 m.tw.length p.c2) (.slice p.a3 m.se.length p.c3) (.slice p.a4 m.du.length p.c4) (.slice p.a5 m.ss.length p.c5) (.slice p.a6 m.es.length p.c6) (.slice p.a7 m.la.length p.c7) m.x6
theorem cl_len (m : Rm) (p : Pl) : (cl m p).length = 13 := rfl
theorem cl_ones (m : Rm) (p : Pl) : ones (cl m p) := rC_ones rfl rfl rfl rfl rfl rfl rfl
def Rd (w : World) (m : Rm) (p : Pl) : Prop := Lk.RM w p.a1 m.ls ∧ Tu.RM w p.a2 m.tw ∧ Tu.RM w p.a3 m.se ∧ Tu.RM w p.a4 m.du ∧ So.RM w p.a5 m.ss ∧ Tu.RM w p.a6 m.es ∧ Ed.RM w p.a7 m.la
theorem Rd.below {w w' : World} {m : Rm} {p : Pl} (h : Rd w m p) (hb : Below w.heap.size w w') : Rd w' m p := ⟨h.1.below hb, h.2.1.below hb, h.2.2.1.below hb, h.2.2.2.1.below hb, h.2.2.2.2.1.below hb, h.2.2.2.2.2.1.below hb, h.2.2.2.2.2.2.below hb⟩
theorem Rd.drew {w : World} {m : Rm} {p : Pl} (h : Rd w m p) : Rd w.drew m p := h
/-- Each list has an address of its own. -/
def Ad (p : Pl) : Prop := (∃ g, p.a1 = some ⟨g, 0, none⟩) ∧ (∃ g, p.a2 = some ⟨g, 0, none⟩) ∧ (∃ g, p.a3 = some ⟨g, 0, none⟩) ∧ (∃ g, p.a4 = some ⟨g, 0, none⟩) ∧ (∃ g, p.a5 = some ⟨g, 0, none⟩) ∧ (∃ g, p.a6 = some ⟨g, 0, none⟩) ∧ (∃ g, p.a7 = some ⟨g, 0, none⟩)
/-- How many elements its lists have. -/
def cnt (m : Rm) : Int := (m.ls.length : Int) + (m.tw.length : Int) + (m.se.length : Int) + (m.du.length : Int) + (m.ss.length : Int) + (m.es.length : Int) + (m.la.length : Int)
def Sm (m : Rm) : Prop := m.ls.length ≤ 1048576 ∧ m.tw.length ≤ 1048576 ∧ m.se.length ≤ 1048576 ∧ m.du.length ≤ 1048576 ∧ m.ss.length ≤ 1048576 ∧ m.es.length ≤ 1048576 ∧ m.la.length ≤ 1048576
def Sx (m : Rm) : Prop := m.ls.length ≤ maxLen ∧ m.tw.length ≤ maxLen ∧ m.se.length ≤ maxLen ∧ m.du.length ≤ maxLen ∧ m.ss.length ≤ maxLen ∧ m.es.length ≤ maxLen ∧ m.la.length ≤ maxLen
theorem cnt_nonneg (m : Rm) : 0 ≤ cnt m := by unfold cnt; omega
theorem sm_of {m : Rm} (h : cnt m ≤ 1048576) : Sm m := by unfold cnt at h; unfold Sm; omega
/-- How many of a list's routers. -/
def tot : List Rm → Int
  | [] => 0
  | m :: r => cnt m + tot r
theorem tot_nonneg : ∀ ms : List Rm, 0 ≤ tot ms
  | [] => Int.le_refl _
  | m :: r => by have := tot_nonneg r; have := cnt_nonneg m; unfold tot; omega
theorem tot_append (a b : List Rm) : tot (a ++ b) = tot a + tot b := by
  induction a with
  | nil => simp [tot]
  | cons m r ih => simp only [List.cons_append, tot, ih]; omega
theorem take_snoc {α : Type} (z : α) {ms : List α} {j : Nat} (h : j < ms.length) : ms.take (j + 1) = ms.take j ++ [ms.getD j z] := by
  rw [List.take_succ_eq_append_getElem h, List.getD_eq_getElem?_getD, List.getElem?_eq_getElem h]; rfl
theorem tot_take {ms : List Rm} {j : Nat} (h : j < ms.length) : tot (ms.take (j + 1)) = tot (ms.take j) + cnt (ms.getD j Rm.zero) := by
  rw [take_snoc Rm.zero h, tot_append]; simp [tot]
theorem tot_split (ms : List Rm) (j : Nat) : tot ms = tot (ms.take j) + tot (ms.drop j) := by rw [← tot_append, List.take_append_drop]
theorem cnt_le {ms : List Rm} {j : Nat} (h : j < ms.length) : cnt (ms.getD j Rm.zero) ≤ tot ms := by
  have h1 := tot_take h
  have h2 := tot_split ms (j + 1)
  have := tot_nonneg (ms.take j)
  have := tot_nonneg (ms.drop (j + 1))
  omega
/-- The slice at a reads as these routers, whose lists lie as ps says. -/
def NR (w : World) (a : Option Addr) (ms : List Rm) (ps : List Pl) : Prop :=
  ms = [] ∨ ∃ g off, a = some ⟨g, off, none⟩ ∧ ∀ i, i < ms.length → w.rangeAt g (off + i * 13) (cl (ms.getD i Rm.zero) (ps.getD i Pl.zero)) ∧ Rd w (ms.getD i Rm.zero) (ps.getD i Pl.zero)
theorem rng_lt {w : World} {g o : Nat} {m : Rm} {p : Pl} (h : w.rangeAt g o (cl m p)) : g < w.heap.size := World.block_lt_of_cell? _ _ (h 0 (.int .i64 m.x1) rfl)
theorem rng_under {w w' : World} {B g o : Nat} {cs : List Value} (h : w.rangeAt g o cs) (hb : Below B w w') (hg : g < B) : w'.rangeAt g o cs := fun j u hu => (hb.cell (p := ⟨g, o + j, none⟩) hg).trans (h j u hu)
theorem rng_below {w w' : World} {g o : Nat} {m : Rm} {p : Pl} (h : w.rangeAt g o (cl m p)) (hb : Below w.heap.size w w') : w'.rangeAt g o (cl m p) := rng_under h hb (rng_lt h)
theorem NR.below {w w' : World} {a : Option Addr} {ms : List Rm} {ps : List Pl} (h : NR w a ms ps) (hb : Below w.heap.size w w') : NR w' a ms ps := by
  rcases h with h | ⟨g, off, rfl, hc⟩
  · exact .inl h
  · exact .inr ⟨g, off, rfl, fun i hi => ⟨rng_below (hc i hi).1 hb, (hc i hi).2.below hb⟩⟩
theorem NR.drew {w : World} {a : Option Addr} {ms : List Rm} {ps : List Pl} (h : NR w a ms ps) : NR w.drew a ms ps := h
/-- The one at a place. -/
theorem NR.at {w : World} {a : Option Addr} {ms : List Rm} {ps : List Pl} (h : NR w a ms ps) {i : Nat} (hi : i < ms.length) : ∃ g off, a = some ⟨g, off, none⟩ ∧ w.rangeAt g (off + i * 13) (cl (ms.getD i Rm.zero) (ps.getD i Pl.zero)) ∧ Rd w (ms.getD i Rm.zero) (ps.getD i Pl.zero) := by
  rcases h with rfl | ⟨g, off, rfl, hc⟩
  · simp at hi
  · exact ⟨g, off, rfl, hc i hi⟩
/-- A router read whole out of a row. -/
theorem loadI {ops : Array Oper} {rest : List Oper} {op : Oper} {a : Act} {w : World} {Q : Exit → Act → World → Prop} (x : Operand) (hgd : op.guard = none) (ho : op.op = .load 80 x) {b o : Nat} {m : Rm} {p : Pl} (h : w.rangeAt b o (cl m p)) (hx : a.eval x = .pointer (some ⟨b, o, none⟩))
    (hk : wpList Tryz.prog ops Q rest (a.put op.dst (.agg (cl m p).toArray)) w) : wpList Tryz.prog ops Q (op :: rest) a w :=
  wpList_load_mid hgd 80 x ho b o hx (cl m p) _ h infoR.1 infoR.2.1 infoR.2.2 hk
theorem execI {op : Oper} {a : Act} {w : World} (x : Operand) (ho : op.op = .load 80 x) {b o : Nat} {m : Rm} {p : Pl} (hx : a.eval x = .pointer (some ⟨b, o, none⟩)) (h : w.rangeAt b o (cl m p)) : (execOp a.eval op).run Tryz.prog w = .ok (.value (.agg (cl m p).toArray)) w := by
  unfold execOp
  simp only [ho, hx, Instr.loadAt, Instr.sureAddr, Sem.run_bind, Sem.run_pure, Result.andThen_ok, run_loadVar_mid w b o 80 (cl m p) _ h infoR.1 infoR.2.1 infoR.2.2]
theorem infoW : Tryz.prog.underlying 67 = some (Tryz.prog.underlying 67).get! ∧ ((Tryz.prog.underlying 67).get!).isRow = true ∧ (Tryz.prog.info? 67).map (·.size) = some 13 := ⟨by kernel_rfl, by kernel_rfl, by kernel_rfl⟩
/-- A router of the laws read whole out of a row. -/
theorem loadW {ops : Array Oper} {rest : List Oper} {op : Oper} {a : Act} {w : World} {Q : Exit → Act → World → Prop} (x : Operand) (hgd : op.guard = none) (ho : op.op = .load 67 x) {b o : Nat} {m : Rm} {p : Pl} (h : w.rangeAt b o (cl m p)) (hx : a.eval x = .pointer (some ⟨b, o, none⟩))
    (hk : wpList Tryz.prog ops Q rest (a.put op.dst (.agg (cl m p).toArray)) w) : wpList Tryz.prog ops Q (op :: rest) a w :=
  wpList_load_mid hgd 67 x ho b o hx (cl m p) _ h infoW.1 infoW.2.1 infoW.2.2 hk
end Nt
end Go.Proofs.YthfcigfgpimimaaGreat
namespace Go.Proofs.YthfcigfgpimimaaGreat
set_option linter.unusedVariables false
namespace St
open W1 Tu
def okR (m : R) : Bool := inB m.key 0 1000000 && (inB m.til 0 1073741824 && inB m.val 0 1073741824)
def stepB (ms : List R) (i : Nat) : Bool := okR (ms.getD i R.zero) && (decide (i = 0) || decide ((ms.getD (i - 1) R.zero).key < (ms.getD i R.zero).key))
def allB (ms : List R) (j : Nat) : Bool := (List.range j).all (stepB ms)
def setB (ms : List R) : Bool := decide (ms.length ≤ 64) && allB ms ms.length
theorem allB_zero (ms : List R) : allB ms 0 = true := rfl
theorem allB_succ {ms : List R} {j : Nat} (h : allB ms j = true) (hs : stepB ms j = true) : allB ms (j + 1) = true := by
  unfold allB at *; rw [List.range_succ, List.all_append, h]; simp [hs]
theorem allB_no {ms : List R} {j : Nat} (hj : j < ms.length) (hs : stepB ms j = false) : setB ms = false := by
  have : allB ms ms.length = false := by
    unfold allB; rw [List.all_eq_false]; exact ⟨j, List.mem_range.2 hj, by rw [hs]; simp⟩
  unfold setB; rw [this, Bool.and_false]
theorem setB_long {ms : List R} (h : 64 < ms.length) : setB ms = false := by unfold setB; rw [decide_eq_false (by omega)]; rfl
theorem setB_all {ms : List R} (h : ms.length ≤ 64) (ha : allB ms ms.length = true) : setB ms = true := by unfold setB; rw [decide_eq_true h, ha]; rfl
theorem step_bad {ms : List R} {j : Nat} (h : okR (ms.getD j R.zero) = false) : stepB ms j = false := by unfold stepB; rw [h]; rfl
theorem step_zero {ms : List R} (h : okR (ms.getD 0 R.zero) = true) : stepB ms 0 = true := by unfold stepB; rw [h]; rfl
theorem step_lt {ms : List R} {j : Nat} (h : okR (ms.getD (j + 1) R.zero) = true) (hk : (ms.getD j R.zero).key < (ms.getD (j + 1) R.zero).key) : stepB ms (j + 1) = true := by
  unfold stepB; rw [h, Nat.add_sub_cancel, decide_eq_true hk]; simp
theorem step_ge {ms : List R} {j : Nat} (hk : (ms.getD (j + 1) R.zero).key ≤ (ms.getD j R.zero).key) : stepB ms (j + 1) = false := by
  unfold stepB; rw [Nat.add_sub_cancel, decide_eq_false (by omega : ¬ (j + 1 = 0)), decide_eq_false (by omega)]; simp
theorem setB_len {ms : List R} (h : setB ms = true) : ms.length ≤ 64 := by unfold setB at h; simp at h; exact h.1
theorem setB_step {ms : List R} (h : setB ms = true) {j : Nat} (hj : j < ms.length) : stepB ms j = true := by
  unfold setB allB at h; simp at h; exact h.2 j hj
theorem setB_ok {ms : List R} (h : setB ms = true) {j : Nat} (hj : j < ms.length) : okR (ms.getD j R.zero) = true := by
  have := setB_step h hj; unfold stepB at this; simp at this; simpa using this.1
theorem ok_bounds {m : R} (h : okR m = true) : 0 ≤ m.key ∧ m.key ≤ 1000000 ∧ 0 ≤ m.til ∧ m.til ≤ 1073741824 ∧ 0 ≤ m.val ∧ m.val ≤ 1073741824 := by
  unfold okR inB at h; simp at h; exact ⟨h.1.1, h.1.2, h.2.1.1, h.2.1.2, h.2.2.1, h.2.2.2⟩
theorem rises {ms : List R} (h : setB ms = true) : ∀ j i, i < j → j < ms.length → (ms.getD i R.zero).key < (ms.getD j R.zero).key
  | 0, i, hi, _ => by omega
  | j + 1, i, hi, hj => by
    have hs := setB_step h hj
    unfold stepB at hs
    rw [Nat.add_sub_cancel, decide_eq_false (by omega : ¬ (j + 1 = 0))] at hs
    simp at hs
    have hk : (ms.getD j R.zero).key < (ms.getD (j + 1) R.zero).key := by simpa using hs.2
    by_cases e : i = j
    · subst e; exact hk
    · have := rises h j i (by omega) (by omega); omega
/-- The first place at which something holds, or the list's length. -/
def placeP (p : R → Bool) (ms : List R) : Nat := (ms.takeWhile fun m => !p m).length
def atKey (k : Int) (m : R) : Bool := decide (k ≤ m.key)
/-- Where a key stands, or would; whether it is there. -/
def place (ms : List R) (k : Int) : Nat := placeP (atKey k) ms
def thereB (ms : List R) (k : Int) : Bool := decide (place ms k < ms.length) && decide ((ms.getD (place ms k) R.zero).key = k)
end St
end Go.Proofs.YthfcigfgpimimaaGreat
namespace Go.Proofs.YthfcigfgpimimaaGreat
set_option linter.unusedVariables false
namespace St
open W1 Tu
def Rise (ms : List R) : Prop := ms.Pairwise fun a b => a.key < b.key
theorem getD_get {ms : List R} {i : Nat} (h : i < ms.length) : ms.getD i R.zero = ms[i] := by rw [List.getD_eq_getElem?_getD, List.getElem?_eq_getElem h]; rfl
theorem rise_of {ms : List R} (h : setB ms = true) : Rise ms := by
  unfold Rise
  rw [List.pairwise_iff_getElem]
  intro i j hi hj hij
  have := rises h j i hij hj
  rw [getD_get hi, getD_get hj] at this; exact this
end St
end Go.Proofs.YthfcigfgpimimaaGreat
namespace Go.Proofs.YthfcigfgpimimaaGreat
open Go.ChangeShapes Go.WideShapes Go.ChangeAt Go.RowKit
namespace St
open W1 Tu
end St
end Go.Proofs.YthfcigfgpimimaaGreat
namespace Go.Proofs.YthfcigfgpimimaaGreat
set_option linter.unusedVariables false
namespace Tw
open W1 Tu St
def hv (m : R) : Int := m.key.tdiv 100
def ha (m : R) : Int := m.key.tmod 100
def okK (m : R) : Bool := inB (hv m) 1 8 && (inB (ha m) 1 8 && !(hv m == ha m))
/-- Whether a set of two-hop neighbors is right; the code of one. -/
def twoB (ms : List R) : Bool := ms.all okK && setB ms
theorem key_eq (m : R) : m.key = 100 * hv m + ha m := (Int.mul_tdiv_add_tmod m.key 100).symm
theorem ok_k {m : R} (h : okK m = true) : (1 ≤ hv m ∧ hv m ≤ 8) ∧ (1 ≤ ha m ∧ ha m ≤ 8) ∧ hv m ≠ ha m := by
  unfold okK inB at h; simp at h; exact ⟨h.1, h.2.1, h.2.2⟩
theorem two_set {ms : List R} (h : twoB ms = true) : setB ms = true := by unfold twoB at h; rw [Bool.and_eq_true] at h; exact h.2
theorem two_ok {ms : List R} (h : twoB ms = true) : ∀ m ∈ ms, okK m = true := by unfold twoB at h; rw [Bool.and_eq_true] at h; exact List.all_eq_true.1 h.1
/-- The first j keys are of two addresses. -/
def keysB (ms : List R) (j : Nat) : Bool := (ms.take j).all okK
theorem keys_zero (ms : List R) : keysB ms 0 = true := rfl
theorem take_one {ms : List R} {j : Nat} (h : j < ms.length) : ms.take (j + 1) = ms.take j ++ [ms.getD j R.zero] := by
  rw [List.take_add_one, List.getElem?_eq_getElem h, List.getD_eq_getElem?_getD, List.getElem?_eq_getElem h]; rfl
theorem keys_succ {ms : List R} {j : Nat} (hj : j < ms.length) (h : keysB ms j = true) (hk : okK (ms.getD j R.zero) = true) : keysB ms (j + 1) = true := by
  unfold keysB at *; rw [take_one hj, List.all_append, h, Bool.true_and, List.all_cons, hk]; rfl
theorem keys_no {ms : List R} {j : Nat} (hj : j < ms.length) (hk : okK (ms.getD j R.zero) = false) : twoB ms = false := by
  cases h : twoB ms
  · rfl
  · have := two_ok h _ (getD_mem hj); rw [hk] at this; cases this
theorem keys_all {ms : List R} (h : keysB ms ms.length = true) : twoB ms = setB ms := by
  unfold keysB at h; rw [List.take_length] at h; unfold twoB; rw [h]; rfl
theorem set_no {ms : List R} (h : setB ms = false) : twoB ms = false := by unfold twoB; rw [h, Bool.and_false]
/-- A place in the order of addresses. -/
def rk (m : R) : Int := 8 * (hv m - 1) + (ha m - 1)
def isHp (v a : Int) (m : R) : Bool := hv m == v && ha m == a
theorem isHp_iff {v a : Int} {m : R} : isHp v a m = true ↔ hv m = v ∧ ha m = a := by unfold isHp; simp
def findT (L : List R) (v a : Int) : Option R := L.find? (isHp v a)
abbrev UpR (L : List R) : Prop := L.Pairwise (fun a b => rk a < rk b)
theorem rk_lt {a b : R} (h1 : okK a = true) (h2 : okK b = true) (h : a.key < b.key) : rk a < rk b := by
  have := ok_k h1; have := ok_k h2; have := key_eq a; have := key_eq b; unfold rk; omega
theorem rk_in {m : R} (h : okK m = true) : 1 ≤ rk m ∧ rk m ≤ 62 := by have := ok_k h; unfold rk; omega
theorem up_of {ms : List R} (h : twoB ms = true) : UpR ms := by
  have hr := rise_of (two_set h)
  have ho := two_ok h
  unfold Rise at hr
  rw [List.pairwise_iff_getElem] at hr
  rw [UpR, List.pairwise_iff_getElem]
  intro i j hi hj hij
  exact rk_lt (ho _ (List.getElem_mem hi)) (ho _ (List.getElem_mem hj)) (hr i j hi hj hij)
theorem up_len (hi : Int) : ∀ (L : List R) (lo : Int), UpR L → (∀ m ∈ L, lo ≤ rk m ∧ rk m ≤ hi) → L.length = 0 ∨ (L.length : Int) ≤ hi - lo + 1
  | [], _, _, _ => .inl rfl
  | m :: t, lo, h, hb => by
    obtain ⟨h1, h2⟩ := List.pairwise_cons.1 h
    have hm := hb m (List.mem_cons_self ..)
    rcases up_len hi t (lo + 1) h2 (fun x hx => ⟨by have := h1 x hx; omega, (hb x (List.mem_cons_of_mem _ hx)).2⟩) with h0 | h0
    · right; rw [List.length_cons, h0]; omega
    · right; rw [List.length_cons]; omega
theorem two_len {ms : List R} (h : twoB ms = true) : ms.length ≤ 62 := by
  rcases up_len 62 ms 1 (up_of h) (fun m hm => rk_in (two_ok h m hm)) with h0 | h0 <;> omega
theorem find_no {L : List R} {v a : Int} (h : ∀ m ∈ L, ¬ (hv m = v ∧ ha m = a)) : findT L v a = none := by
  unfold findT; rw [List.find?_eq_none]; intro m hm; rw [isHp_iff]; exact h m hm
end Tw
end Go.Proofs.YthfcigfgpimimaaGreat
namespace Go.Proofs.YthfcigfgpimimaaGreat
set_option linter.unusedVariables false
namespace Ri
open W1
variable {α : Type} (z : α) (ok : α → Bool) (key : α → Int)
def step (ms : List α) (i : Nat) : Bool := ok (ms.getD i z) && (decide (i = 0) || decide (key (ms.getD (i - 1) z) < key (ms.getD i z)))
def all (ms : List α) (j : Nat) : Bool := (List.range j).all (step z ok key ms)
variable {z ok key} {ms : List α} {j : Nat}
theorem all_zero : all z ok key ms 0 = true := rfl
theorem all_succ (h : all z ok key ms j = true) (hs : step z ok key ms j = true) : all z ok key ms (j + 1) = true := by
  unfold all at *; rw [List.range_succ, List.all_append, h]; simp [hs]
theorem all_no (hj : j < ms.length) (hs : step z ok key ms j = false) : all z ok key ms ms.length = false := by
  unfold all; rw [List.all_eq_false]; exact ⟨j, List.mem_range.2 hj, by rw [hs]; simp⟩
theorem step_bad (h : ok (ms.getD j z) = false) : step z ok key ms j = false := by unfold step; rw [h]; rfl
theorem step_zero (h : ok (ms.getD 0 z) = true) : step z ok key ms 0 = true := by unfold step; rw [h]; rfl
theorem step_lt (h : ok (ms.getD (j + 1) z) = true) (hk : key (ms.getD j z) < key (ms.getD (j + 1) z)) : step z ok key ms (j + 1) = true := by
  unfold step; rw [h, Nat.add_sub_cancel, decide_eq_true hk]; simp
theorem step_ge (hk : key (ms.getD (j + 1) z) ≤ key (ms.getD j z)) : step z ok key ms (j + 1) = false := by
  unfold step; rw [Nat.add_sub_cancel, decide_eq_false (by omega : ¬ (j + 1 = 0)), decide_eq_false (by omega)]; simp
theorem all_step (h : all z ok key ms ms.length = true) (hj : j < ms.length) : step z ok key ms j = true := by
  unfold all at h; simp at h; exact h j hj
theorem all_ok (h : all z ok key ms ms.length = true) (hj : j < ms.length) : ok (ms.getD j z) = true := by
  have := all_step h hj; unfold step at this; rw [Bool.and_eq_true] at this; exact this.1
theorem rises1 (h : all z ok key ms ms.length = true) (hj : j + 1 < ms.length) : key (ms.getD j z) < key (ms.getD (j + 1) z) := by
  have hs := all_step h hj
  unfold step at hs
  rw [Nat.add_sub_cancel, decide_eq_false (by omega : ¬ (j + 1 = 0)), Bool.false_or, Bool.and_eq_true] at hs
  exact of_decide_eq_true hs.2
theorem rises (h : all z ok key ms ms.length = true) : ∀ j i, i < j → j < ms.length → key (ms.getD i z) < key (ms.getD j z)
  | 0, i, hi, _ => by omega
  | j + 1, i, hi, hj => by
    have hk := rises1 h hj
    by_cases e : i = j
    · subst e; exact hk
    · have := rises h j i (by omega) (by omega); omega
/-- Keys from lo on that rise leave no more than their range has. -/
theorem all_long {lo hi : Int} (hb : ∀ m, ok m = true → lo ≤ key m ∧ key m ≤ hi) (h : all z ok key ms ms.length = true) : (ms.length : Int) ≤ hi - lo + 1 ∨ ms.length = 0 := by
  have hg : ∀ i, i < ms.length → lo + (i : Int) ≤ key (ms.getD i z) := by
    intro i
    induction i with
    | zero => intro hi; have := (hb _ (all_ok h hi)).1; omega
    | succ i ih => intro hi; have := rises1 h hi; have := ih (by omega); omega
  by_cases h0 : ms.length = 0
  · exact .inr h0
  · have h1 := hg (ms.length - 1) (by omega)
    have h2 := (hb _ (all_ok h (j := ms.length - 1) (by omega))).2
    left; omega
theorem find_at (p : α → Bool) : ∀ (ms : List α) (j : Nat), j < ms.length → (∀ i, i < j → p (ms.getD i z) = false) → p (ms.getD j z) = true → ms.find? p = some (ms.getD j z)
  | [], j, hj, _, _ => by simp at hj
  | m :: t, 0, _, _, h => by
    have h' : p m = true := by simpa using h
    rw [List.find?_cons_of_pos h']; rfl
  | m :: t, j + 1, hj, h1, h => by
    have h0 : p m = false := by simpa using h1 0 (by omega)
    rw [List.find?_cons_of_neg (by simp [h0])]
    have := find_at p t j (by simpa using hj) (fun i hi => by have := h1 (i + 1) (by omega); simpa using this) (by simpa using h)
    rw [this]; simp
theorem find_no (p : α → Bool) (ms : List α) (h : ∀ i, i < ms.length → p (ms.getD i z) = false) : ms.find? p = none := by
  rw [List.find?_eq_none]
  intro x hx
  obtain ⟨i, hi, rfl⟩ := List.getElem_of_mem hx
  have := h i hi
  rw [List.getD_eq_getElem?_getD, List.getElem?_eq_getElem hi] at this
  simpa using this
end Ri
end Go.Proofs.YthfcigfgpimimaaGreat
namespace Go.Proofs.YthfcigfgpimimaaGreat
set_option linter.unusedVariables false
set_option linter.unusedSimpArgs false
namespace Pl
variable {α : Type}
/-- The first place at which something holds, or the list's length. -/
def place (p : α → Bool) (ms : List α) : Nat := (ms.takeWhile fun m => !p m).length
theorem place_of (z : α) (p : α → Bool) : ∀ (ms : List α) (j : Nat), j ≤ ms.length → (∀ i, i < j → p (ms.getD i z) = false) → (j < ms.length → p (ms.getD j z) = true) → place p ms = j
  | [], j, hj, _, _ => by simp at hj; subst hj; rfl
  | m :: t, 0, _, _, h2 => by
    have h := h2 (by simp)
    simp at h
    unfold place
    rw [List.takeWhile_cons_of_neg (by simp [h])]; rfl
  | m :: t, j + 1, hj, h1, h2 => by
    have h := h1 0 (by omega)
    simp at h
    have ih := place_of z p t j (by simpa using hj) (fun i hi => by have := h1 (i + 1) (by omega); simpa using this) (fun hl => by have := h2 (by simp; omega); simpa using this)
    unfold place at *
    rw [List.takeWhile_cons_of_pos (by simp [h]), List.length_cons, ih]
theorem place_le (p : α → Bool) (ms : List α) : place p ms ≤ ms.length := (List.takeWhile_sublist (p := fun m => !p m) (l := ms)).length_le
theorem place_cons_yes {p : α → Bool} {m : α} {t : List α} (h : p m = true) : place p (m :: t) = 0 := by unfold place; rw [List.takeWhile_cons_of_neg (by simp [h])]; rfl
theorem place_cons_no {p : α → Bool} {m : α} {t : List α} (h : p m = false) : place p (m :: t) = place p t + 1 := by unfold place; rw [List.takeWhile_cons_of_pos (by simp [h]), List.length_cons]
end Pl
namespace Tp
open W1 Tu St Tw
/-- Whether a source is right; whether sources are, the first j of them. -/
def okS (s : So.R) : Bool := inB s.ad 1 8 && (inB s.an 0 65535 && inB s.til 0 1073741824)
abbrev allS (ss : List So.R) (j : Nat) : Bool := Ri.all So.R.zero okS So.R.ad ss j
def srcB (ss : List So.R) : Bool := allS ss ss.length
def isS (a : Int) (s : So.R) : Bool := s.ad == a
def hasS (ss : List So.R) (a : Int) : Bool := (ss.find? (isS a)).isSome
/-- Whether an edge has its source; the first j of them; whether a topology is right. -/
def okE (ss : List So.R) (m : R) : Bool := decide (1 ≤ m.val) && hasS ss (hv m)
def edgB (ss : List So.R) (es : List R) (j : Nat) : Bool := (es.take j).all (okE ss)
def topB (ss : List So.R) (es : List R) : Bool := srcB ss && (twoB es && es.all (okE ss))
theorem ok_ad {s : So.R} (h : okS s = true) : 1 ≤ s.ad ∧ s.ad ≤ 8 := by unfold okS inB at h; simp at h; exact h.1
theorem src_len {ss : List So.R} (h : srcB ss = true) : ss.length ≤ 8 := by
  have := Ri.all_long (lo := 1) (hi := 8) (fun m hm => ok_ad hm) h; omega
theorem top_src {ss : List So.R} {es : List R} (h : topB ss es = true) : srcB ss = true := by unfold topB at h; rw [Bool.and_eq_true] at h; exact h.1
theorem top_edg {ss : List So.R} {es : List R} (h : topB ss es = true) : ∀ m ∈ es, okE ss m = true := by unfold topB at h; rw [Bool.and_eq_true, Bool.and_eq_true] at h; exact List.all_eq_true.1 h.2.2
theorem top_nosrc {ss : List So.R} {es : List R} (h : srcB ss = false) : topB ss es = false := by unfold topB; rw [h]; rfl
theorem top_notwo {ss : List So.R} {es : List R} (h : twoB es = false) : topB ss es = false := by unfold topB; rw [h]; simp
theorem isS_iff {a : Int} {s : So.R} : isS a s = true ↔ s.ad = a := by unfold isS; simp
theorem edg_zero (ss : List So.R) (es : List R) : edgB ss es 0 = true := rfl
theorem edg_succ {ss : List So.R} {es : List R} {j : Nat} (hj : j < es.length) (h : edgB ss es j = true) (hk : okE ss (es.getD j R.zero) = true) : edgB ss es (j + 1) = true := by
  unfold edgB at *; rw [take_one hj, List.all_append, h, Bool.true_and, List.all_cons, hk]; rfl
theorem edg_no {ss : List So.R} {es : List R} {j : Nat} (hj : j < es.length) (hk : okE ss (es.getD j R.zero) = false) : topB ss es = false := by
  cases h : topB ss es
  · rfl
  · have := top_edg h _ (getD_mem hj); rw [hk] at this; cases this
theorem edg_all {ss : List So.R} {es : List R} (hs : srcB ss = true) (h : edgB ss es es.length = true) : topB ss es = twoB es := by
  unfold edgB at h; rw [List.take_length] at h; unfold topB; rw [h, hs]; simp
/-- The check of one edge, its source worked out of a key that may be any number. -/
theorem edge_check {ss : List So.R} {es : List R} {j : Nat} {v : Int} (hj : j < es.length) (hv' : IntKind.i64.wrap ((es.getD j R.zero).key.tdiv 100) = v) (hr : edgB ss es j = true ∨ twoB es = false) :
    ((hasS ss v && decide (1 ≤ (es.getD j R.zero).val)) = false → topB ss es = false) ∧ ((hasS ss v && decide (1 ≤ (es.getD j R.zero).val)) = true → edgB ss es (j + 1) = true ∨ twoB es = false) := by
  cases hs : twoB es
  · exact ⟨fun _ => top_notwo hs, fun _ => .inr rfl⟩
  have hb := ok_bounds (setB_ok (two_set hs) hj)
  have e1 : (es.getD j R.zero).key.tdiv 100 = (es.getD j R.zero).key / 100 := Int.tdiv_eq_ediv_of_nonneg hb.1
  have w1 : v = hv (es.getD j R.zero) := by rw [← hv', IntKind.wrap_i64]; unfold hv; rw [e1]; omega
  have e : (hasS ss v && decide (1 ≤ (es.getD j R.zero).val)) = okE ss (es.getD j R.zero) := by rw [w1]; unfold okE; rw [Bool.and_comm]
  rw [e]
  refine ⟨fun h => edg_no hj h, fun h => .inl (edg_succ hj ?_ h)⟩
  rcases hr with h | h
  · exact h
  · rw [hs] at h; cases h
/-- Addresses that rise. -/
abbrev UpS (ss : List So.R) : Prop := ss.Pairwise (fun a b => a.ad < b.ad)
theorem getD_get {ss : List So.R} {i : Nat} (h : i < ss.length) : ss.getD i So.R.zero = ss[i] := by rw [List.getD_eq_getElem?_getD, List.getElem?_eq_getElem h]; rfl
theorem up_src {ss : List So.R} (h : srcB ss = true) : UpS ss := by
  rw [UpS, List.pairwise_iff_getElem]
  intro i j hi hj hij
  have := Ri.rises h j i hij hj
  rw [getD_get hi, getD_get hj] at this
  exact this
/-- Where an address stands, or would; whether it is there. -/
def atS (a : Int) (s : So.R) : Bool := decide (a ≤ s.ad)
def placeS (ss : List So.R) (a : Int) : Nat := Pl.place (atS a) ss
def thereS (ss : List So.R) (a : Int) : Bool := decide (placeS ss a < ss.length) && decide ((ss.getD (placeS ss a) So.R.zero).ad = a)
theorem place_le (ss : List So.R) (a : Int) : placeS ss a ≤ ss.length := Pl.place_le _ _
theorem place_lt {s : So.R} {t : List So.R} {a : Int} (h : s.ad < a) : placeS (s :: t) a = placeS t a + 1 := Pl.place_cons_no (by unfold atS; exact decide_eq_false (by omega))
theorem place_ge {s : So.R} {t : List So.R} {a : Int} (h : a ≤ s.ad) : placeS (s :: t) a = 0 := Pl.place_cons_yes (by unfold atS; exact decide_eq_true h)
theorem there_lt {s : So.R} {t : List So.R} {a : Int} (h : s.ad < a) : thereS (s :: t) a = thereS t a := by
  unfold thereS; rw [place_lt h]; simp
theorem there_ge {s : So.R} {t : List So.R} {a : Int} (h : a ≤ s.ad) : thereS (s :: t) a = decide (s.ad = a) := by
  unfold thereS; rw [place_ge h]; simp
theorem find_there : ∀ {ss : List So.R}, UpS ss → ∀ a, ss.find? (isS a) = if thereS ss a = true then some (ss.getD (placeS ss a) So.R.zero) else none
  | [], _, a => rfl
  | s :: t, h, a => by
    obtain ⟨h1, h2⟩ := List.pairwise_cons.1 h
    rcases Int.lt_trichotomy s.ad a with hk | hk | hk
    · rw [List.find?_cons_of_neg (by rw [isS_iff]; omega), there_lt hk, place_lt hk, find_there h2 a]; simp
    · rw [List.find?_cons_of_pos (by rw [isS_iff]; exact hk), there_ge (by omega), place_ge (by omega), decide_eq_true hk]; simp
    · rw [there_ge (by omega), decide_eq_false (by omega)]
      simp only [Bool.false_eq_true, if_false]
      rw [List.find?_eq_none]
      intro x hx
      rw [isS_iff]
      rcases List.mem_cons.1 hx with rfl | hx
      · omega
      · have := h1 x hx; omega
theorem has_there {ss : List So.R} (h : UpS ss) (a : Int) : hasS ss a = thereS ss a := by
  unfold hasS; rw [find_there h a]; cases thereS ss a <;> rfl
/-- The source of an address; what SourceOf answers. -/
def fS (ss : List So.R) (k : Int) : So.R := (ss.find? (isS k)).getD So.R.zero
end Tp
end Go.Proofs.YthfcigfgpimimaaGreat
namespace Go.Proofs.YthfcigfgpimimaaGreat
open Go.ChangeShapes Go.WideShapes Go.ChangeAt Go.RowKit
set_option linter.unusedVariables false
set_option maxRecDepth 100000
set_option linter.unusedSimpArgs false
namespace Mt
open W1 Tu Tw Go.Maps
end Mt
end Go.Proofs.YthfcigfgpimimaaGreat
namespace Go.Proofs.YthfcigfgpimimaaGreat
namespace Rg
variable {P : Program} {ops : Array Oper} {Q : Exit → Act → World → Prop} {md : Region.Mode} {S : World → Prop}
/-- An operation that yields v into slot d. -/
theorem tk {i d : Nat} {oi : Oper} {v : Value} {fuel : Nat} {listed : Array Bool} {a : Act} {w : World} (hi : ops[i]? = some oi) (hd : oi.dst = some d)
    (hs : Region.noSelect ops = true) (hf : Region.free md ops listed i = true) (hr : (Region.ready md ops listed).contains i = true)
    (hQ : ∀ c a w, Q (.panic c) (a.put oi.dst v) w → Q (.panic c) a w) (hy : Region.wanted oi (yielded ops a.tmps) = true) (hv : ∀ w, S w → (execOp a.eval oi).run P w = .ok (.value v) w) (hS : S w)
    (h : wpAnyH P md ops Q S fuel (listed.setIfInBounds i true) (a.put (some d) v) w) : wpAnyH P md ops Q S (fuel + 1) listed a w :=
  wpAnyH_take hi hs hf hr hQ (.inl ⟨hy, hv⟩) hS (by rw [hd]; exact h)
/-- An operation that its guard bars. -/
theorem sk {i d : Nat} {oi : Oper} {fuel : Nat} {listed : Array Bool} {a : Act} {w : World} (hi : ops[i]? = some oi) (hd : oi.dst = some d)
    (hs : Region.noSelect ops = true) (hf : Region.free md ops listed i = true) (hr : (Region.ready md ops listed).contains i = true)
    (hQ : ∀ c a w, Q (.panic c) (a.put oi.dst undef) w → Q (.panic c) a w) (hy : Region.wanted oi (yielded ops a.tmps) = false) (hS : S w)
    (h : wpAnyH P md ops Q S fuel (listed.setIfInBounds i true) (a.put (some d) undef) w) : wpAnyH P md ops Q S (fuel + 1) listed a w :=
  wpAnyH_take hi hs hf hr hQ (.inr ⟨hy, rfl⟩) hS (by rw [hd]; exact h)
/-- tk, its conditions paid by themselves (the value is read off by the walk). -/
theorem t {oi : Oper} {v : Value} {fuel : Nat} {listed l' : Array Bool} {a a' : Act} {w : World} (i d : Nat) (h : wpAnyH P md ops Q S fuel l' a' w) (hi : ops[i]? = some oi := by exact rfl) (hd : oi.dst = some d := by exact rfl)
    (hs : Region.noSelect ops = true := by kernel_rfl) (hf : Region.free md ops listed i = true := by kernel_rfl) (hr : (Region.ready md ops listed).contains i = true := by kernel_rfl)
    (hQ : ∀ c a w, Q (.panic c) (a.put oi.dst v) w → Q (.panic c) a w := by exact fun _ _ _ h => h) (hy : Region.wanted oi (yielded ops a.tmps) = true := by rfl)
    (hv : ∀ w, S w → (execOp a.eval oi).run P w = .ok (.value v) w := by (intro w0 hSw; (try dsimp only at hSw); go_simp; (try with_reducible rfl))) (hS : S w := by assumption)
    (hl : listed.setIfInBounds i true = l' := by ((try simp only [List.setIfInBounds_toArray, List.set_cons_zero, List.set_cons_succ]); exact rfl)) (ha : a.put (some d) v = a' := by ((try simp only [Act.put, List.setIfInBounds_toArray, List.set_cons_zero, List.set_cons_succ]); exact rfl))
    : wpAnyH P md ops Q S (fuel + 1) listed a w :=
  tk hi hd hs hf hr hQ hy hv hS (by rw [hl, ha]; exact h)
/-- sk, likewise. -/
theorem s {oi : Oper} {fuel : Nat} {listed l' : Array Bool} {a a' : Act} {w : World} (i d : Nat) (h : wpAnyH P md ops Q S fuel l' a' w) (hi : ops[i]? = some oi := by exact rfl) (hd : oi.dst = some d := by exact rfl)
    (hs : Region.noSelect ops = true := by kernel_rfl) (hf : Region.free md ops listed i = true := by kernel_rfl) (hr : (Region.ready md ops listed).contains i = true := by kernel_rfl)
    (hQ : ∀ c a w, Q (.panic c) (a.put oi.dst undef) w → Q (.panic c) a w := by exact fun _ _ _ h => h) (hy : Region.wanted oi (yielded ops a.tmps) = false := by first | kernel_rfl | rfl) (hS : S w := by assumption)
    (hl : listed.setIfInBounds i true = l' := by ((try simp only [List.setIfInBounds_toArray, List.set_cons_zero, List.set_cons_succ]); exact rfl)) (ha : a.put (some d) undef = a' := by ((try simp only [Act.put, List.setIfInBounds_toArray, List.set_cons_zero, List.set_cons_succ]); exact rfl))
    : wpAnyH P md ops Q S (fuel + 1) listed a w :=
  sk hi hd hs hf hr hQ hy hS (by rw [hl, ha]; exact h)
/-- One operation alone comes up. -/
theorem o {oi : Oper} {fuel : Nat} {listed : Array Bool} {a : Act} {w : World} (i : Nat) (h : ∀ K' : Act → World → Prop, Shut (∀ a w, S w → (S w → wpAnyH P md ops Q S fuel (listed.setIfInBounds i true) a w) → K' a w) → if Region.wanted oi (yielded ops a.tmps) = true then Oper.wp P oi a w K' Q else K' (a.put oi.dst undef) w) (hr : Region.ready md ops listed = [i] := by kernel_rfl) (ho : ops[i]? = some oi := by exact rfl)
    : wpAnyH P md ops Q S (fuel + 1) listed a w :=
  wpAnyH_ready hr (by simp) (AllReadyH.cons ho h AllReadyH.nil)
/-- An operation whose guard lets it pass. -/
theorem y {rest : List Oper} {op : Oper} {a : Act} {w : World} (hw : Region.wanted op (yielded ops a.tmps) = true) (h : ∀ K : Act → World → Prop, (∀ a w, wpList P ops Q rest a w → K a w) → op.wp P a w K Q) : wpList P ops Q (op :: rest) a w :=
  wpList_step fun K hK => by rw [if_pos hw]; exact h K hK
/-- An operation that its guard bars. -/
theorem n {rest : List Oper} {op : Oper} {a : Act} {w : World} (hw : Region.wanted op (yielded ops a.tmps) = false) (h : wpList P ops Q rest (a.put op.dst undef) w) : wpList P ops Q (op :: rest) a w :=
  wpList_step fun K hK => by rw [if_neg (by rw [hw]; exact Bool.false_ne_true)]; exact hK _ _ h
end Rg
end Go.Proofs.YthfcigfgpimimaaGreat
namespace Go.Proofs.YthfcigfgpimimaaGreat
open Go.ChangeShapes Go.WideShapes Go.ChangeAt Go.RowKit
set_option linter.unusedVariables false
set_option linter.unusedSimpArgs false
attribute [local go_sem ↓] Go.wp_at_zero Go.wp_at_succ
namespace St
open W1 Tu
set_option maxHeartbeats 1000000 in
theorem l03Tuple (key til val : Int) (w : World) :
    Calls Tryz.prog 93 #[.agg #[.int .i64 key, .int .i64 til, .int .i64 val]] w fun e w' => e = .returned (.bool (okR ⟨key, til, val⟩)) ∧ Below w.heap.size w w' := by
  cases h1 : inB key 0 1000000
  rotate_left
  cases h2 : inB til 0 1073741824
  rotate_left
  cases h3 : inB val 0 1073741824
  all_goals
    go_enter Tryz.func93, Tryz.ntmps93
    go_wp2_with (go_at_call 36; refine (l01In _ _ _ _).mono ?_; rintro e w' ⟨rfl, rfl⟩)
    go_ret
    refine ⟨ret_bool ?_, (Below.refl _ _).alloc (Nat.le_refl _) _⟩
    unfold okR
    simp [*]
set_option maxHeartbeats 1000000 in
theorem isTuple (key til val : Int) (w : World) :
    Calls Tryz.prog 123 #[.agg #[.int .i64 key, .int .i64 til, .int .i64 val]] w fun e w' => e = .returned (.bool (okR ⟨key, til, val⟩)) ∧ Below w.heap.size w w' := by
  cases h1 : inB key 0 1000000
  rotate_left
  cases h2 : inB til 0 1073741824
  rotate_left
  cases h3 : inB val 0 1073741824
  all_goals
    go_enter Tryz.func123, Tryz.ntmps123
    go_wp2_with (go_at_call 43; refine (within _ _ _ _).mono ?_; rintro e w' ⟨rfl, rfl⟩)
    go_ret
    refine ⟨ret_bool ?_, (Below.refl _ _).alloc (Nat.le_refl _) _⟩
    unfold okR
    simp [*]
theorem sOne {w : World} {g o : Nat} {key til val : Int} (h : At w g o ⟨key, til, val⟩) : At w g o ⟨key, til, val⟩ ∧ w.cell? ⟨g, o, none⟩ = some (.int .i64 key) ∧ w.cell? ⟨g, o + 1, none⟩ = some (.int .i64 til) ∧ w.cell? ⟨g, o + 2, none⟩ = some (.int .i64 val) := ⟨h, h⟩
theorem sTwo {w : World} {g o p : Nat} {m : R} {key til val : Int} (h : At w g o ⟨key, til, val⟩) (h' : At w g p m) :
    (At w g o ⟨key, til, val⟩ ∧ At w g p m) ∧ w.cell? ⟨g, o, none⟩ = some (.int .i64 key) ∧ w.cell? ⟨g, o + 1, none⟩ = some (.int .i64 til) ∧ w.cell? ⟨g, o + 2, none⟩ = some (.int .i64 val) ∧ w.cell? ⟨g, p, none⟩ = some (.int .i64 m.key) := ⟨⟨h, h'⟩, h.1, h.2.1, h.2.2, h'.1⟩
set_option maxRecDepth 100000 in
set_option maxHeartbeats 4000000 in
theorem specOK (a : Option Addr) (ms : List R) (cap : Nat) (w : World) (hm : ms.length ≤ 1048576) (hr : RM w a ms) :
    Calls Tryz.prog 67 #[.slice a ms.length cap] w fun e w' => e = .returned (.bool (setB ms)) ∧ Below w.heap.size w w' := by
  by_cases hbig : (4096 : Int) < ms.length
  · have hf : Hid (setB ms = false) := hide (setB_long (by omega))
    go_enter Tryz.func67, Tryz.ntmps67
    go_wp2
    go_ret
    exact ⟨ret_bool (unhide hf).symm, Below.refl _ _⟩
  have HR := hide hr
  clear hr
  generalize hN : ms.length = n at *
  have HN := hide hN
  clear hN
  go_enter Tryz.func67, Tryz.ntmps67
  go_wp2
  go_loopw [3] (fun i wr => ∃ j : Nat, j ≤ n ∧ i = .int .i64 j ∧ Hid (allB ms j = true) ∧ Hid (Below w.heap.size w wr)) (fun i _ => n - (intOf i).toNat)
  case atStart => exact ⟨0, by omega, rfl, hide (allB_zero _), hide (Below.refl _ _)⟩
  case round =>
    obtain ⟨j, hj, rfl, hrl, hbl⟩ := hrel
    by_cases hlt : (j : Int) < (n : Int)
    · have k0 : (0 : Int) ≤ (j : Int) := by omega
      have hlen : j < ms.length := by rw [unhide HN]; omega
      rcases (unhide HR).below (by exact (unhide hbl)) with e0 | ⟨g, off, rfl, hc⟩
      · exfalso; rw [e0] at hlen; simp at hlen
      have HL := hide hlen
      have hA := hc j hlen
      cases hk : okR (ms.getD j R.zero)
      · clear hc
        have HST := hide (allB_no hlen (step_bad hk))
        have HK := hide hk
        clear hk
        generalize ms.getD j R.zero = m at *
        obtain ⟨key, til, val⟩ := m
        go_wp2_with fail
        refine wp_region_noPanic ?_
        refine wp_region_held_drew (S := fun w' => At w' g (off + j * 3) ⟨key, til, val⟩ ∧ w'.cell? ⟨g, off + j * 3, none⟩ = some (.int .i64 key) ∧ w'.cell? ⟨g, off + j * 3 + 1, none⟩ = some (.int .i64 til) ∧ w'.cell? ⟨g, off + j * 3 + 2, none⟩ = some (.int .i64 val)) (by kernel_rfl) (sOne hA.drew) (fun hHeld => ?_)
        refine Rg.t 0 13 ?_
        refine Rg.t 1 14 ?_
        refine Rg.t 2 15 ?_
        refine Rg.t 3 16 ?_
        (refine Rg.o 4 (fun K hK => ?_); go_simp)
        refine (l03Tuple key til val _).mono ?_
        rintro e w1 ⟨rfl, b1⟩
        rw [unhide HK]
        refine hK.out _ _ (sOne (hA.drew.below b1)) (fun hHeld => ?_)
        clear hK K
        (try simp only [Act.put, List.setIfInBounds_toArray, List.set_cons_zero, List.set_cons_succ])
        refine Rg.t 5 18 ?_
        refine Rg.t 6 19 ?_
        refine Rg.s 7 20 ?_
        refine Rg.s 8 21 ?_
        refine Rg.s 9 22 ?_
        refine Rg.s 10 23 ?_
        refine Rg.s 11 24 ?_
        refine Rg.s 12 25 ?_
        refine Rg.s 13 26 ?_
        refine Rg.s 14 27 ?_
        refine Rg.s 15 28 ?_
        refine Rg.s 16 29 ?_
        refine Rg.s 17 30 ?_
        refine Rg.s 18 31 ?_
        refine Rg.s 19 32 ?_
        refine Rg.s 20 33 ?_
        refine Rg.s 21 34 ?_
        refine Rg.s 22 35 ?_
        refine Rg.t 23 36 ?_
        refine wpAnyH_done (by kernel_rfl) (NoPanic.normal ?_) _
        have hb1 := hide ((unhide hbl).drew.trans (b1.mono (by show w.heap.size ≤ wr.heap.size; exact (unhide hbl).size)))
        go_wp2_with fail
        go_ret
        exact ⟨ret_bool (unhide HST).symm, unhide hb1⟩
      have HK := hide hk
      clear hk
      by_cases hj0 : j = 0
      · subst hj0
        clear hc
        rw [Nat.zero_mul, Nat.add_zero] at hA
        have HST := hide (allB_succ (unhide hrl) (step_zero (unhide HK)))
        generalize ms.getD 0 R.zero = m at *
        obtain ⟨key, til, val⟩ := m
        go_wp2_with fail
        refine wp_region_noPanic ?_
        refine wp_region_held_drew (S := fun w' => At w' g off ⟨key, til, val⟩ ∧ w'.cell? ⟨g, off, none⟩ = some (.int .i64 key) ∧ w'.cell? ⟨g, off + 1, none⟩ = some (.int .i64 til) ∧ w'.cell? ⟨g, off + 2, none⟩ = some (.int .i64 val)) (by kernel_rfl) (sOne hA.drew) (fun hHeld => ?_)
        refine Rg.t 0 13 ?_
        refine Rg.t 1 14 ?_
        refine Rg.t 2 15 ?_
        refine Rg.t 3 16 ?_
        (refine Rg.o 4 (fun K hK => ?_); go_simp)
        refine (l03Tuple key til val _).mono ?_
        rintro e w1 ⟨rfl, b1⟩
        rw [unhide HK]
        refine hK.out _ _ (sOne (hA.drew.below b1)) (fun hHeld => ?_)
        clear hK K
        (try simp only [Act.put, List.setIfInBounds_toArray, List.set_cons_zero, List.set_cons_succ])
        refine Rg.t 5 18 ?_
        refine Rg.t 6 19 ?_
        refine Rg.t 7 20 ?_
        refine Rg.t 8 21 ?_
        refine Rg.t 9 22 ?_
        refine Rg.s 10 23 ?_
        refine Rg.s 11 24 ?_
        refine Rg.s 12 25 ?_
        refine Rg.s 13 26 ?_
        refine Rg.s 14 27 ?_
        refine Rg.s 15 28 ?_
        refine Rg.s 16 29 ?_
        refine Rg.s 17 30 ?_
        refine Rg.s 18 31 ?_
        refine Rg.s 19 32 ?_
        refine Rg.s 20 33 ?_
        refine Rg.s 21 34 ?_
        refine Rg.t 22 35 ?_
        refine Rg.t 23 36 ?_
        refine wpAnyH_done (by kernel_rfl) (NoPanic.normal ?_) _
        have hb1 := hide ((unhide hbl).drew.trans (b1.mono (by show w.heap.size ≤ wr.heap.size; exact (unhide hbl).size)))
        go_wp2_with fail
        go_roundw
        case rel => exact ⟨0 + 1, by omega, by go_num, HST, hb1⟩
        case measure => simp [intOf]; omega
      · obtain ⟨i, hji⟩ : ∃ i, j = i + 1 := ⟨j - 1, by omega⟩
        have HJ := hide hji
        have e1 : (j : Int) - 1 = (i : Int) := by omega
        have i0 : (0 : Int) ≤ (i : Int) := by omega
        have wi : IntKind.i64.wrap (i : Int) = (i : Int) := by rw [IntKind.wrap_i64]; omega
        have i1 : (i : Int) < (n : Int) := by omega
        have j1 : (0 : Int) < (j : Int) := by omega
        have j2 : 0 < j := by omega
        have hP := hc i (by omega)
        have EJ : ms.getD j R.zero = ms.getD (i + 1) R.zero := by rw [hji]
        clear hc hji
        by_cases hk : (ms.getD i R.zero).key < (ms.getD j R.zero).key
        · have HST : Hid (allB ms (j + 1) = true) := hide (allB_succ (unhide hrl) (by rw [unhide HJ]; exact step_lt (by rw [← EJ]; exact unhide HK) (by rw [← EJ]; exact hk)))
          clear EJ
          generalize ms.getD j R.zero = m at *
          generalize ms.getD i R.zero = m0 at *
          obtain ⟨key, til, val⟩ := m
          obtain ⟨key0, til0, val0⟩ := m0
          dsimp only at hk
          go_wp2_with fail
          refine wp_region_noPanic ?_
          refine wp_region_held_drew (S := fun w' => (At w' g (off + j * 3) ⟨key, til, val⟩ ∧ At w' g (off + i * 3) ⟨key0, til0, val0⟩) ∧ w'.cell? ⟨g, off + j * 3, none⟩ = some (.int .i64 key) ∧ w'.cell? ⟨g, off + j * 3 + 1, none⟩ = some (.int .i64 til) ∧ w'.cell? ⟨g, off + j * 3 + 2, none⟩ = some (.int .i64 val) ∧ w'.cell? ⟨g, off + i * 3, none⟩ = some (.int .i64 key0)) (by kernel_rfl) (sTwo hA.drew hP.drew) (fun hHeld => ?_)
          refine Rg.t 0 13 ?_
          refine Rg.t 1 14 ?_
          refine Rg.t 2 15 ?_
          refine Rg.t 3 16 ?_
          (refine Rg.o 4 (fun K hK => ?_); go_simp)
          refine (l03Tuple key til val _).mono ?_
          rintro e w1 ⟨rfl, b1⟩
          rw [unhide HK]
          refine hK.out _ _ (sTwo (hA.drew.below b1) (hP.drew.below b1)) (fun hHeld => ?_)
          clear hK K
          (try simp only [Act.put, List.setIfInBounds_toArray, List.set_cons_zero, List.set_cons_succ])
          refine Rg.t 5 18 ?_
          refine Rg.t 6 19 ?_
          refine Rg.t 7 20 ?_
          refine Rg.t 8 21 ?_
          refine Rg.t 9 22 ?_
          refine Rg.t 10 23 ?_
          refine Rg.t 11 24 ?_
          refine Rg.t 12 25 ?_
          refine Rg.t 13 26 ?_
          refine Rg.t 14 27 ?_
          refine Rg.t 15 28 ?_
          refine Rg.t 16 29 ?_
          refine Rg.t 17 30 ?_
          refine Rg.t 18 31 ?_
          refine Rg.t 19 32 ?_
          refine Rg.t 20 33 ?_
          refine Rg.t 21 34 ?_
          refine Rg.t 22 35 ?_
          refine Rg.t 23 36 ?_
          refine wpAnyH_done (by kernel_rfl) (NoPanic.normal ?_) _
          have hb1 := hide ((unhide hbl).drew.trans (b1.mono (by show w.heap.size ≤ wr.heap.size; exact (unhide hbl).size)))
          go_wp2_with fail
          go_roundw
          case rel => exact ⟨j + 1, by omega, by go_num, HST, hb1⟩
          case measure => simp [intOf]; omega
        · have HST : Hid (setB ms = false) := hide (allB_no (unhide HL) (by rw [unhide HJ]; exact step_ge (by rw [← EJ]; omega)))
          clear EJ
          generalize ms.getD j R.zero = m at *
          generalize ms.getD i R.zero = m0 at *
          obtain ⟨key, til, val⟩ := m
          obtain ⟨key0, til0, val0⟩ := m0
          dsimp only at hk
          go_wp2_with fail
          refine wp_region_noPanic ?_
          refine wp_region_held_drew (S := fun w' => (At w' g (off + j * 3) ⟨key, til, val⟩ ∧ At w' g (off + i * 3) ⟨key0, til0, val0⟩) ∧ w'.cell? ⟨g, off + j * 3, none⟩ = some (.int .i64 key) ∧ w'.cell? ⟨g, off + j * 3 + 1, none⟩ = some (.int .i64 til) ∧ w'.cell? ⟨g, off + j * 3 + 2, none⟩ = some (.int .i64 val) ∧ w'.cell? ⟨g, off + i * 3, none⟩ = some (.int .i64 key0)) (by kernel_rfl) (sTwo hA.drew hP.drew) (fun hHeld => ?_)
          refine Rg.t 0 13 ?_
          refine Rg.t 1 14 ?_
          refine Rg.t 2 15 ?_
          refine Rg.t 3 16 ?_
          (refine Rg.o 4 (fun K hK => ?_); go_simp)
          refine (l03Tuple key til val _).mono ?_
          rintro e w1 ⟨rfl, b1⟩
          rw [unhide HK]
          refine hK.out _ _ (sTwo (hA.drew.below b1) (hP.drew.below b1)) (fun hHeld => ?_)
          clear hK K
          (try simp only [Act.put, List.setIfInBounds_toArray, List.set_cons_zero, List.set_cons_succ])
          refine Rg.t 5 18 ?_
          refine Rg.t 6 19 ?_
          refine Rg.t 7 20 ?_
          refine Rg.t 8 21 ?_
          refine Rg.t 9 22 ?_
          refine Rg.t 10 23 ?_
          refine Rg.t 11 24 ?_
          refine Rg.t 12 25 ?_
          refine Rg.t 13 26 ?_
          refine Rg.t 14 27 ?_
          refine Rg.t 15 28 ?_
          refine Rg.t 16 29 ?_
          refine Rg.t 17 30 ?_
          refine Rg.t 18 31 ?_
          refine Rg.t 19 32 ?_
          refine Rg.t 20 33 ?_
          refine Rg.t 21 34 ?_
          refine Rg.t 22 35 ?_
          refine Rg.t 23 36 ?_
          refine wpAnyH_done (by kernel_rfl) (NoPanic.normal ?_) _
          have hb1 := hide ((unhide hbl).drew.trans (b1.mono (by show w.heap.size ≤ wr.heap.size; exact (unhide hbl).size)))
          go_wp2_with fail
          go_ret
          exact ⟨ret_bool (unhide HST).symm, unhide hb1⟩
    · obtain rfl : j = n := by omega
      by_cases h64 : (j : Int) ≤ 64
      all_goals
        go_wp2
        go_ret
      · exact ⟨ret_bool (setB_all (by rw [unhide HN]; omega) (by rw [unhide HN]; exact unhide hrl)).symm, unhide hbl⟩
      · exact ⟨ret_bool (setB_long (by rw [unhide HN]; omega)).symm, unhide hbl⟩
/-- One in a variable's block. -/
def Bx (w : World) (b : Nat) (m : R) : Prop := w.cell? ⟨b, 0, none⟩ = some (.int .i64 m.key) ∧ w.cell? ⟨b, 1, none⟩ = some (.int .i64 m.til) ∧ w.cell? ⟨b, 2, none⟩ = some (.int .i64 m.val)
theorem Bx.below {w w' : World} {b : Nat} {m : R} (h : Bx w b m) (hb : Below w.heap.size w w') : Bx w' b m := by
  have hg : b < w.heap.size := World.block_lt_of_cell? _ _ h.1
  obtain ⟨h0, h1, h2⟩ := h
  refine ⟨?_, ?_, ?_⟩ <;> (rw [hb.cell hg]; assumption)
theorem Bx.drew {w : World} {b : Nat} {m : R} (h : Bx w b m) : Bx w.drew b m := h
theorem sBox {w : World} {b : Nat} {key til val : Int} (h : Bx w b ⟨key, til, val⟩) : Bx w b ⟨key, til, val⟩ ∧ w.cell? ⟨b, 0, none⟩ = some (.int .i64 key) ∧ w.cell? ⟨b, 1, none⟩ = some (.int .i64 til) ∧ w.cell? ⟨b, 2, none⟩ = some (.int .i64 val) := ⟨h, h⟩
theorem sBox2 {w : World} {b g p : Nat} {m : R} {key til val : Int} (h : Bx w b ⟨key, til, val⟩) (h' : At w g p m) :
    (Bx w b ⟨key, til, val⟩ ∧ At w g p m) ∧ w.cell? ⟨b, 0, none⟩ = some (.int .i64 key) ∧ w.cell? ⟨b, 1, none⟩ = some (.int .i64 til) ∧ w.cell? ⟨b, 2, none⟩ = some (.int .i64 val) ∧ w.cell? ⟨g, p, none⟩ = some (.int .i64 m.key) := ⟨⟨h, h'⟩, h.1, h.2.1, h.2.2, h'.1⟩
set_option maxRecDepth 100000 in
set_option maxHeartbeats 4000000 in
theorem implOK (a : Option Addr) (ms : List R) (cap : Nat) (w : World) (hm : ms.length ≤ 1048576) (hr : RM w a ms) :
    Calls Tryz.prog 106 #[.slice a ms.length cap] w fun e w' => e = .returned (.bool (setB ms)) ∧ Below w.heap.size w w' := by
  by_cases hbig : (64 : Int) < ms.length
  · have hf : Hid (setB ms = false) := hide (setB_long (by omega))
    go_enter Tryz.func106, Tryz.ntmps106
    go_wp2
    go_ret
    exact ⟨ret_bool (unhide hf).symm, Below.refl _ _⟩
  have HR := hide hr
  clear hr
  generalize hN : ms.length = n at *
  have HN := hide hN
  clear hN
  go_enter Tryz.func106, Tryz.ntmps106
  go_wp2
  go_loopw [10] (fun i wr => ∃ j : Nat, j ≤ n ∧ i = .int .i64 j ∧ Hid (allB ms j = true) ∧ Hid (Below w.heap.size w wr)) (fun i _ => n - (intOf i).toNat)
  case atStart => exact ⟨0, by omega, rfl, hide (allB_zero _), hide (Below.refl _ _)⟩
  case round =>
    obtain ⟨j, hj, rfl, hrl, hbl⟩ := hrel
    by_cases hlt : (j : Int) < (n : Int)
    · have k0 : (0 : Int) ≤ (j : Int) := by omega
      have hlen : j < ms.length := by rw [unhide HN]; omega
      rcases (unhide HR).below (by exact (unhide hbl)) with e0 | ⟨g, off, rfl, hc⟩
      · exfalso; rw [e0] at hlen; simp at hlen
      have HL := hide hlen
      have hA := hc j hlen
      have hsz := (unhide hbl).size
      have HBX : Hid (Bx (wr.alloc (.cells #[.int .i64 (ms.getD j R.zero).key, .int .i64 (ms.getD j R.zero).til, .int .i64 (ms.getD j R.zero).val] 111)) wr.heap.size (ms.getD j R.zero)) := hide (by refine ⟨?_, ?_, ?_⟩ <;> simp [World.cell?_alloc_new])
      have HBL := hide ((unhide hbl).alloc hsz (.cells #[.int .i64 (ms.getD j R.zero).key, .int .i64 (ms.getD j R.zero).til, .int .i64 (ms.getD j R.zero).val] 111))
      cases hk : okR (ms.getD j R.zero)
      · clear hc
        have HST := hide (allB_no hlen (step_bad hk))
        have HK := hide hk
        clear hk
        generalize ms.getD j R.zero = m at *
        obtain ⟨key, til, val⟩ := m
        obtain ⟨c0, c1, c2⟩ := hA
        dsimp only at c0 c1 c2
        go_wp2_with fail
        generalize hW : wr.alloc (.cells #[.int .i64 key, .int .i64 til, .int .i64 val] 111) = W0 at *
        clear hW
        refine wp_region_noPanic ?_
        refine wp_region_held_drew (S := fun w' => Bx w' wr.heap.size ⟨key, til, val⟩ ∧ w'.cell? ⟨wr.heap.size, 0, none⟩ = some (.int .i64 key) ∧ w'.cell? ⟨wr.heap.size, 1, none⟩ = some (.int .i64 til) ∧ w'.cell? ⟨wr.heap.size, 2, none⟩ = some (.int .i64 val)) (by kernel_rfl) (sBox (unhide HBX).drew) (fun hHeld => ?_)
        refine Rg.t 0 15 ?_
        (refine Rg.o 1 (fun K hK => ?_); go_simp)
        refine (isTuple key til val _).mono ?_
        rintro e w1 ⟨rfl, b1⟩
        rw [unhide HK]
        refine hK.out _ _ (sBox ((unhide HBX).drew.below b1)) (fun hHeld => ?_)
        clear hK K
        (try simp only [Act.put, List.setIfInBounds_toArray, List.set_cons_zero, List.set_cons_succ])
        refine Rg.t 2 17 ?_
        refine Rg.t 3 18 ?_
        refine Rg.s 4 19 ?_
        refine Rg.s 5 20 ?_
        refine Rg.s 6 21 ?_
        refine Rg.s 7 22 ?_
        refine Rg.s 8 23 ?_
        refine Rg.s 9 24 ?_
        refine Rg.s 10 25 ?_
        refine Rg.s 11 26 ?_
        refine Rg.s 12 27 ?_
        refine Rg.s 13 28 ?_
        refine Rg.s 14 29 ?_
        refine Rg.s 15 30 ?_
        refine Rg.s 16 31 ?_
        refine Rg.t 17 32 ?_
        refine wpAnyH_done (by kernel_rfl) (NoPanic.normal ?_) _
        have hb1 := hide ((unhide HBL).drew.trans (b1.mono (by show w.heap.size ≤ W0.heap.size; exact (unhide HBL).size)))
        go_wp2_with fail
        go_ret
        exact ⟨ret_bool (unhide HST).symm, unhide hb1⟩
      have HK := hide hk
      clear hk
      by_cases hj0 : j = 0
      · subst hj0
        clear hc
        rw [Nat.zero_mul, Nat.add_zero] at hA
        have HST := hide (allB_succ (unhide hrl) (step_zero (unhide HK)))
        generalize ms.getD 0 R.zero = m at *
        obtain ⟨key, til, val⟩ := m
        obtain ⟨c0, c1, c2⟩ := hA
        dsimp only at c0 c1 c2
        go_wp2_with fail
        generalize hW : wr.alloc (.cells #[.int .i64 key, .int .i64 til, .int .i64 val] 111) = W0 at *
        clear hW
        refine wp_region_noPanic ?_
        refine wp_region_held_drew (S := fun w' => Bx w' wr.heap.size ⟨key, til, val⟩ ∧ w'.cell? ⟨wr.heap.size, 0, none⟩ = some (.int .i64 key) ∧ w'.cell? ⟨wr.heap.size, 1, none⟩ = some (.int .i64 til) ∧ w'.cell? ⟨wr.heap.size, 2, none⟩ = some (.int .i64 val)) (by kernel_rfl) (sBox (unhide HBX).drew) (fun hHeld => ?_)
        refine Rg.t 0 15 ?_
        (refine Rg.o 1 (fun K hK => ?_); go_simp)
        refine (isTuple key til val _).mono ?_
        rintro e w1 ⟨rfl, b1⟩
        rw [unhide HK]
        refine hK.out _ _ (sBox ((unhide HBX).drew.below b1)) (fun hHeld => ?_)
        clear hK K
        (try simp only [Act.put, List.setIfInBounds_toArray, List.set_cons_zero, List.set_cons_succ])
        refine Rg.t 2 17 ?_
        refine Rg.t 3 18 ?_
        refine Rg.t 4 19 ?_
        refine Rg.t 5 20 ?_
        refine Rg.t 6 21 ?_
        refine Rg.s 7 22 ?_
        refine Rg.s 8 23 ?_
        refine Rg.s 9 24 ?_
        refine Rg.s 10 25 ?_
        refine Rg.s 11 26 ?_
        refine Rg.s 12 27 ?_
        refine Rg.s 13 28 ?_
        refine Rg.s 14 29 ?_
        refine Rg.s 15 30 ?_
        refine Rg.t 16 31 ?_
        refine Rg.t 17 32 ?_
        refine wpAnyH_done (by kernel_rfl) (NoPanic.normal ?_) _
        have hb1 := hide ((unhide HBL).drew.trans (b1.mono (by show w.heap.size ≤ W0.heap.size; exact (unhide HBL).size)))
        go_wp2_with fail
        go_roundw
        case rel => exact ⟨0 + 1, by omega, by go_num, HST, hb1⟩
        case measure => simp [intOf]; omega
      · obtain ⟨i, hji⟩ : ∃ i, j = i + 1 := ⟨j - 1, by omega⟩
        have HJ := hide hji
        have e1 : (j : Int) - 1 = (i : Int) := by omega
        have i0 : (0 : Int) ≤ (i : Int) := by omega
        have wi : IntKind.i64.wrap (i : Int) = (i : Int) := by rw [IntKind.wrap_i64]; omega
        have i1 : (i : Int) < (n : Int) := by omega
        have j1 : (0 : Int) < (j : Int) := by omega
        have j2 : 0 < j := by omega
        have hP := hide ((hc i (by omega)).below ((Below.refl _ _).alloc (Nat.le_refl _) (.cells #[.int .i64 (ms.getD j R.zero).key, .int .i64 (ms.getD j R.zero).til, .int .i64 (ms.getD j R.zero).val] 111)))
        have EJ : ms.getD j R.zero = ms.getD (i + 1) R.zero := by rw [hji]
        clear hc hji
        by_cases hk : (ms.getD i R.zero).key < (ms.getD j R.zero).key
        · have HST : Hid (allB ms (j + 1) = true) := hide (allB_succ (unhide hrl) (by rw [unhide HJ]; exact step_lt (by rw [← EJ]; exact unhide HK) (by rw [← EJ]; exact hk)))
          clear EJ
          generalize ms.getD j R.zero = m at *
          generalize ms.getD i R.zero = m0 at *
          obtain ⟨key, til, val⟩ := m
          obtain ⟨key0, til0, val0⟩ := m0
          dsimp only at hk
          obtain ⟨c0, c1, c2⟩ := hA
          dsimp only at c0 c1 c2
          go_wp2_with fail
          generalize hW : wr.alloc (.cells #[.int .i64 key, .int .i64 til, .int .i64 val] 111) = W0 at *
          clear hW
          refine wp_region_noPanic ?_
          refine wp_region_held_drew (S := fun w' => (Bx w' wr.heap.size ⟨key, til, val⟩ ∧ At w' g (off + i * 3) ⟨key0, til0, val0⟩) ∧ w'.cell? ⟨wr.heap.size, 0, none⟩ = some (.int .i64 key) ∧ w'.cell? ⟨wr.heap.size, 1, none⟩ = some (.int .i64 til) ∧ w'.cell? ⟨wr.heap.size, 2, none⟩ = some (.int .i64 val) ∧ w'.cell? ⟨g, off + i * 3, none⟩ = some (.int .i64 key0)) (by kernel_rfl) (sBox2 (unhide HBX).drew (unhide hP).drew) (fun hHeld => ?_)
          refine Rg.t 0 15 ?_
          (refine Rg.o 1 (fun K hK => ?_); go_simp)
          refine (isTuple key til val _).mono ?_
          rintro e w1 ⟨rfl, b1⟩
          rw [unhide HK]
          refine hK.out _ _ (sBox2 ((unhide HBX).drew.below b1) ((unhide hP).drew.below b1)) (fun hHeld => ?_)
          clear hK K
          (try simp only [Act.put, List.setIfInBounds_toArray, List.set_cons_zero, List.set_cons_succ])
          refine Rg.t 2 17 ?_
          refine Rg.t 3 18 ?_
          refine Rg.t 4 19 ?_
          refine Rg.t 5 20 ?_
          refine Rg.t 6 21 ?_
          refine Rg.t 7 22 ?_
          refine Rg.t 8 23 ?_
          refine Rg.t 9 24 ?_
          refine Rg.t 10 25 ?_
          refine Rg.t 11 26 ?_
          refine Rg.t 12 27 ?_
          refine Rg.t 13 28 ?_
          refine Rg.t 14 29 ?_
          refine Rg.t 15 30 ?_
          refine Rg.t 16 31 ?_
          refine Rg.t 17 32 ?_
          refine wpAnyH_done (by kernel_rfl) (NoPanic.normal ?_) _
          have hb1 := hide ((unhide HBL).drew.trans (b1.mono (by show w.heap.size ≤ W0.heap.size; exact (unhide HBL).size)))
          go_wp2_with fail
          go_roundw
          case rel => exact ⟨j + 1, by omega, by go_num, HST, hb1⟩
          case measure => simp [intOf]; omega
        · have HST : Hid (setB ms = false) := hide (allB_no (unhide HL) (by rw [unhide HJ]; exact step_ge (by rw [← EJ]; omega)))
          clear EJ
          generalize ms.getD j R.zero = m at *
          generalize ms.getD i R.zero = m0 at *
          obtain ⟨key, til, val⟩ := m
          obtain ⟨key0, til0, val0⟩ := m0
          dsimp only at hk
          obtain ⟨c0, c1, c2⟩ := hA
          dsimp only at c0 c1 c2
          go_wp2_with fail
          generalize hW : wr.alloc (.cells #[.int .i64 key, .int .i64 til, .int .i64 val] 111) = W0 at *
          clear hW
          refine wp_region_noPanic ?_
          refine wp_region_held_drew (S := fun w' => (Bx w' wr.heap.size ⟨key, til, val⟩ ∧ At w' g (off + i * 3) ⟨key0, til0, val0⟩) ∧ w'.cell? ⟨wr.heap.size, 0, none⟩ = some (.int .i64 key) ∧ w'.cell? ⟨wr.heap.size, 1, none⟩ = some (.int .i64 til) ∧ w'.cell? ⟨wr.heap.size, 2, none⟩ = some (.int .i64 val) ∧ w'.cell? ⟨g, off + i * 3, none⟩ = some (.int .i64 key0)) (by kernel_rfl) (sBox2 (unhide HBX).drew (unhide hP).drew) (fun hHeld => ?_)
          refine Rg.t 0 15 ?_
          (refine Rg.o 1 (fun K hK => ?_); go_simp)
          refine (isTuple key til val _).mono ?_
          rintro e w1 ⟨rfl, b1⟩
          rw [unhide HK]
          refine hK.out _ _ (sBox2 ((unhide HBX).drew.below b1) ((unhide hP).drew.below b1)) (fun hHeld => ?_)
          clear hK K
          (try simp only [Act.put, List.setIfInBounds_toArray, List.set_cons_zero, List.set_cons_succ])
          refine Rg.t 2 17 ?_
          refine Rg.t 3 18 ?_
          refine Rg.t 4 19 ?_
          refine Rg.t 5 20 ?_
          refine Rg.t 6 21 ?_
          refine Rg.t 7 22 ?_
          refine Rg.t 8 23 ?_
          refine Rg.t 9 24 ?_
          refine Rg.t 10 25 ?_
          refine Rg.t 11 26 ?_
          refine Rg.t 12 27 ?_
          refine Rg.t 13 28 ?_
          refine Rg.t 14 29 ?_
          refine Rg.t 15 30 ?_
          refine Rg.t 16 31 ?_
          refine Rg.t 17 32 ?_
          refine wpAnyH_done (by kernel_rfl) (NoPanic.normal ?_) _
          have hb1 := hide ((unhide HBL).drew.trans (b1.mono (by show w.heap.size ≤ W0.heap.size; exact (unhide HBL).size)))
          go_wp2_with fail
          go_ret
          exact ⟨ret_bool (unhide HST).symm, unhide hb1⟩
    · obtain rfl : j = n := by omega
      go_wp2
      go_ret
      exact ⟨ret_bool (setB_all (by rw [unhide HN]; omega) (by rw [unhide HN]; exact unhide hrl)).symm, unhide hbl⟩
end St
end Go.Proofs.YthfcigfgpimimaaGreat
namespace Go.Proofs.YthfcigfgpimimaaGreat
open Go.ChangeShapes Go.WideShapes Go.ChangeAt Go.RowKit
set_option linter.unusedVariables false
set_option linter.unusedSimpArgs false
attribute [local go_sem ↓] Go.wp_at_zero Go.wp_at_succ
namespace Tw
open W1 Tu Mt
set_option maxHeartbeats 1000000 in
theorem hopOfKey (k : Int) (w : World) (h0 : 0 ≤ k) (h1 : k ≤ 1000000) : Calls Tryz.prog 122 #[.int .i64 k] w fun e w' => e = .returned (.agg #[.int .i64 (k.tdiv 100), .int .i64 (k.tmod 100)]) ∧ Below w.heap.size w w' := by
  have HB : Hid (Below w.heap.size w w) := hide (Below.refl _ _)
  have e1 : k.tdiv 100 = k / 100 := Int.tdiv_eq_ediv_of_nonneg h0
  have e2 : k.tmod 100 = k % 100 := Int.tmod_eq_emod_of_nonneg h0
  rw [e1, e2]
  go_enter Tryz.func122, Tryz.ntmps122
  go_wp2
  refine bodyPost_ret (v := .agg #[.int .i64 (k / 100), .int .i64 (k % 100)]) (by simp [results, Tryz.results122, go_sem]) rfl ⟨rfl, ?_⟩
  have hB := unhide HB
  (repeat (first | (with_reducible exact hB) | (with_reducible refine Below.drew ?_) | (with_reducible refine Below.setCell ?_ ?_ _; rotate_left; (first | exact Nat.le_refl _ | (simp; done) | (dsimp only; omega))) | (with_reducible refine Below.alloc ?_ ?_ _; rotate_left; (first | exact Nat.le_refl _ | omega | (simp [World.setCell]; omega)))))
/-- Whether a hop is one. -/
def hopB (v a : Int) : Bool := inB v 1 8 && (inB a 1 8 && !(v == a))
set_option maxHeartbeats 1000000 in
theorem isHop (v a : Int) (w : World) : Calls Tryz.prog 132 #[.agg #[.int .i64 v, .int .i64 a]] w fun e w' => e = .returned (.bool (hopB v a)) ∧ Below w.heap.size w w' := by
  have HB : Hid (Below w.heap.size w (w.alloc (.cells #[.int .i64 v, .int .i64 a] 159))) := hide ((Below.refl _ _).alloc (Nat.le_refl _) _)
  cases h1 : inB v 1 8
  rotate_left
  cases h2 : inB a 1 8
  rotate_left
  cases h3 : (v != a)
  all_goals
    go_enter Tryz.func132, Tryz.ntmps132
    go_wp2_with (go_at_call 101; refine (isAddress _ _).mono ?_; rintro e w' ⟨rfl, rfl⟩)
    go_ret
    refine ⟨ret_bool ?_, unhide HB⟩
    unfold hopB
    simp_all
end Tw
end Go.Proofs.YthfcigfgpimimaaGreat
namespace Go.Proofs.YthfcigfgpimimaaGreat
open Go.ChangeShapes Go.WideShapes Go.ChangeAt Go.RowKit
set_option linter.unusedVariables false
set_option linter.unusedSimpArgs false
attribute [local go_sem ↓] Go.wp_at_zero Go.wp_at_succ
namespace St
open W1 Tu
end St
end Go.Proofs.YthfcigfgpimimaaGreat
namespace Go.Proofs.YthfcigfgpimimaaGreat
open Go.ChangeShapes Go.WideShapes Go.ChangeAt Go.RowKit
set_option linter.unusedVariables false
set_option linter.unusedSimpArgs false
attribute [local go_sem ↓] Go.wp_at_zero Go.wp_at_succ
namespace Tw
open W1 Tu St Mt
theorem bx_new (w : World) (m : R) (t : Nat) : Bx (w.alloc (.cells #[.int .i64 m.key, .int .i64 m.til, .int .i64 m.val] t)) w.heap.size m := by
  refine ⟨?_, ?_, ?_⟩ <;> simp [World.cell?_alloc_new]
set_option maxRecDepth 100000 in
set_option maxHeartbeats 2000000 in
theorem areHops (a : Option Addr) (ms : List R) (cap : Nat) (w : World) (hm : ms.length ≤ 1048576) (hr : RM w a ms) :
    Calls Tryz.prog 121 #[.slice a ms.length cap] w fun e w' => e = .returned (.bool (twoB ms)) ∧ Below w.heap.size w w' := by
  have HR := hide hr
  clear hr
  cases hs : setB ms
  · rw [set_no hs]
    have HS := hide hs
    clear hs
    go_enter Tryz.func121, Tryz.ntmps121
    go_wp2_with fail
    refine (St.implOK _ ms cap _ hm (unhide HR)).mono ?_
    rintro e w1 ⟨rfl, b1⟩
    rw [unhide HS]
    have HB := hide b1
    clear b1
    go_wp2_with fail
    go_ret
    exact ⟨rfl, unhide HB⟩
  have HS := hide hs
  clear hs
  generalize hN : ms.length = n at *
  have HN := hide hN
  clear hN
  go_enter Tryz.func121, Tryz.ntmps121
  go_wp2_with fail
  rw [← unhide HN]
  refine (St.implOK _ ms cap _ (by have := unhide HN; omega) (unhide HR)).mono ?_
  rintro e w1 ⟨rfl, b1⟩
  rw [unhide HS]
  have HB1 := hide b1
  clear b1
  go_wp2_with fail
  rw [unhide HN]
  go_loopw [10] (fun i wr => ∃ j : Nat, j ≤ n ∧ i = .int .i64 j ∧ Hid (keysB ms j = true) ∧ Hid (Below w.heap.size w wr)) (fun i _ => n - (intOf i).toNat)
  case atStart => exact ⟨0, by omega, rfl, hide (keys_zero ms), HB1⟩
  case round =>
    obtain ⟨j, hj, rfl, hkb, hbl⟩ := hrel
    by_cases hlt : (j : Int) < (n : Int)
    · have k0 : (0 : Int) ≤ (j : Int) := by omega
      have hlen : j < ms.length := by rw [unhide HN]; omega
      obtain ⟨g, off, rfl⟩ := (unhide HR).form (by omega)
      obtain ⟨c0, c1, c2⟩ := ((unhide HR).below (unhide hbl)).at hlen
      have hbs := (unhide hbl).size
      have hbd := ok_bounds (setB_ok (unhide HS) hlen)
      have HY : Hid (okK (ms.getD j R.zero) = true → keysB ms (j + 1) = true) := hide (fun h => keys_succ hlen (unhide hkb) h)
      have HZ : Hid (okK (ms.getD j R.zero) = false → twoB ms = false) := hide (fun h => keys_no hlen h)
      generalize ms.getD j R.zero = m at *
      have HBA := hide ((unhide hbl).alloc hbs (.cells #[.int .i64 m.key, .int .i64 m.til, .int .i64 m.val] 111))
      obtain ⟨o, ho⟩ : ∃ o, okK m = o := ⟨_, rfl⟩
      have HO : Hid (hopB (m.key.tdiv 100) (m.key.tmod 100) = o) := hide ho
      rw [ho] at HY HZ
      clear ho
      go_wp2_with fail
      generalize hW : wr.alloc (.cells #[.int .i64 m.key, .int .i64 m.til, .int .i64 m.val] 111) = W0 at *
      clear hW
      refine (hopOfKey m.key _ (by omega) (by omega)).mono ?_
      rintro e w2 ⟨rfl, b2⟩
      have HB2 := hide ((unhide HBA).trans (b2.mono (unhide HBA).size))
      clear b2 c0 c1 c2
      generalize m.key.tdiv 100 = v at *
      generalize m.key.tmod 100 = u at *
      go_wp2_with fail
      refine (isHop v u _).mono ?_
      rintro e w3 ⟨rfl, b3⟩
      rw [unhide HO]
      have HB3 := hide ((unhide HB2).trans (b3.mono (unhide HB2).size))
      clear b3
      cases o
      · have HT := hide (unhide HZ rfl)
        go_wp2_with fail
        go_ret
        exact ⟨ret_bool (unhide HT).symm, unhide HB3⟩
      · have HT := hide (unhide HY rfl)
        go_wp2_with fail
        go_roundw
        case rel => exact ⟨j + 1, by omega, by go_num, HT, HB3⟩
        case measure => simp [intOf]; omega
    · obtain rfl : j = n := by omega
      have HT : Hid (twoB ms = true) := hide (by rw [keys_all (by rw [unhide HN]; exact unhide hkb)]; exact unhide HS)
      go_wp2_with fail
      go_ret
      exact ⟨ret_bool (unhide HT).symm, unhide hbl⟩
end Tw
end Go.Proofs.YthfcigfgpimimaaGreat
namespace Go.Proofs.YthfcigfgpimimaaGreat
open Go.ChangeShapes Go.WideShapes Go.ChangeAt Go.RowKit
set_option linter.unusedVariables false
set_option linter.unusedSimpArgs false
set_option maxRecDepth 100000
attribute [local go_sem ↓] Go.wp_at_zero Go.wp_at_succ
namespace Tp
open W1 So
set_option maxHeartbeats 1000000 in
theorem isSource (ad an til : Int) (w : World) :
    Calls Tryz.prog 133 #[.agg #[.int .i64 ad, .int .i64 an, .int .i64 til]] w fun e w' => e = .returned (.bool (okS ⟨ad, an, til⟩)) ∧ Below w.heap.size w w' := by
  have E : Hid (okS ⟨ad, an, til⟩ = (inB ad 1 8 && (inB an 0 65535 && inB til 0 1073741824))) := hide rfl
  cases h1 : inB ad 1 8
  rotate_left
  cases h2 : inB an 0 65535
  rotate_left
  cases h3 : inB til 0 1073741824
  all_goals
    go_enter Tryz.func133, Tryz.ntmps133
    go_wp2_with (first | (go_at_call 43; refine (within _ _ _ _).mono ?_; rintro e w' ⟨rfl, rfl⟩) | (go_at_call 101; refine (isAddress _ _).mono ?_; rintro e w' ⟨rfl, rfl⟩) | (go_at_call 103; refine (isSeq _ _).mono ?_; rintro e w' ⟨rfl, rfl⟩))
    go_ret
    exact ⟨ret_bool (by rw [unhide E]; simp [*]), (Below.refl _ _).alloc (Nat.le_refl _) _⟩
/-- A source in a variable's block. -/
def Bx (w : World) (b : Nat) (m : R) : Prop := w.cell? ⟨b, 0, none⟩ = some (.int .i64 m.ad) ∧ w.cell? ⟨b, 1, none⟩ = some (.int .i64 m.an) ∧ w.cell? ⟨b, 2, none⟩ = some (.int .i64 m.til)
theorem Bx.below {w w' : World} {b : Nat} {m : R} (h : Bx w b m) (hb : Below w.heap.size w w') : Bx w' b m := by
  have hg : b < w.heap.size := World.block_lt_of_cell? _ _ h.1
  obtain ⟨h0, h1, h2⟩ := h
  refine ⟨?_, ?_, ?_⟩ <;> (rw [hb.cell hg]; assumption)
theorem Bx.lt {w : World} {b : Nat} {m : R} (h : Bx w b m) : b < w.heap.size := World.block_lt_of_cell? _ _ h.1
theorem Bx.drew {w : World} {b : Nat} {m : R} (h : Bx w b m) : Bx w.drew b m := h
theorem bx_new (w : World) (m : R) (t : Nat) : Bx (w.alloc (.cells #[.int .i64 m.ad, .int .i64 m.an, .int .i64 m.til] t)) w.heap.size m := by
  refine ⟨?_, ?_, ?_⟩ <;> simp [World.cell?_alloc_new]
theorem sBox {w : World} {b : Nat} {ad an til : Int} (h : Bx w b ⟨ad, an, til⟩) : Bx w b ⟨ad, an, til⟩ ∧ w.cell? ⟨b, 0, none⟩ = some (.int .i64 ad) ∧ w.cell? ⟨b, 1, none⟩ = some (.int .i64 an) ∧ w.cell? ⟨b, 2, none⟩ = some (.int .i64 til) := ⟨h, h⟩
theorem sBox2 {w : World} {b g p : Nat} {m : R} {ad an til : Int} (h : Bx w b ⟨ad, an, til⟩) (h' : At w g p m) :
    (Bx w b ⟨ad, an, til⟩ ∧ At w g p m) ∧ w.cell? ⟨b, 0, none⟩ = some (.int .i64 ad) ∧ w.cell? ⟨b, 1, none⟩ = some (.int .i64 an) ∧ w.cell? ⟨b, 2, none⟩ = some (.int .i64 til) ∧ w.cell? ⟨g, p, none⟩ = some (.int .i64 m.ad) := ⟨⟨h, h'⟩, h.1, h.2.1, h.2.2, h'.1⟩
set_option maxRecDepth 100000 in
set_option maxHeartbeats 4000000 in
theorem areSources (a : Option Addr) (ms : List R) (cap : Nat) (w : World) (hm : ms.length ≤ 1048576) (hr : RM w a ms) :
    Calls Tryz.prog 124 #[.slice a ms.length cap] w fun e w' => e = .returned (.bool (srcB ms)) ∧ Below w.heap.size w w' := by
  have HR := hide hr
  clear hr
  generalize hN : ms.length = n at *
  have HN := hide hN
  clear hN
  go_enter Tryz.func124, Tryz.ntmps124
  go_wp2
  go_loopw [7] (fun i wr => ∃ j : Nat, j ≤ n ∧ i = .int .i64 j ∧ Hid (allS ms j = true) ∧ Hid (Below w.heap.size w wr)) (fun i _ => n - (intOf i).toNat)
  case atStart => exact ⟨0, by omega, rfl, hide Ri.all_zero, hide (Below.refl _ _)⟩
  case round =>
    obtain ⟨j, hj, rfl, hrl, hbl⟩ := hrel
    by_cases hlt : (j : Int) < (n : Int)
    · have k0 : (0 : Int) ≤ (j : Int) := by omega
      have hlen : j < ms.length := by rw [unhide HN]; omega
      rcases (unhide HR).below (by exact (unhide hbl)) with e0 | ⟨g, off, rfl, hc⟩
      · exfalso; rw [e0] at hlen; simp at hlen
      have HL := hide hlen
      have hA := hc j hlen
      have hsz := (unhide hbl).size
      have HBX := hide (bx_new wr (ms.getD j R.zero) 107)
      have HBL := hide ((unhide hbl).alloc hsz (.cells #[.int .i64 (ms.getD j R.zero).ad, .int .i64 (ms.getD j R.zero).an, .int .i64 (ms.getD j R.zero).til] 107))
      cases hk : okS (ms.getD j R.zero)
      · clear hc
        have HST := hide (Ri.all_no hlen (Ri.step_bad (key := R.ad) hk))
        have HK := hide hk
        clear hk
        generalize ms.getD j R.zero = m at *
        obtain ⟨ad, an, til⟩ := m
        obtain ⟨c0, c1, c2⟩ := hA
        dsimp only at c0 c1 c2
        go_wp2_with fail
        generalize hW : wr.alloc (.cells #[.int .i64 ad, .int .i64 an, .int .i64 til] 107) = W0 at *
        clear hW
        refine wp_region_noPanic ?_
        refine wp_region_held_drew (S := fun w' => Bx w' wr.heap.size ⟨ad, an, til⟩ ∧ w'.cell? ⟨wr.heap.size, 0, none⟩ = some (.int .i64 ad) ∧ w'.cell? ⟨wr.heap.size, 1, none⟩ = some (.int .i64 an) ∧ w'.cell? ⟨wr.heap.size, 2, none⟩ = some (.int .i64 til)) (by kernel_rfl) (sBox (unhide HBX).drew) (fun hHeld => ?_)
        refine Rg.t 0 12 ?_
        (refine Rg.o 1 (fun K hK => ?_); go_simp)
        refine (isSource ad an til _).mono ?_
        rintro e w2 ⟨rfl, b2⟩
        rw [unhide HK]
        refine hK.out _ _ (sBox ((unhide HBX).drew.below b2)) (fun hHeld => ?_)
        clear hK K
        (try simp only [Act.put, List.setIfInBounds_toArray, List.set_cons_zero, List.set_cons_succ])
        refine Rg.t 2 14 ?_
        refine Rg.t 3 15 ?_
        refine Rg.s 4 16 ?_
        refine Rg.s 5 17 ?_
        refine Rg.s 6 18 ?_
        refine Rg.s 7 19 ?_
        refine Rg.s 8 20 ?_
        refine Rg.s 9 21 ?_
        refine Rg.s 10 22 ?_
        refine Rg.s 11 23 ?_
        refine Rg.s 12 24 ?_
        refine Rg.s 13 25 ?_
        refine Rg.s 14 26 ?_
        refine Rg.s 15 27 ?_
        refine Rg.s 16 28 ?_
        refine Rg.t 17 29 ?_
        refine wpAnyH_done (by kernel_rfl) (NoPanic.normal ?_) _
        have hb1 := hide ((unhide HBL).drew.trans (b2.mono (by show w.heap.size ≤ W0.heap.size; exact (unhide HBL).size)))
        go_wp2_with fail
        go_ret
        exact ⟨ret_bool (unhide HST).symm, unhide hb1⟩
      have HK := hide hk
      clear hk
      by_cases hj0 : j = 0
      · subst hj0
        clear hc
        rw [Nat.zero_mul, Nat.add_zero] at hA
        have HST := hide (Ri.all_succ (unhide hrl) (Ri.step_zero (key := R.ad) (unhide HK)))
        generalize ms.getD 0 R.zero = m at *
        obtain ⟨ad, an, til⟩ := m
        obtain ⟨c0, c1, c2⟩ := hA
        dsimp only at c0 c1 c2
        go_wp2_with fail
        generalize hW : wr.alloc (.cells #[.int .i64 ad, .int .i64 an, .int .i64 til] 107) = W0 at *
        clear hW
        refine wp_region_noPanic ?_
        refine wp_region_held_drew (S := fun w' => Bx w' wr.heap.size ⟨ad, an, til⟩ ∧ w'.cell? ⟨wr.heap.size, 0, none⟩ = some (.int .i64 ad) ∧ w'.cell? ⟨wr.heap.size, 1, none⟩ = some (.int .i64 an) ∧ w'.cell? ⟨wr.heap.size, 2, none⟩ = some (.int .i64 til)) (by kernel_rfl) (sBox (unhide HBX).drew) (fun hHeld => ?_)
        refine Rg.t 0 12 ?_
        (refine Rg.o 1 (fun K hK => ?_); go_simp)
        refine (isSource ad an til _).mono ?_
        rintro e w2 ⟨rfl, b2⟩
        rw [unhide HK]
        refine hK.out _ _ (sBox ((unhide HBX).drew.below b2)) (fun hHeld => ?_)
        clear hK K
        (try simp only [Act.put, List.setIfInBounds_toArray, List.set_cons_zero, List.set_cons_succ])
        refine Rg.t 2 14 ?_
        refine Rg.t 3 15 ?_
        refine Rg.t 4 16 ?_
        refine Rg.t 5 17 ?_
        refine Rg.t 6 18 ?_
        refine Rg.s 7 19 ?_
        refine Rg.s 8 20 ?_
        refine Rg.s 9 21 ?_
        refine Rg.s 10 22 ?_
        refine Rg.s 11 23 ?_
        refine Rg.s 12 24 ?_
        refine Rg.s 13 25 ?_
        refine Rg.s 14 26 ?_
        refine Rg.s 15 27 ?_
        refine Rg.t 16 28 ?_
        refine Rg.t 17 29 ?_
        refine wpAnyH_done (by kernel_rfl) (NoPanic.normal ?_) _
        have hb1 := hide ((unhide HBL).drew.trans (b2.mono (by show w.heap.size ≤ W0.heap.size; exact (unhide HBL).size)))
        go_wp2_with fail
        go_roundw
        case rel => exact ⟨0 + 1, by omega, by go_num, HST, hb1⟩
        case measure => simp [intOf]; omega
      · obtain ⟨i, hji⟩ : ∃ i, j = i + 1 := ⟨j - 1, by omega⟩
        have HJ := hide hji
        have e1 : (j : Int) - 1 = (i : Int) := by omega
        have i0 : (0 : Int) ≤ (i : Int) := by omega
        have wi : IntKind.i64.wrap (i : Int) = (i : Int) := by rw [IntKind.wrap_i64]; omega
        have i1 : (i : Int) < (n : Int) := by omega
        have j1 : (0 : Int) < (j : Int) := by omega
        have j2 : 0 < j := by omega
        have hP := hide ((hc i (by omega)).below ((Below.refl _ _).alloc (Nat.le_refl _) (.cells #[.int .i64 (ms.getD j R.zero).ad, .int .i64 (ms.getD j R.zero).an, .int .i64 (ms.getD j R.zero).til] 107)))
        have EJ : ms.getD j R.zero = ms.getD (i + 1) R.zero := by rw [hji]
        clear hc hji
        by_cases hk : (ms.getD i R.zero).ad < (ms.getD j R.zero).ad
        · have HST : Hid (allS ms (j + 1) = true) := hide (Ri.all_succ (unhide hrl) (by rw [unhide HJ]; exact Ri.step_lt (by rw [← EJ]; exact unhide HK) (by rw [← EJ]; exact hk)))
          clear EJ
          generalize ms.getD i R.zero = m0 at *
          obtain ⟨ad0, an0, til0⟩ := m0
          dsimp only at hk
          generalize ms.getD j R.zero = m at *
          obtain ⟨ad, an, til⟩ := m
          obtain ⟨c0, c1, c2⟩ := hA
          dsimp only at hk c0 c1 c2
          go_wp2_with fail
          generalize hW : wr.alloc (.cells #[.int .i64 ad, .int .i64 an, .int .i64 til] 107) = W0 at *
          clear hW
          refine wp_region_noPanic ?_
          refine wp_region_held_drew (S := fun w' => (Bx w' wr.heap.size ⟨ad, an, til⟩ ∧ At w' g (off + i * 3) ⟨ad0, an0, til0⟩) ∧ w'.cell? ⟨wr.heap.size, 0, none⟩ = some (.int .i64 ad) ∧ w'.cell? ⟨wr.heap.size, 1, none⟩ = some (.int .i64 an) ∧ w'.cell? ⟨wr.heap.size, 2, none⟩ = some (.int .i64 til) ∧ w'.cell? ⟨g, off + i * 3, none⟩ = some (.int .i64 ad0)) (by kernel_rfl) (sBox2 (unhide HBX).drew (unhide hP).drew) (fun hHeld => ?_)
          refine Rg.t 0 12 ?_
          (refine Rg.o 1 (fun K hK => ?_); go_simp)
          refine (isSource ad an til _).mono ?_
          rintro e w2 ⟨rfl, b2⟩
          rw [unhide HK]
          refine hK.out _ _ (sBox2 ((unhide HBX).drew.below b2) ((unhide hP).drew.below b2)) (fun hHeld => ?_)
          clear hK K
          (try simp only [Act.put, List.setIfInBounds_toArray, List.set_cons_zero, List.set_cons_succ])
          refine Rg.t 2 14 ?_
          refine Rg.t 3 15 ?_
          refine Rg.t 4 16 ?_
          refine Rg.t 5 17 ?_
          refine Rg.t 6 18 ?_
          refine Rg.t 7 19 ?_
          refine Rg.t 8 20 ?_
          refine Rg.t 9 21 ?_
          refine Rg.t 10 22 ?_
          refine Rg.t 11 23 ?_
          refine Rg.t 12 24 ?_
          refine Rg.t 13 25 ?_
          refine Rg.t 14 26 ?_
          refine Rg.t 15 27 ?_
          refine Rg.t 16 28 ?_
          refine Rg.t 17 29 ?_
          refine wpAnyH_done (by kernel_rfl) (NoPanic.normal ?_) _
          have hb1 := hide ((unhide HBL).drew.trans (b2.mono (by show w.heap.size ≤ W0.heap.size; exact (unhide HBL).size)))
          go_wp2_with fail
          go_roundw
          case rel => exact ⟨j + 1, by omega, by go_num, HST, hb1⟩
          case measure => simp [intOf]; omega
        · have HST : Hid (srcB ms = false) := hide (Ri.all_no (unhide HL) (show Ri.step R.zero okS R.ad ms j = false by rw [unhide HJ]; exact Ri.step_ge (by rw [← EJ]; omega)))
          clear EJ
          generalize ms.getD i R.zero = m0 at *
          obtain ⟨ad0, an0, til0⟩ := m0
          dsimp only at hk
          generalize ms.getD j R.zero = m at *
          obtain ⟨ad, an, til⟩ := m
          obtain ⟨c0, c1, c2⟩ := hA
          dsimp only at hk c0 c1 c2
          go_wp2_with fail
          generalize hW : wr.alloc (.cells #[.int .i64 ad, .int .i64 an, .int .i64 til] 107) = W0 at *
          clear hW
          refine wp_region_noPanic ?_
          refine wp_region_held_drew (S := fun w' => (Bx w' wr.heap.size ⟨ad, an, til⟩ ∧ At w' g (off + i * 3) ⟨ad0, an0, til0⟩) ∧ w'.cell? ⟨wr.heap.size, 0, none⟩ = some (.int .i64 ad) ∧ w'.cell? ⟨wr.heap.size, 1, none⟩ = some (.int .i64 an) ∧ w'.cell? ⟨wr.heap.size, 2, none⟩ = some (.int .i64 til) ∧ w'.cell? ⟨g, off + i * 3, none⟩ = some (.int .i64 ad0)) (by kernel_rfl) (sBox2 (unhide HBX).drew (unhide hP).drew) (fun hHeld => ?_)
          refine Rg.t 0 12 ?_
          (refine Rg.o 1 (fun K hK => ?_); go_simp)
          refine (isSource ad an til _).mono ?_
          rintro e w2 ⟨rfl, b2⟩
          rw [unhide HK]
          refine hK.out _ _ (sBox2 ((unhide HBX).drew.below b2) ((unhide hP).drew.below b2)) (fun hHeld => ?_)
          clear hK K
          (try simp only [Act.put, List.setIfInBounds_toArray, List.set_cons_zero, List.set_cons_succ])
          refine Rg.t 2 14 ?_
          refine Rg.t 3 15 ?_
          refine Rg.t 4 16 ?_
          refine Rg.t 5 17 ?_
          refine Rg.t 6 18 ?_
          refine Rg.t 7 19 ?_
          refine Rg.t 8 20 ?_
          refine Rg.t 9 21 ?_
          refine Rg.t 10 22 ?_
          refine Rg.t 11 23 ?_
          refine Rg.t 12 24 ?_
          refine Rg.t 13 25 ?_
          refine Rg.t 14 26 ?_
          refine Rg.t 15 27 ?_
          refine Rg.t 16 28 ?_
          refine Rg.t 17 29 ?_
          refine wpAnyH_done (by kernel_rfl) (NoPanic.normal ?_) _
          have hb1 := hide ((unhide HBL).drew.trans (b2.mono (by show w.heap.size ≤ W0.heap.size; exact (unhide HBL).size)))
          go_wp2_with fail
          go_ret
          exact ⟨ret_bool (unhide HST).symm, unhide hb1⟩
    · obtain rfl : j = n := by omega
      have HO : Hid (srcB ms = true) := hide (by unfold srcB; rw [unhide HN]; exact unhide hrl)
      go_wp2
      go_ret
      exact ⟨ret_bool (unhide HO).symm, unhide hbl⟩
theorem up_at {ms : List R} (h : UpS ms) (k : Int) : ∀ i j, i < j → j < ms.length → atS k (ms.getD i R.zero) = true → atS k (ms.getD j R.zero) = true := by
  intro i j hij hj hi
  have := (List.pairwise_iff_getElem.1 h) i j (by omega) hj hij
  rw [← getD_get (by omega), ← getD_get hj] at this
  unfold atS at *
  exact decide_eq_true (by have := of_decide_eq_true hi; omega)
theorem cloAt (ad an til k : Int) (b : Nat) (w : World) (hc : w.cell? ⟨b, 0, none⟩ = some (.int .i64 k)) :
    Calls Tryz.prog 135 #[.agg #[.int .i64 ad, .int .i64 an, .int .i64 til], .pointer (some ⟨b, 0, none⟩)] w fun e w' => e = .returned (.bool (atS k ⟨ad, an, til⟩)) ∧ Below w.heap.size w w' := by
  have hlt : b < w.heap.size := World.block_lt_of_cell? _ _ hc
  have hne : ¬ b = w.heap.size := by omega
  by_cases h : k ≤ ad
  all_goals
    go_enter Tryz.func135, Tryz.ntmps135
    go_wp2
    go_ret
    exact ⟨ret_bool (by unfold atS; simp [h]), (Below.refl _ _).alloc (Nat.le_refl _) _⟩
set_option maxHeartbeats 2000000 in
theorem firstAt (b : Nat) (a : Option Addr) (k : Int) (ms : List R) (cap : Nat) (w : World) (hr : RM w a ms) (hs : UpS ms) (hm : ms.length ≤ 4096) (hb : w.cell? ⟨b, 0, none⟩ = some (.int .i64 k)) :
    Calls Tryz.prog 134 #[.slice a ms.length cap, .func (.func 135) #[] #[.pointer (some ⟨b, 0, none⟩)]] w fun e w' => e = .returned (.int .i64 (Pl.place (atS k) ms)) ∧ Below w.heap.size w w' := by
  have HR := hide hr
  have HB := hide hb
  have HUP := hide (up_at hs k)
  have hblt := World.block_lt_of_cell? _ _ hb
  clear hr hs hb
  generalize hN : ms.length = n at *
  have HN := hide hN
  clear hN
  go_enter Tryz.func134, Tryz.ntmps134
  go_wp2
  go_loopw [5, 6] (fun lo hi wr => ∃ low high : Nat, low ≤ high ∧ high ≤ n ∧ lo = .int .i64 low ∧ hi = .int .i64 high ∧ Hid (∀ i, i < low → atS k (ms.getD i R.zero) = false) ∧ Hid (∀ i, high ≤ i → i < n → atS k (ms.getD i R.zero) = true) ∧ Hid (Below w.heap.size w wr)) (fun lo hi _ => (intOf hi - intOf lo).toNat)
  case atStart => exact ⟨0, n, by omega, by omega, rfl, rfl, hide (fun i hi => by omega), hide (fun i hi h2 => by omega), hide (Below.refl _ _)⟩
  case round =>
    obtain ⟨low, high, hlh, hhn, rfl, rfl, h1, h2, hbl⟩ := hrel
    by_cases hlt : (low : Int) < (high : Int)
    · obtain ⟨mid, hmid⟩ : ∃ mid : Nat, mid = low + (high - low) / 2 := ⟨_, rfl⟩
      have hm1 : low ≤ mid := by omega
      have hm2 : mid < high := by omega
      have em : (low : Int) + ((high : Int) - (low : Int)) / 2 = (mid : Int) := by omega
      have et : ((high : Int) - (low : Int)).tdiv 2 = ((high : Int) - (low : Int)) / 2 := Int.tdiv_eq_ediv_of_nonneg (by omega)
      have k0 : (0 : Int) ≤ (mid : Int) := by omega
      have k1 : (mid : Int) < (n : Int) := by omega
      obtain ⟨g, off, rfl⟩ := (unhide HR).form (by rw [unhide HN]; omega)
      have hA := ((unhide HR).below (unhide hbl)).at (i := mid) (by rw [unhide HN]; omega)
      have HC := hide ((unhide hbl).cell (p := ⟨b, 0, none⟩) hblt)
      have HP : Hid (atS k (ms.getD mid R.zero) = true → ∀ i, mid ≤ i → i < n → atS k (ms.getD i R.zero) = true) := hide (fun h i hi hn => by
        by_cases e : mid = i
        · subst e; exact h
        · exact unhide HUP mid i (by omega) hn h)
      have HQ : Hid (atS k (ms.getD mid R.zero) = false → ∀ i, i < mid + 1 → atS k (ms.getD i R.zero) = false) := hide (fun h i hi => by
        by_cases e : mid = i
        · subst e; exact h
        · cases hb : atS k (ms.getD i R.zero)
          · rfl
          · rw [unhide HUP i mid (by omega) (by omega) hb] at h; cases h)
      clear hmid
      generalize ms.getD mid R.zero = m at *
      obtain ⟨ad, an, til⟩ := m
      obtain ⟨c0, c1, c2⟩ := hA
      dsimp only at c0 c1 c2
      go_wp2_with fail
      refine (cloAt ad an til k b _ ((unhide HC).trans (unhide HB))).mono ?_
      rintro e w1 ⟨rfl, b1⟩
      have hb1 := hide ((unhide hbl).trans (b1.mono (unhide hbl).size))
      clear c0 c1 c2 b1
      cases hp : atS k ⟨ad, an, til⟩
      · have HST := hide (unhide HQ hp)
        go_wp2_with fail
        exact ⟨⟨mid + 1, high, by omega, by omega, by go_num, rfl, HST, h2, hb1⟩, by simp [intOf]; omega⟩
      · have HST := hide (unhide HP hp)
        go_wp2_with fail
        exact ⟨⟨low, mid, by omega, by omega, rfl, rfl, h1, HST, hb1⟩, by simp [intOf]; omega⟩
    · obtain rfl : low = high := by omega
      have HST : Hid (Pl.place (atS k) ms = low) := hide (Pl.place_of R.zero _ ms low (by rw [unhide HN]; omega) (unhide h1) (fun h => unhide h2 low (Nat.le_refl _) (by rw [unhide HN] at h; exact h)))
      go_wp2_with fail
      go_ret
      exact ⟨ret_int (by rw [unhide HST]), unhide hbl⟩
theorem there_no {ms : List R} {k : Int} {p : Nat} (e : placeS ms k = p) (h : ms.length ≤ p) : thereS ms k = false := by unfold thereS; rw [e, decide_eq_false (by omega)]; rfl
theorem there_ne {ms : List R} {k : Int} {p : Nat} (e : placeS ms k = p) (h : ¬ (ms.getD p R.zero).ad = k) : thereS ms k = false := by unfold thereS; rw [e, decide_eq_false h, Bool.and_false]
theorem there_yes {ms : List R} {k : Int} {p : Nat} (e : placeS ms k = p) (hl : p < ms.length) (h : (ms.getD p R.zero).ad = k) : thereS ms k = true := by unfold thereS; rw [e, decide_eq_true hl, decide_eq_true h]; rfl
theorem sKey {w : World} {b g o : Nat} {k : Int} {m : R} (h : w.cell? ⟨b, 0, none⟩ = some (.int .i64 k)) (h' : At w g o m) : w.cell? ⟨b, 0, none⟩ = some (.int .i64 k) ∧ w.cell? ⟨g, o, none⟩ = some (.int .i64 m.ad) := ⟨h, h'.1⟩
set_option maxRecDepth 100000 in
set_option maxHeartbeats 2000000 in
theorem sourcePlace (a : Option Addr) (ms : List R) (cap : Nat) (k : Int) (w : World) (hr : RM w a ms) (hs : UpS ms) (hm : ms.length ≤ 4096) :
    Calls Tryz.prog 126 #[.slice a ms.length cap, .int .i64 k] w fun e w' => e = .returned (.tuple #[.int .i64 (placeS ms k), .bool (thereS ms k)]) ∧ Below w.heap.size w w' := by
  have HR := hide hr
  have HS := hide hs
  have hl := Pl.place_le (atS k) ms
  clear hr hs
  have HC : Hid ((w.alloc (.cells #[.int .i64 k] 3)).cell? ⟨w.heap.size, 0, none⟩ = some (.int .i64 k)) := hide (by simp [World.cell?_alloc_new])
  have HBA : Hid (Below w.heap.size w (w.alloc (.cells #[.int .i64 k] 3))) := hide ((Below.refl _ _).alloc (Nat.le_refl _) _)
  obtain ⟨p, hp⟩ : ∃ p, placeS ms k = p := ⟨_, rfl⟩
  have HP := hide hp
  have HP' : Hid (Pl.place (atS k) ms = p) := hide hp
  rw [show Pl.place (atS k) ms = p from hp] at hl
  clear hp
  have hmf : ∀ (fn : Fn) (first cap : Array Value) (w : World), (Instr.makeFunc fn first cap).run Tryz.prog w = .ok (.func fn first cap) w := fun _ _ _ _ => rfl
  go_enter Tryz.func126, Tryz.ntmps126
  go_wp2_with fail
  refine (firstAt w.heap.size a k ms cap _ ((unhide HR).below (unhide HBA)) (unhide HS) hm (unhide HC)).mono ?_
  rintro e w1 ⟨rfl, b1⟩
  rw [unhide HP']
  have hb1 := hide ((unhide HBA).trans (b1.mono (unhide HBA).size))
  have hcell := (b1.cell (p := ⟨w.heap.size, 0, none⟩) (by simp)).trans (unhide HC)
  have HR1 := hide ((unhide HR).below (unhide hb1))
  clear HC HBA b1
  by_cases hlt : (p : Int) < (ms.length : Int)
  · obtain ⟨g, off, rfl⟩ := (unhide HR1).form (by omega)
    have hA := (unhide HR1).at (i := p) (by omega)
    have k0 : (0 : Int) ≤ (p : Int) := by omega
    have hlen : p < ms.length := by omega
    by_cases hk : (ms.getD p R.zero).ad = k
    · have HT := hide (there_yes (unhide HP) hlen hk)
      generalize ms.getD p R.zero = m at *
      have hk' : (m.ad == k) = true := by simpa using hk
      clear hk
      go_wp2_with fail
      refine wp_region_noPanic ?_
      refine wp_region_held_drew (S := fun w' => w'.cell? ⟨w.heap.size, 0, none⟩ = some (.int .i64 k) ∧ w'.cell? ⟨g, off + p * 3, none⟩ = some (.int .i64 m.ad)) (by kernel_rfl) (sKey hcell hA.drew) (fun hHeld => ?_)
      refine Rg.t 0 10 ?_
      refine Rg.t 1 11 ?_
      refine Rg.t 2 12 ?_
      refine Rg.t 3 13 ?_
      refine Rg.t 4 14 ?_
      refine Rg.t 5 15 ?_
      refine Rg.t 6 16 ?_
      refine Rg.t 7 17 ?_
      refine Rg.t 8 18 ?_
      refine Rg.t 9 19 ?_
      refine Rg.t 10 20 ?_
      refine Rg.t 11 21 ?_
      refine Rg.t 12 22 ?_
      refine Rg.t 13 23 ?_
      refine Rg.t 14 4 ?_
      refine Rg.t 15 5 ?_
      refine wpAnyH_done (by kernel_rfl) (NoPanic.normal ?_) _
      go_wp2_with fail
      go_ret2
      rw [unhide HT, unhide HP]
      exact ⟨rfl, (unhide hb1).drew⟩
    · have HT := hide (there_ne (unhide HP) hk)
      generalize ms.getD p R.zero = m at *
      have hk' : (m.ad == k) = false := by simpa using hk
      go_wp2_with fail
      refine wp_region_noPanic ?_
      refine wp_region_held_drew (S := fun w' => w'.cell? ⟨w.heap.size, 0, none⟩ = some (.int .i64 k) ∧ w'.cell? ⟨g, off + p * 3, none⟩ = some (.int .i64 m.ad)) (by kernel_rfl) (sKey hcell hA.drew) (fun hHeld => ?_)
      refine Rg.t 0 10 ?_
      refine Rg.t 1 11 ?_
      refine Rg.t 2 12 ?_
      refine Rg.t 3 13 ?_
      refine Rg.t 4 14 ?_
      refine Rg.t 5 15 ?_
      refine Rg.t 6 16 ?_
      refine Rg.t 7 17 ?_
      refine Rg.t 8 18 ?_
      refine Rg.t 9 19 ?_
      refine Rg.t 10 20 ?_
      refine Rg.t 11 21 ?_
      refine Rg.t 12 22 ?_
      refine Rg.t 13 23 ?_
      refine Rg.t 14 4 ?_
      refine Rg.t 15 5 ?_
      refine wpAnyH_done (by kernel_rfl) (NoPanic.normal ?_) _
      go_wp2_with fail
      go_ret2
      rw [unhide HT, unhide HP]
      exact ⟨rfl, (unhide hb1).drew⟩
  · obtain rfl : p = ms.length := by omega
    have HT := hide (there_no (unhide HP) (by omega))
    go_wp2_with fail
    refine wp_region_noPanic ?_
    refine wp_region_held_drew (S := fun w' => True) (by kernel_rfl) trivial (fun hHeld => ?_)
    refine Rg.t 0 10 ?_
    refine Rg.t 1 11 ?_
    refine Rg.t 2 12 ?_
    refine Rg.t 3 13 ?_
    refine Rg.t 4 14 ?_
    refine Rg.t 5 15 ?_
    refine Rg.s 6 16 ?_
    refine Rg.s 7 17 ?_
    refine Rg.s 8 18 ?_
    refine Rg.s 9 19 ?_
    refine Rg.s 10 20 ?_
    refine Rg.s 11 21 ?_
    refine Rg.s 12 22 ?_
    refine Rg.t 13 23 ?_
    refine Rg.t 14 4 ?_
    refine Rg.t 15 5 ?_
    refine wpAnyH_done (by kernel_rfl) (NoPanic.normal ?_) _
    go_wp2_with fail
    go_ret2
    rw [unhide HT, unhide HP]
    exact ⟨rfl, (unhide hb1).drew⟩
set_option maxHeartbeats 1000000 in
theorem hasSource (a : Option Addr) (ms : List R) (cap : Nat) (k : Int) (w : World) (hr : RM w a ms) (hs : UpS ms) (hm : ms.length ≤ 4096) :
    Calls Tryz.prog 108 #[.slice a ms.length cap, .int .i64 k] w fun e w' => e = .returned (.bool (hasS ms k)) ∧ Below w.heap.size w w' := by
  rw [has_there hs k]
  have HR := hide hr
  have HS := hide hs
  clear hr hs
  go_enter Tryz.func108, Tryz.ntmps108
  go_wp2_with fail
  refine (sourcePlace a ms cap k _ (unhide HR) (unhide HS) hm).mono ?_
  rintro e w1 ⟨rfl, b1⟩
  have HB := hide b1
  clear b1
  go_wp2_with fail
  go_ret
  exact ⟨rfl, unhide HB⟩
set_option maxHeartbeats 1000000 in
theorem endsOfKey (k : Int) (w : World) (h0 : 0 ≤ k) (h1 : k ≤ 1000000) : Calls Tryz.prog 125 #[.int .i64 k] w fun e w' => e = .returned (.agg #[.int .i64 (k.tdiv 100), .int .i64 (k.tmod 100)]) ∧ Below w.heap.size w w' := by
  have HB : Hid (Below w.heap.size w (w.alloc (.cells #[.int .i64 0, .int .i64 0] 163))) := hide ((Below.refl _ _).alloc (Nat.le_refl _) _)
  obtain ⟨v, hv⟩ : ∃ v, k.tdiv 100 = v := ⟨_, rfl⟩
  obtain ⟨u, hu⟩ : ∃ u, k.tmod 100 = u := ⟨_, rfl⟩
  rw [hv, hu]
  have HV := hide hv
  have HU := hide hu
  clear hv hu
  go_enter Tryz.func125, Tryz.ntmps125
  go_wp2_with fail
  refine (Tw.hopOfKey k _ h0 h1).mono ?_
  rintro e w1 ⟨rfl, b1⟩
  rw [unhide HV, unhide HU]
  obtain ⟨hc, hf⟩ := bcell b1
  have hz1 := b1.size
  simp at hz1
  have hz2 : w.heap.size < w1.heap.size := by omega
  have hne : ¬ w.heap.size = w1.heap.size := by omega
  have HB1 := hide ((unhide HB).trans (b1.mono (unhide HB).size))
  clear b1
  go_wp2_with fail
  refine bodyPost_ret (v := .agg #[.int .i64 v, .int .i64 u]) (by simp [results, Tryz.results125, go_sem, hc, hz1, hz2, hne]) rfl ⟨rfl, ?_⟩
  have hB := unhide HB1
  (repeat (first | (with_reducible exact hB) | (with_reducible refine Below.drew ?_) | (with_reducible refine Below.setCell ?_ ?_ _; rotate_left; (first | exact Nat.le_refl _ | (simp; done) | (dsimp only; omega))) | (with_reducible refine Below.alloc ?_ ?_ _; rotate_left; (first | exact Nat.le_refl _ | omega | (simp [World.setCell]; omega)))))
end Tp
end Go.Proofs.YthfcigfgpimimaaGreat
namespace Go.Proofs.YthfcigfgpimimaaGreat
open Go.ChangeShapes Go.WideShapes Go.ChangeAt Go.RowKit
set_option linter.unusedVariables false
set_option linter.unusedSimpArgs false
set_option maxRecDepth 100000
attribute [local go_sem ↓] Go.wp_at_zero Go.wp_at_succ
namespace Tp
open W1 Tu St Tw
/-- A box of two values. -/
def Bx2 (w : World) (b : Nat) (x y : Value) : Prop := w.cell? ⟨b, 0, none⟩ = some x ∧ w.cell? ⟨b, 1, none⟩ = some y
theorem Bx2.lt {w : World} {b : Nat} {x y : Value} (h : Bx2 w b x y) : b < w.heap.size := World.block_lt_of_cell? _ _ h.1
theorem Bx2.below {w w' : World} {b : Nat} {x y : Value} (h : Bx2 w b x y) (hb : Below w.heap.size w w') : Bx2 w' b x y := ⟨(hb.cell (p := ⟨b, 0, none⟩) h.lt).trans h.1, (hb.cell (p := ⟨b, 1, none⟩) h.lt).trans h.2⟩
theorem Bx2.drew {w : World} {b : Nat} {x y : Value} (h : Bx2 w b x y) : Bx2 w.drew b x y := h
theorem Bx2.but {w w' : World} {b : Nat} {x y : Value} (h : Bx2 w b x y) (hb : w'.heap[b]? = w.heap[b]?) : Bx2 w' b x y := ⟨(World.cell?_of_block (a := ⟨b, 0, none⟩) hb).trans h.1, (World.cell?_of_block (a := ⟨b, 1, none⟩) hb).trans h.2⟩
theorem bx2_new (w : World) (x y : Value) (t : Nat) : Bx2 (w.alloc (.cells #[x, y] t)) w.heap.size x y := by
  constructor <;> simp [World.cell?_alloc_new]
theorem sTB {w : World} {b B : Nat} {key til val : Int} {x y : Value} (h : St.Bx w b ⟨key, til, val⟩) (hB : Bx2 w B x y) : (St.Bx w b ⟨key, til, val⟩ ∧ Bx2 w B x y) ∧ w.cell? ⟨b, 0, none⟩ = some (.int .i64 key) ∧ w.cell? ⟨b, 2, none⟩ = some (.int .i64 val) ∧ w.cell? ⟨B, 0, none⟩ = some x := ⟨⟨h, hB⟩, h.1, h.2.2, hB.1⟩
set_option maxHeartbeats 4000000 in
theorem implOK (a : Option Addr) (ss : List So.R) (ca : Nat) (b : Option Addr) (es : List R) (cb : Nat) (w : World) (hm : ss.length ≤ 1048576) (hl : es.length ≤ 1048576) (hr : So.RM w a ss) (hr' : RM w b es) :
    Calls Tryz.prog 107 #[.agg #[.slice a ss.length ca, .slice b es.length cb]] w fun e w' => e = .returned (.bool (topB ss es)) ∧ Below w.heap.size w w' := by
  have HA : Hid (Below w.heap.size w (w.alloc (.cells #[.slice a ss.length ca, .slice b es.length cb] 77))) := hide ((Below.refl _ _).alloc (Nat.le_refl _) _)
  have HX : Hid (Bx2 (w.alloc (.cells #[.slice a ss.length ca, .slice b es.length cb] 77)) w.heap.size (.slice a ss.length ca) (.slice b es.length cb)) := hide (bx2_new w _ _ _)
  have HR := hide (hr.below (unhide HA))
  have HE := hide (hr'.below (unhide HA))
  clear hr hr'
  cases hs : srcB ss
  · rw [top_nosrc hs]
    have HS := hide hs
    clear hs
    go_enter Tryz.func107, Tryz.ntmps107
    go_wp2_with fail
    refine (areSources _ ss ca _ hm (unhide HR)).mono ?_
    rintro e w1 ⟨rfl, b1⟩
    rw [unhide HS]
    have HB1 := hide ((unhide HA).trans (b1.mono (unhide HA).size))
    clear b1
    go_wp2_with fail
    go_ret
    exact ⟨rfl, unhide HB1⟩
  have HS := hide hs
  have h8 := src_len hs
  have HU := hide (up_src hs)
  clear hs
  cases ht : twoB es
  · rw [top_notwo ht]
    have HT := hide ht
    clear ht
    go_enter Tryz.func107, Tryz.ntmps107
    go_wp2_with fail
    refine (areSources _ ss ca _ hm (unhide HR)).mono ?_
    rintro e w1 ⟨rfl, b1⟩
    rw [unhide HS]
    have HB1 := hide ((unhide HA).trans (b1.mono (unhide HA).size))
    have HE1 := hide ((unhide HE).below b1)
    obtain ⟨z0, z1⟩ := (unhide HX).below b1
    clear b1
    go_wp2_with fail
    refine (Tw.areHops _ es cb _ hl (unhide HE1)).mono ?_
    rintro e w2 ⟨rfl, b2⟩
    rw [unhide HT]
    have HB2 := hide ((unhide HB1).trans (b2.mono (unhide HB1).size))
    clear b2
    go_wp2_with fail
    go_ret
    exact ⟨rfl, unhide HB2⟩
  have HT := hide ht
  clear ht
  obtain ⟨A, hA⟩ : ∃ A, topB ss es = A := ⟨_, rfl⟩
  have HTA := hide hA
  rw [hA]
  clear hA
  obtain ⟨n, hN⟩ : ∃ n, es.length = n := ⟨_, rfl⟩
  have HN := hide hN
  obtain ⟨k, hK⟩ : ∃ k, ss.length = k := ⟨_, rfl⟩
  have HK := hide hK
  rw [hN, hK] at HA HX HR HE ⊢
  rw [hN] at hl
  rw [hK] at hm h8
  clear hN hK
  go_enter Tryz.func107, Tryz.ntmps107
  go_wp2_with fail
  rw [← unhide HK]
  refine (areSources _ ss ca _ (by rw [unhide HK]; exact hm) (by have := unhide HR; rw [← unhide HK] at this; exact this)).mono ?_
  rintro e w1 ⟨rfl, b1⟩
  rw [unhide HS]
  rw [unhide HK] at b1
  have HB1 := hide ((unhide HA).trans (b1.mono (unhide HA).size))
  have HE1 := hide ((unhide HE).below b1)
  have HR1 := hide ((unhide HR).below b1)
  have HX1 := hide ((unhide HX).below b1)
  obtain ⟨z0, z1⟩ := unhide HX1
  clear b1
  go_wp2_with fail
  rw [← unhide HN]
  refine (Tw.areHops _ es cb _ (by rw [unhide HN]; exact hl) (unhide HE1)).mono ?_
  rintro e w2 ⟨rfl, b2⟩
  rw [unhide HT]
  clear z0 z1
  have HB2 := hide ((unhide HB1).trans (b2.mono (unhide HB1).size))
  have HE2 := hide ((unhide HE1).below b2)
  have HR2 := hide ((unhide HR1).below b2)
  have HX2 := hide ((unhide HX1).below b2)
  obtain ⟨z0, z1⟩ := unhide HX2
  clear b2 HE HR HX HE1 HR1 HX1 HB1 HA
  go_wp2_with fail
  clear z0 z1
  go_loopw [18] (fun i wr => ∃ j : Nat, j ≤ n ∧ i = .int .i64 j ∧ Hid (edgB ss es j = true) ∧ Hid (Below w2.heap.size w2 wr)) (fun i _ => n - (intOf i).toNat)
  case atStart => exact ⟨0, by omega, rfl, hide (edg_zero ss es), hide (Below.refl _ _)⟩
  case round =>
    obtain ⟨j, hj, rfl, hed, hbl⟩ := hrel
    have HBW := hide ((unhide HB2).trans ((unhide hbl).mono (unhide HB2).size))
    by_cases hlt : (j : Int) < (n : Int)
    · have k0 : (0 : Int) ≤ (j : Int) := by omega
      have hlen : j < es.length := by rw [unhide HN]; omega
      obtain ⟨g, off, rfl⟩ := (unhide HE2).form (by omega)
      have hA := ((unhide HE2).below (unhide hbl)).at hlen
      have hbd := ok_bounds (setB_ok (two_set (unhide HT)) hlen)
      have HY : Hid (okE ss (es.getD j R.zero) = true → edgB ss es (j + 1) = true) := hide (fun h => edg_succ hlen (unhide hed) h)
      have HZ : Hid (okE ss (es.getD j R.zero) = false → A = false) := hide (fun h => by rw [← unhide HTA]; exact edg_no hlen h)
      have HO : Hid (okE ss (es.getD j R.zero) = (decide (1 ≤ (es.getD j R.zero).val) && hasS ss ((es.getD j R.zero).key.tdiv 100))) := hide rfl
      generalize es.getD j R.zero = m at *
      obtain ⟨key, til, val⟩ := m
      obtain ⟨c0, c1, c2⟩ := hA
      dsimp only at c0 c1 c2 hbd HO
      have HBX : Hid (St.Bx (wr.alloc (.cells #[.int .i64 key, .int .i64 til, .int .i64 val] 111)) wr.heap.size ⟨key, til, val⟩) := hide (Tw.bx_new wr ⟨key, til, val⟩ _)
      have hbs := (unhide HBW).size
      have HBA := hide ((unhide HBW).alloc hbs (.cells #[.int .i64 key, .int .i64 til, .int .i64 val] 111))
      have HBN := hide ((unhide hbl).alloc (unhide hbl).size (.cells #[.int .i64 key, .int .i64 til, .int .i64 val] 111))
      have HX3 := hide ((unhide HX2).below (unhide HBN))
      have HR3 := hide ((unhide HR2).below (unhide HBN))
      by_cases hv1 : val < 1
      · have HF := hide (unhide HZ (by rw [unhide HO, decide_eq_false (by omega)]; rfl))
        go_wp2_with fail
        generalize hW : wr.alloc (.cells #[.int .i64 key, .int .i64 til, .int .i64 val] 111) = W0 at *
        clear hW c0 c1 c2
        refine wp_region_noPanic ?_
        refine wp_region_held_drew (S := fun w' => (St.Bx w' wr.heap.size ⟨key, til, val⟩ ∧ Bx2 w' w.heap.size (.slice a k ca) (.slice (some ⟨g, off, none⟩) n cb)) ∧ w'.cell? ⟨wr.heap.size, 0, none⟩ = some (.int .i64 key) ∧ w'.cell? ⟨wr.heap.size, 2, none⟩ = some (.int .i64 val) ∧ w'.cell? ⟨w.heap.size, 0, none⟩ = some (.slice a k ca)) (by kernel_rfl) (sTB (unhide HBX).drew (unhide HX3).drew) (fun hHeld => ?_)
        refine Rg.t 0 22 ?_
        refine Rg.t 1 23 ?_
        refine Rg.t 2 24 ?_
        refine Rg.t 3 25 ?_
        refine Rg.s 4 26 ?_
        refine Rg.s 5 27 ?_
        refine Rg.s 6 28 ?_
        refine Rg.s 7 29 ?_
        refine Rg.s 8 30 ?_
        refine Rg.s 9 31 ?_
        refine Rg.s 10 32 ?_
        refine Rg.s 11 33 ?_
        refine Rg.t 12 34 ?_
        refine wpAnyH_done (by kernel_rfl) (NoPanic.normal ?_) _
        clear hHeld
        go_wp2_with fail
        go_ret
        exact ⟨ret_bool (unhide HF).symm, (unhide HBA).drew⟩
      · obtain ⟨v, hv'⟩ : ∃ v, key.tdiv 100 = v := ⟨_, rfl⟩
        obtain ⟨u, hu'⟩ : ∃ u, key.tmod 100 = u := ⟨_, rfl⟩
        have HV := hide hv'
        have HU' := hide hu'
        rw [hv'] at HO
        clear hv' hu'
        obtain ⟨o, ho⟩ : ∃ o, hasS ss v = o := ⟨_, rfl⟩
        have HH := hide ho
        have HO2 : Hid (okE ss ⟨key, til, val⟩ = o) := hide (by rw [unhide HO, decide_eq_true (by omega), ho]; rfl)
        clear ho HO
        have hix : ∀ W : World, (Instr.index 163 (.agg #[.int .i64 v, .int .i64 u]) (.int .i64 0)).run Tryz.prog W = .ok (.int .i64 v) W := fun _ => by kernel_rfl
        go_wp2_with fail
        generalize hW : wr.alloc (.cells #[.int .i64 key, .int .i64 til, .int .i64 val] 111) = W0 at *
        clear hW c0 c1 c2
        refine wp_region_noPanic ?_
        refine wp_region_held_drew (S := fun w' => (St.Bx w' wr.heap.size ⟨key, til, val⟩ ∧ Bx2 w' w.heap.size (.slice a k ca) (.slice (some ⟨g, off, none⟩) n cb)) ∧ w'.cell? ⟨wr.heap.size, 0, none⟩ = some (.int .i64 key) ∧ w'.cell? ⟨wr.heap.size, 2, none⟩ = some (.int .i64 val) ∧ w'.cell? ⟨w.heap.size, 0, none⟩ = some (.slice a k ca)) (by kernel_rfl) (sTB (unhide HBX).drew (unhide HX3).drew) (fun hHeld => ?_)
        refine Rg.t 0 22 ?_
        refine Rg.t 1 23 ?_
        refine Rg.t (v := .bool false) 2 24 ?_
        refine Rg.t 3 25 ?_
        refine Rg.t 4 26 ?_
        refine Rg.t 5 27 ?_
        refine Rg.t 6 28 ?_
        refine Rg.t 7 29 ?_
        (refine Rg.o 8 (fun K hK => ?_); go_simp)
        refine (endsOfKey key _ (by omega) (by omega)).mono ?_
        rintro e w4 ⟨rfl, b4_⟩
        rw [unhide HV, unhide HU']
        have b4 : Below W0.heap.size W0 w4 := (Below.refl _ _).drew.trans b4_
        have HBX4 := hide ((unhide HBX).below b4)
        have HX4 := hide ((unhide HX3).below b4)
        have HR4 := hide ((unhide HR3).below b4)
        have HB4 := hide ((unhide HBA).trans (b4.mono (unhide HBA).size))
        have HN4 := hide ((unhide HBN).trans (b4.mono (unhide HBN).size))
        clear b4 b4_ hHeld
        refine hK.out _ _ (sTB (unhide HBX4) (unhide HX4)) (fun hHeld => ?_)
        clear hK K
        (try simp only [Act.put, List.setIfInBounds_toArray, List.set_cons_zero, List.set_cons_succ])
        refine Rg.t 9 31 ?_
        (refine Rg.o 10 (fun K hK => ?_); go_simp)
        rw [← unhide HK]
        refine (hasSource _ ss ca v _ (unhide HR4) (unhide HU) (by rw [unhide HK]; omega)).mono ?_
        rintro e w5 ⟨rfl, b5⟩
        rw [unhide HH]
        have HBX5 := hide ((unhide HBX4).below b5)
        have HX5 := hide ((unhide HX4).below b5)
        have HB5 := hide ((unhide HB4).trans (b5.mono (unhide HB4).size))
        have HN5 := hide ((unhide HN4).trans (b5.mono (unhide HN4).size))
        clear b5 hHeld
        refine hK.out _ _ (sTB (unhide HBX5) (unhide HX5)) (fun hHeld => ?_)
        clear hK K
        (try simp only [Act.put, List.setIfInBounds_toArray, List.set_cons_zero, List.set_cons_succ])
        refine Rg.t 11 33 ?_
        refine Rg.t 12 34 ?_
        refine wpAnyH_done (by kernel_rfl) (NoPanic.normal ?_) _
        clear hHeld
        cases o
        · have HF := hide (unhide HZ (unhide HO2))
          go_wp2_with fail
          go_ret
          exact ⟨ret_bool (unhide HF).symm, unhide HB5⟩
        · have HY2 := hide (unhide HY (unhide HO2))
          go_wp2_with fail
          go_roundw
          case rel => exact ⟨j + 1, by omega, by go_num, HY2, HN5⟩
          case measure => simp [intOf]; omega
    · obtain rfl : j = n := by omega
      have HF : Hid (A = true) := hide (by rw [← unhide HTA, edg_all (unhide HS) (by rw [unhide HN]; exact unhide hed)]; exact unhide HT)
      go_wp2_with fail
      go_ret
      exact ⟨ret_bool (unhide HF).symm, unhide HBW⟩
end Tp
end Go.Proofs.YthfcigfgpimimaaGreat
