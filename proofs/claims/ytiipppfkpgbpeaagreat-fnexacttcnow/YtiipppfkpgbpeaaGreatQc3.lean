/-
  Of the texts RecEdge, RtrS, RtrM, RtrL: what this claim needs of them. (put together by mkprune.py)
-/
import Derived.Test.YtiipppfkpgbpeaaGreatQc2
import Derived.Deep.RegionHeld3
import Derived.Deep.DrawnRows
import Derived.Deep.Slices
import Derived.Laws.AppendOwn
namespace Go.Proofs.YtiipppfkpgbpeaaGreat
open Go.ChangeShapes Go.WideShapes Go.ChangeAt Go.RowKit
set_option linter.unusedVariables false
set_option maxRecDepth 100000
set_option linter.unusedSimpArgs false
attribute [local go_sem ↓] Go.wp_at_zero Go.wp_at_succ
namespace Ed
open W1
structure R where
  ad : Int
  mt : Int
def R.zero : R := ⟨0, 0⟩
/-- The value of one. -/
def R.value (m : R) : Value := .agg #[.int .i64 m.ad, .int .i64 m.mt]
/-- The cells of one, of a list of them. -/
def R.cells (m : R) : List Value := [.int .i64 m.ad, .int .i64 m.mt]
def flat (ms : List R) : List Value := ms.flatMap R.cells
/-- The cells of one that lies at an address. -/
def At (w : World) (g o : Nat) (m : R) : Prop :=
  w.cell? ⟨g, o, none⟩ = some (.int .i64 m.ad) ∧ w.cell? ⟨g, o + 1, none⟩ = some (.int .i64 m.mt)
/-- The slice at a reads as these. -/
def RM (w : World) (a : Option Addr) (ms : List R) : Prop :=
  ms = [] ∨ ∃ g off, a = some ⟨g, off, none⟩ ∧ ∀ i, i < ms.length → At w g (off + i * 2) (ms.getD i R.zero)
theorem At.below {w w' : World} {g o : Nat} {m : R} (h : At w g o m) (hb : Below w.heap.size w w') : At w' g o m := by
  have hg : g < w.heap.size := World.block_lt_of_cell? _ _ h.1
  obtain ⟨h0, h1⟩ := h
  refine ⟨?_, ?_⟩ <;> (rw [hb.cell hg]; assumption)
theorem At.drew {w : World} {g o : Nat} {m : R} (h : At w g o m) : At w.drew g o m := h
theorem RM.below {w w' : World} {a : Option Addr} {ms : List R} (h : RM w a ms) (hb : Below w.heap.size w w') : RM w' a ms := by
  rcases h with h | ⟨g, off, rfl, hc⟩
  · exact .inl h
  · exact .inr ⟨g, off, rfl, fun i hi => (hc i hi).below hb⟩
theorem RM.drew {w : World} {a : Option Addr} {ms : List R} (h : RM w a ms) : RM w.drew a ms := h
theorem RM.at {w : World} {g off : Nat} {ms : List R} {i : Nat} (h : RM w (some ⟨g, off, none⟩) ms) (hi : i < ms.length) : At w g (off + i * 2) (ms.getD i R.zero) := by
  rcases h with rfl | ⟨g', off', e, hc⟩
  · simp at hi
  · cases e; exact hc i hi
theorem RM.form {w : World} {a : Option Addr} {ms : List R} (h : RM w a ms) (h0 : 0 < ms.length) : ∃ g off, a = some ⟨g, off, none⟩ := by
  rcases h with rfl | ⟨g, off, e, _⟩
  · simp at h0
  · exact ⟨g, off, e⟩
theorem getD_mem {ms : List R} {j : Nat} (h : j < ms.length) : ms.getD j R.zero ∈ ms := by rw [List.getD_eq_getElem?_getD, List.getElem?_eq_getElem h]; exact List.getElem_mem h
theorem R.len (m : R) : m.cells.length = 2 := rfl
theorem flat_len (ms : List R) : (flat ms).length = ms.length * 2 := by
  unfold flat
  induction ms with
  | nil => rfl
  | cons m t ih => rw [List.flatMap_cons, List.length_append, ih, R.len, List.length_cons]; omega
theorem flat_append (xs ys : List R) : flat (xs ++ ys) = flat xs ++ flat ys := by unfold flat; rw [List.flatMap_append]
theorem flat_get : ∀ (ms : List R) (i j : Nat), j < 2 → i < ms.length → (flat ms)[i * 2 + j]? = (ms.getD i R.zero).cells[j]?
  | [], i, j, hj, hi => by simp at hi
  | m :: t, 0, j, hj, hi => by
    unfold flat
    rw [List.flatMap_cons, Nat.zero_mul, Nat.zero_add, List.getElem?_append_left (by rw [R.len]; exact hj)]; rfl
  | m :: t, i + 1, j, hj, hi => by
    have ih := flat_get t i j hj (by simpa using hi)
    unfold flat at ih ⊢
    rw [List.flatMap_cons, show (i + 1) * 2 + j = m.cells.length + (i * 2 + j) by rw [R.len]; omega, List.getElem?_append_right (by omega), Nat.add_sub_cancel_left, ih]; rfl
theorem cell_one {m : R} {u : Value} (h : u ∈ m.cells) : u.oneCell' = true := by
  unfold R.cells at h; simp only [List.mem_cons, List.not_mem_nil, or_false] at h
  rcases h with rfl | rfl <;> rfl
theorem flat_one_cell {ms : List R} {u : Value} (h : u ∈ flat ms) : u.oneCell' = true := by
  obtain ⟨m, _, hu⟩ := List.mem_flatMap.1 h; exact cell_one hu
theorem at_cells {w : World} {g o : Nat} {m : R} (h : At w g o m) : ∀ j u, m.cells[j]? = some u → w.cell? ⟨g, o + j, none⟩ = some u := by
  intro j u hj
  match j, hj with
  | 0, hj => simp [R.cells] at hj; subst hj; exact h.1
  | 1, hj => simp [R.cells] at hj; subst hj; exact h.2
  | n + 2, hj => simp [R.cells] at hj
theorem plain_add (b off k : Nat) : (⟨b, off, none⟩ : Addr).add k = ⟨b, off + k, none⟩ := by unfold Addr.add; split <;> simp_all
/-- A list that is read, cell by cell. -/
theorem RM.cells {w : World} {g off : Nat} {ms : List R} (h : RM w (some ⟨g, off, none⟩) ms) : ∀ j u, (flat ms)[j]? = some u → w.cell? ((⟨g, off, none⟩ : Addr).add j) = some u := by
  intro j u hj
  have hl : j < ms.length * 2 := by
    rw [← flat_len]; exact (List.getElem?_eq_some_iff.1 hj).1
  have hi : j / 2 < ms.length := by omega
  have e : j / 2 * 2 + j % 2 = j := by omega
  rw [← e, flat_get ms _ _ (by omega) hi] at hj
  rw [plain_add, ← e, ← Nat.add_assoc]
  exact at_cells (h.at hi) _ _ hj
/-- A row of one's own that holds a list. -/
theorem at_own {w : World} {base g n cap : Nat} {ms : List R} (hn : n = ms.length) (h : w.ownsRow base 141 2 (.slice (some ⟨g, 0, none⟩) n cap) n (flat ms)) (i : Nat) (hi : i < ms.length) : At w g (i * 2) (ms.getD i R.zero) := by
  have hc : ∀ j, j < 2 → ∀ u, (ms.getD i R.zero).cells[j]? = some u → w.cell? ⟨g, i * 2 + j, none⟩ = some u := by
    intro j hj u hu
    have := h.cells (g := g) rfl (i * 2 + j) u (by rw [flat_get ms i j hj hi]; exact hu)
    rw [plain_add, Nat.zero_add] at this
    exact this
  exact ⟨hc 0 (by omega) _ rfl, hc 1 (by omega) _ rfl⟩

/-- One laid at an address. -/
def put (w : World) (g o : Nat) (m : R) : World := (w.setCell ⟨g, o, none⟩ (.int .i64 m.ad)).setCell ⟨g, o + 1, none⟩ (.int .i64 m.mt)
theorem put_below {B : Nat} {w0 w : World} {g o : Nat} {m : R} (h : Below B w0 w) (hg : B ≤ g) : Below B w0 (put w g o m) := by
  unfold put
  exact (h.setCell (p := ⟨g, o, none⟩) hg _).setCell (p := ⟨g, o + 1, none⟩) hg _
theorem put_size (w : World) (g o : Nat) (m : R) : (put w g o m).heap.size = w.heap.size := by simp [put, World.setCell]
theorem put_frozen (w : World) (g o : Nat) (m : R) (a : Addr) : (put w g o m).frozen? a = w.frozen? a := by
  unfold put; rw [World.frozen?_setCell, World.frozen?_setCell]
theorem put_far (w : World) (g o : Nat) (m : R) {b q : Nat} (h : b ≠ g ∨ q < o ∨ o + 2 ≤ q) : (put w g o m).cell? ⟨b, q, none⟩ = w.cell? ⟨b, q, none⟩ := by
  unfold put
  rw [World.cell?_setCell_other _ _ _ _ (by intro e; cases e <;> omega), World.cell?_setCell_other _ _ _ _ (by intro e; cases e <;> omega)]
theorem put_at (w : World) (g o : Nat) (m : R) (h : ∀ k, k < 2 → (w.cell? ⟨g, o + k, none⟩).isSome = true) : At (put w g o m) g o m := by
  obtain ⟨v0, h0⟩ := Option.isSome_iff_exists.1 (h 0 (by omega))
  obtain ⟨v1, h1⟩ := Option.isSome_iff_exists.1 (h 1 (by omega))
  rw [Nat.add_zero] at h0
  have n : ∀ {w : World} {v : Value} {a b : Nat}, a ≠ b → (w.setCell ⟨g, a, none⟩ v).cell? ⟨g, b, none⟩ = w.cell? ⟨g, b, none⟩ := fun {w v a b} e => World.cell?_setCell_other _ _ _ _ (by intro h; cases h; exact e rfl)
  unfold put
  refine ⟨?_, ?_⟩
  · rw [n (by omega), World.cell?_setCell_same _ _ _ h0]
  · rw [World.cell?_setCell_same _ _ _ ((n (by omega)).trans h1)]
theorem put_some (w : World) (g o : Nat) (m : R) (b q : Nat) (h : (w.cell? ⟨b, q, none⟩).isSome = true) : ((put w g o m).cell? ⟨b, q, none⟩).isSome = true := by
  obtain ⟨v, y0⟩ := Option.isSome_iff_exists.1 h
  unfold put
  obtain ⟨v1, y1⟩ := cell?_setCell_some (p := ⟨g, o, none⟩) (x := .int .i64 m.ad) y0
  obtain ⟨v2, y2⟩ := cell?_setCell_some (p := ⟨g, o + 1, none⟩) (x := .int .i64 m.mt) y1
  rw [y2]; rfl
/-- The first j stand at the head of block g, whose n times 2 cells may be written. -/
def Upto (w : World) (g n j : Nat) (ms : List R) : Prop :=
  (∀ i, i < j → At w g (i * 2) (ms.getD i R.zero)) ∧ ∀ i, i < n * 2 → (w.cell? ⟨g, i, none⟩).isSome = true ∧ w.frozen? ⟨g, i, none⟩ = false
theorem Upto.step {w : World} {g n j : Nat} {ms : List R} (h : Upto w g n j ms) (hj : j < n) : Upto (put w g (j * 2) (ms.getD j R.zero)) g n (j + 1) ms := by
  refine ⟨fun i hi => ?_, fun i hi => ⟨put_some _ _ _ _ _ _ (h.2 i hi).1, by rw [put_frozen]; exact (h.2 i hi).2⟩⟩
  by_cases e : i = j
  · subst e
    exact put_at _ _ _ _ (fun k hk => (h.2 _ (by omega)).1)
  · obtain ⟨h0, h1⟩ := h.1 i (by omega)
    exact ⟨(put_far _ _ _ _ (by omega)).trans h0, (put_far _ _ _ _ (by omega)).trans h1⟩
theorem Upto.below {w w' : World} {g n j : Nat} {ms : List R} (h : Upto w g n j ms) (hb : Below w.heap.size w w') (hg : g < w.heap.size) : Upto w' g n j ms :=
  ⟨fun i hi => (h.1 i hi).below hb, fun i hi => ⟨by rw [hb.cell (p := ⟨g, i, none⟩) hg]; exact (h.2 i hi).1, by rw [hb.frozen (p := ⟨g, i, none⟩) hg]; exact (h.2 i hi).2⟩⟩
theorem Upto.of_block {w w' : World} {g n j : Nat} {ms : List R} (h : Upto w g n j ms) (hb : w'.heap[g]? = w.heap[g]?) : Upto w' g n j ms := by
  have c : ∀ q, w'.cell? ⟨g, q, none⟩ = w.cell? ⟨g, q, none⟩ := fun q => World.cell?_of_block (a := ⟨g, q, none⟩) hb
  have f : ∀ q, w'.frozen? ⟨g, q, none⟩ = w.frozen? ⟨g, q, none⟩ := fun q => World.frozen?_of_block (a := ⟨g, q, none⟩) hb
  refine ⟨fun i hi => ?_, fun i hi => ⟨by rw [c]; exact (h.2 i hi).1, by rw [f]; exact (h.2 i hi).2⟩⟩
  obtain ⟨h0, h1⟩ := h.1 i hi
  exact ⟨(c _).trans h0, (c _).trans h1⟩
theorem rm_of {w : World} {g n : Nat} {ms : List R} (h : Upto w g n ms.length ms) : RM w (some ⟨g, 0, none⟩) ms := .inr ⟨g, 0, rfl, fun i hi => by rw [Nat.zero_add]; exact h.1 i hi⟩
theorem upto_own {w : World} {base g cap n : Nat} {ms : List R} (hn : n = ms.length) (h : w.ownsRow base 141 2 (.slice (some ⟨g, 0, none⟩) n cap) n (flat ms)) : Upto w g n n ms := by
  subst hn
  refine ⟨fun i hi => at_own rfl h i hi, fun i hi => ?_⟩
  obtain ⟨_, ⟨e, _⟩ | ⟨g', cap', cur, e, _, hg, h1, _, h3, _⟩⟩ := h
  · cases e
  · cases e
    have hlt : i < cur.size := by rw [h3]; exact Nat.lt_of_lt_of_le hi (Nat.mul_le_mul_right _ h1)
    refine ⟨?_, ?_⟩
    · simp [World.cell?, hg, hlt]
    · simp [World.frozen?, hg]
/-- A list between two bounds of the heap, in memory that may be written. -/
def Lst (W : World) (a : Option Addr) (ms : List R) (lo hi : Nat) : Prop := ms = [] ∨ ∃ g, a = some ⟨g, 0, none⟩ ∧ lo ≤ g ∧ g < hi ∧ g < W.heap.size ∧ Upto W g ms.length ms.length ms
theorem Lst.rm {W : World} {a : Option Addr} {ms : List R} {lo hi : Nat} (h : Lst W a ms lo hi) : RM W a ms := by
  rcases h with rfl | ⟨g, rfl, _, _, _, hu⟩
  · exact .inl rfl
  · exact rm_of hu
theorem Lst.below {W W' : World} {a : Option Addr} {ms : List R} {lo hi : Nat} (h : Lst W a ms lo hi) (hb : Below W.heap.size W W') : Lst W' a ms lo hi := by
  rcases h with rfl | ⟨g, rfl, h1, h2, h3, hu⟩
  · exact .inl rfl
  · exact .inr ⟨g, rfl, h1, h2, Nat.lt_of_lt_of_le h3 hb.size, hu.below hb h3⟩
theorem Lst.mono {W : World} {a : Option Addr} {ms : List R} {lo hi lo' hi' : Nat} (h : Lst W a ms lo hi) (h1 : lo' ≤ lo) (h2 : hi ≤ hi') : Lst W a ms lo' hi' := by
  rcases h with rfl | ⟨g, rfl, h3, h4, h5, hu⟩
  · exact .inl rfl
  · exact .inr ⟨g, rfl, by omega, by omega, h5, hu⟩
theorem Lst.but {W W' : World} {a : Option Addr} {ms : List R} {lo hi : Nat} {p : Nat → Prop} (h : Lst W a ms lo hi) (hs : W.heap.size ≤ W'.heap.size) (hb : ∀ k, k < W.heap.size → p k → W'.heap[k]? = W.heap[k]?) (hp : ∀ k, lo ≤ k → k < hi → p k) : Lst W' a ms lo hi := by
  rcases h with rfl | ⟨g, rfl, h1, h2, h3, hu⟩
  · exact .inl rfl
  · exact .inr ⟨g, rfl, h1, h2, Nat.lt_of_lt_of_le h3 hs, hu.of_block (hb g h3 (hp g h1 h2))⟩
/-- The same of a value. -/
def LstV (W : World) (v : Value) (ms : List R) (lo hi : Nat) : Prop := ∃ a c, v = .slice a ms.length c ∧ Lst W a ms lo hi
theorem LstV.below {W W' : World} {v : Value} {ms : List R} {lo hi : Nat} (h : LstV W v ms lo hi) (hb : Below W.heap.size W W') : LstV W' v ms lo hi := by
  obtain ⟨a, c, e, hl⟩ := h; exact ⟨a, c, e, hl.below hb⟩
theorem LstV.mono {W : World} {v : Value} {ms : List R} {lo hi lo' hi' : Nat} (h : LstV W v ms lo hi) (h1 : lo' ≤ lo) (h2 : hi ≤ hi') : LstV W v ms lo' hi' := by
  obtain ⟨a, c, e, hl⟩ := h; exact ⟨a, c, e, hl.mono h1 h2⟩
theorem lstV_nil (W : World) (a : Option Addr) (c lo hi : Nat) : LstV W (.slice a 0 c) [] lo hi := ⟨a, c, rfl, .inl rfl⟩
/-- A row of one's own as such a list. -/
theorem lst_own {w : World} {base n : Nat} {v : Value} {ms : List R} (hn : n = ms.length) (h : w.ownsRow base 141 2 v n (flat ms)) : LstV w v ms base w.heap.size := by
  unfold LstV
  have h' := h
  obtain ⟨hl, ⟨rfl, h0⟩ | ⟨g, cap, cur, rfl, hb, hg, _, _, _, _⟩⟩ := h
  · exact ⟨none, 0, by rw [← hn, h0], .inl (List.eq_nil_of_length_eq_zero (by omega))⟩
  · have hlt : g < w.heap.size := by
      rcases Nat.lt_or_ge g w.heap.size with h | h
      · exact h
      · rw [Array.getElem?_eq_none h] at hg; cases hg
    refine ⟨_, cap, by rw [hn], .inr ⟨g, rfl, hb, hlt, hlt, ?_⟩⟩
    have := upto_own hn h'
    rw [hn] at this; exact this

set_option maxHeartbeats 1000000 in
theorem szS (a : Option Addr) (n cap : Nat) (L : Int) (w : World) (hL : 0 ≤ L) (hL1 : L ≤ 1048576) (hm : n ≤ maxLen) :
    Calls Tryz.prog 33 #[.slice a n cap, .int .i64 L] w fun e w' => ∃ r : Int, e = .returned (.int .i64 r) ∧ w' = w ∧ (r < 0 ∨ (0 ≤ r ∧ r = L - n)) := by
  unfold maxLen at hm
  by_cases h0 : L - n < 0
  all_goals
    go_enter Tryz.func33, Tryz.ntmps33
    go_wp2
    go_ret
  · exact ⟨_, rfl, rfl, .inl (by omega)⟩
  · exact ⟨_, rfl, rfl, .inr ⟨by omega, rfl⟩⟩

theorem infoR : ∃ i, Tryz.prog.info? 141 = some i ∧ i.zero = some (Value.agg #[.int .i64 0, .int .i64 0]) ∧ i.size = 2 ∧ i.bytes = 16 := by
  have h : (Tryz.prog.info? 141).map (fun i => (i.zero, i.size, i.bytes)) = some (some (Value.agg #[.int .i64 0, .int .i64 0]), 2, 16) := by kernel_rfl
  obtain ⟨i, hi, he⟩ := Option.map_eq_some_iff.1 h
  simp only [Prod.mk.injEq] at he
  exact ⟨i, hi, he.1, he.2.1, he.2.2⟩

/-- append of a list to a row of one's own, as a walk meets it. -/
theorem wpList_apS {ops : Array Oper} {rest : List Oper} {o : Oper} {a : Act} {Q : Exit → Act → World → Prop} {w : World} {base : Nat} {v : Value} {xs : List R} (hown : w.ownsRow base 141 2 v xs.length (flat xs)) (g off m c : Nat) (ms : List R) (hm : ms.length = m) (hr : RM w (some ⟨g, off, none⟩) ms) (hlen : xs.length + ms.length ≤ 4194304) (hbase : base ≤ w.heap.size)
    (hgd : o.guard = none) (s x : Operand) (ho : o.op = .call { callee := .builtin .append, args := #[s, x], argTypes := #[36, 36] }) (hs : a.eval s = v) (hx : a.eval x = .slice (some ⟨g, off, none⟩) m c)
    (h : ∀ v' w', w'.ownsRow base 141 2 v' (xs ++ ms).length (flat (xs ++ ms)) → w.grownBy w' v.ownBlock → wpList Tryz.prog ops Q rest (a.put o.dst v') w') : wpList Tryz.prog ops Q (o :: rest) a w := by
  subst hm
  obtain ⟨i0, hi, hz0, hz1, hz2⟩ := infoR
  refine wpList_append_own w hgd s x _ ho base 141 i0 _ 2 16 Tryz.underlying36 hi hz0 hz1 hz2 rfl (by decide) v xs.length (flat xs) hs hown ⟨g, off, none⟩ ms.length c (flat ms) hx (flat_len ms) hr.cells (fun u hu => flat_one_cell hu) (by unfold maxLen; omega) (by omega) hbase (fun v' w' h1 h2 _ => ?_)
  refine h v' w' ?_ h2
  rw [List.length_append, flat_append]; exact h1
theorem rm_new (w : World) (m : R) : RM (w.alloc (.cells #[.int .i64 m.ad, .int .i64 m.mt] 141)) (some ⟨w.heap.size, 0, none⟩) [m] := by
  refine .inr ⟨_, _, rfl, fun i hi => ?_⟩
  obtain rfl : i = 0 := by simp at hi; omega
  refine ⟨?_, ?_⟩ <;> simp [World.cell?_alloc_new]
theorem own_empty (w : World) (base : Nat) (hb : base ≤ w.heap.size) : (w.alloc (.cells #[] 141)).ownsRow base 141 2 (.slice (some ⟨w.heap.size, 0, none⟩) 0 0) ([] : List R).length (flat []) := World.ownsRow_made w #[] 0 hb (Nat.zero_le _) (by simp)
theorem own_nil (w : World) (base : Nat) : w.ownsRow base 141 2 (.slice none 0 0) ([] : List R).length (flat []) := World.ownsRow_nil w base _ _
theorem below_own {B : Nat} {w0 w w' : World} {base : Nat} {v : Value} {n : Nat} {xs : List Value} (h : Below B w0 w) (ho : w.ownsRow base 141 2 v n xs) (hg : w.grownBy w' v.ownBlock) (hb : B ≤ base) (hB : B ≤ w.heap.size) : Below B w0 w' :=
  h.grown hg hB (fun k hk => Nat.le_trans hb (ho.lt k hk).1)

set_option maxHeartbeats 1000000 in
theorem toR (ad : Int) (mt : Int) (w : World) :
    Calls Tryz.prog 95 #[.agg #[.int .i64 ad, .int .i64 mt]] w fun e w' => e = .returned (Value.agg #[.int .i64 ad, .int .i64 mt]) ∧ Below w.heap.size w w' := by
  go_enter Tryz.func95, Tryz.ntmps95
  go_wp2
  refine bodyPost_ret (v := .agg #[.int .i64 ad, .int .i64 mt]) (by simp [results, Tryz.results95, go_sem]) rfl ⟨rfl, ?_⟩
  repeat (first | exact Below.refl _ _ | refine Below.setCell ?_ (by simp <;> omega) _ | refine Below.alloc ?_ (by simp <;> omega) _)

set_option maxHeartbeats 2000000 in
theorem toS (a : Option Addr) (ms : List R) (cap : Nat) (w : World) (hm : ms.length ≤ 1048576) (hr : RM w a ms) :
    Calls Tryz.prog 40 #[.slice a ms.length cap] w fun e w' => ∃ g, e = .returned (.slice (some ⟨g, 0, none⟩) ms.length ms.length) ∧ Below w.heap.size w w' ∧ w.heap.size ≤ g ∧ g < w'.heap.size ∧ Upto w' g ms.length ms.length ms := by
  obtain ⟨i0, hi, hz0, hz1, hz2⟩ := infoR
  have hmk := run_make (P := Tryz.prog) w 36 141 i0 _ Tryz.underlying36 hi hz0 .i64 .i64 (ms.length : Int) (ms.length : Int) (by omega) (by omega) (by rw [hz2]; omega) (by omega)
  have HR := hide hr
  clear hr
  generalize hN : ms.length = n at *
  have HN := hide hN
  clear hN
  rw [Int.toNat_natCast, hz1] at hmk
  have hcs : (madeCells (Value.agg #[.int .i64 0, .int .i64 0]).cells (n * 2)).size = n * 2 := size_madeCells _ _
  generalize madeCells (Value.agg #[.int .i64 0, .int .i64 0]).cells (n * 2) = cs at *
  have hup0 : Upto (w.alloc (.cells cs 141)) w.heap.size n 0 ms := by
    refine ⟨fun i hi => by omega, fun i hi => ⟨?_, by simp⟩⟩
    rw [World.cell?_alloc_new, Array.getElem?_eq_getElem (by omega)]; rfl
  have HU := hide hup0
  clear hup0 hcs hi hz0 hz1 hz2
  go_enter Tryz.func40, Tryz.ntmps40
  go_wp2
  go_loopw [4] (fun i wr => ∃ j : Nat, j ≤ n ∧ i = .int .i64 j ∧ Hid (w.heap.size < wr.heap.size) ∧ Hid (Below w.heap.size w wr) ∧ Hid (Upto wr w.heap.size n j ms)) (fun i _ => n - (intOf i).toNat)
  case atStart => exact ⟨0, by omega, rfl, hide (by simp), hide ((Below.refl _ _).alloc (Nat.le_refl _) _), HU⟩
  case round =>
    obtain ⟨j, hj, rfl, hsz, hb, hu⟩ := hrel
    by_cases hlt : (j : Int) < (n : Int)
    · have k0 : (0 : Int) ≤ (j : Int) := by omega
      rcases (unhide HR).below (unhide hb) with e0 | ⟨g, off, rfl, hc⟩
      · exfalso
        have := unhide HN
        rw [e0] at this
        simp at this
        omega
      have hlen : j < ms.length := by rw [unhide HN]; omega
      obtain ⟨c0, c1⟩ := hc j hlen
      have hstep : Hid (∀ w1, Below wr.heap.size wr w1 → Upto (put w1 w.heap.size (j * 2) (ms.getD j R.zero)) w.heap.size n (j + 1) ms) := fun w1 h1 => ((unhide hu).below h1 (unhide hsz)).step (by omega)
      have hsome : Hid (∀ w1, Below wr.heap.size wr w1 → ∀ k, k < 2 → (w1.cell? ⟨w.heap.size, j * 2 + k, none⟩).isSome = true ∧ w1.frozen? ⟨w.heap.size, j * 2 + k, none⟩ = false) := fun w1 h1 k hk => ((unhide hu).below h1 (unhide hsz)).2 (j * 2 + k) (by omega)
      generalize ms.getD j R.zero = m at *
      obtain ⟨ad, mt⟩ := m
      dsimp only at c0 c1
      clear hc
      go_wp2_with fail
      refine (toR ad mt _).mono ?_
      rintro e w1 ⟨rfl, b1⟩
      clear c0 c1
      obtain ⟨v0, x0⟩ := Option.isSome_iff_exists.1 (unhide hsome w1 b1 0 (by omega)).1
      obtain ⟨v1, x1⟩ := Option.isSome_iff_exists.1 (unhide hsome w1 b1 1 (by omega)).1
      have y0 := (unhide hsome w1 b1 0 (by omega)).2
      have y1 := (unhide hsome w1 b1 1 (by omega)).2
      rw [Nat.add_zero] at x0 y0
      have hs1 := hide (unhide hstep w1 b1)
      have hb1 := hide ((unhide hb).trans (b1.mono (unhide hb).size))
      have hz1 := hide (Nat.lt_of_lt_of_le (unhide hsz) b1.size)
      clear hsome hstep b1
      go_wp2_with fail
      exact ⟨⟨j + 1, by omega, by go_num, hide (Nat.lt_of_lt_of_le (unhide hz1) (Nat.le_of_eq (put_size w1 w.heap.size (j * 2) ⟨ad, mt⟩).symm)), hide (put_below (m := ⟨ad, mt⟩) (unhide hb1) (Nat.le_refl _)), hs1⟩, by simp [intOf]; omega⟩
    · obtain rfl : j = n := by omega
      go_wp2
      go_ret
      exact ⟨w.heap.size, rfl, unhide hb, Nat.le_refl _, unhide hsz, unhide hu⟩

set_option maxHeartbeats 1000000 in
theorem eqR (ad : Int) (mt : Int) (w : World) :
    Calls Tryz.prog 128 #[.agg #[.int .i64 ad, .int .i64 mt], .agg #[.int .i64 ad, .int .i64 mt]] w
      fun e w' => e = .returned (.bool true) ∧ Below w.heap.size w w' := by
  go_enter Tryz.func128, Tryz.ntmps128
  go_wp2
  go_ret
  repeat (first | exact ⟨rfl, Below.refl _ _⟩ | refine ⟨rfl, ?_⟩ | exact Below.refl _ _ | refine Below.alloc ?_ (by simp <;> omega) _)

theorem sAt {w : World} {g g' o o' : Nat} {ad mt : Int}  (h : At w g o ⟨ad, mt⟩) (h' : At w g' o' ⟨ad, mt⟩) :
    (At w g o ⟨ad, mt⟩ ∧ At w g' o' ⟨ad, mt⟩) ∧ w.cell? ⟨g, o, none⟩ = some (.int .i64 ad) ∧ w.cell? ⟨g, o + 1, none⟩ = some (.int .i64 mt) ∧ w.cell? ⟨g', o', none⟩ = some (.int .i64 ad) ∧ w.cell? ⟨g', o' + 1, none⟩ = some (.int .i64 mt) := ⟨⟨h, h'⟩, h.1, h.2, h'⟩

set_option maxRecDepth 100000 in
set_option maxHeartbeats 4000000 in
theorem eqS (a b : Option Addr) (ms : List R) (ca cb : Nat) (w : World) (hm : ms.length ≤ 1048576) (hr : RM w a ms) (hr' : RM w b ms) :
    Calls Tryz.prog 54 #[.slice a ms.length ca, .slice b ms.length cb] w fun e w' => e = .returned (.bool true) ∧ Below w.heap.size w w' := by
  have HR := hide hr
  have HR' := hide hr'
  clear hr hr'
  generalize hN : ms.length = n at *
  have HN := hide hN
  clear hN
  go_enter Tryz.func54, Tryz.ntmps54
  go_wp2
  go_loopw [5] (fun i wr => ∃ j : Nat, j ≤ n ∧ i = .int .i64 j ∧ Hid (Below w.heap.size w wr)) (fun i _ => n - (intOf i).toNat)
  case atStart => exact ⟨0, by omega, rfl, hide (Below.refl _ _)⟩
  case round =>
    obtain ⟨j, hj, rfl, hbl⟩ := hrel
    by_cases hlt : (j : Int) < (n : Int)
    · have k0 : (0 : Int) ≤ (j : Int) := by omega
      have hlen : j < ms.length := by rw [unhide HN]; omega
      rcases (unhide HR).below (by exact (unhide hbl)) with e0 | ⟨g, off, rfl, hc⟩
      · exfalso; rw [e0] at hlen; simp at hlen
      rcases (unhide HR').below (by exact (unhide hbl)) with e0 | ⟨g', off', rfl, hc'⟩
      · exfalso; rw [e0] at hlen; simp at hlen
      have hA := hc j hlen
      have hA' := hc' j hlen
      clear hc hc'
      generalize ms.getD j R.zero = m at *
      obtain ⟨ad, mt⟩ := m
      go_wp2_with fail
      go_region_held3 (fun w' => (At w' g (off + j * 2) ⟨ad, mt⟩ ∧ At w' g' (off' + j * 2) ⟨ad, mt⟩) ∧ w'.cell? ⟨g, off + j * 2, none⟩ = some (.int .i64 ad) ∧ w'.cell? ⟨g, off + j * 2 + 1, none⟩ = some (.int .i64 mt) ∧ w'.cell? ⟨g', off' + j * 2, none⟩ = some (.int .i64 ad) ∧ w'.cell? ⟨g', off' + j * 2 + 1, none⟩ = some (.int .i64 mt))
        ((go_split_ands; exact sAt (by first | with_reducible assumption | (with_reducible refine At.drew ?_; with_reducible assumption) | (exact At.below (by with_reducible assumption) b1)) (by first | with_reducible assumption | (with_reducible refine At.drew ?_; with_reducible assumption) | (exact At.below (by with_reducible assumption) b1))))
        (first | (go_at_call 128; refine (eqR ad mt _).mono ?_; rintro e w1 ⟨rfl, b1⟩))
      have hb1 := hide ((unhide hbl).drew.trans (b1.mono (by show w.heap.size ≤ wr.heap.size; exact (unhide hbl).size)))
      go_wp2_with fail
      go_roundw
      case rel => exact ⟨j + 1, by omega, by go_num, hb1⟩
      case measure => simp [intOf]; omega
    · go_wp2
      go_ret
      exact ⟨rfl, unhide hbl⟩

/-- The marks from K on. -/
def markR (K : Int) : R := ⟨K, K + 1⟩
def marks (K : Int) (n : Nat) : List R := (List.range n).map fun t : Nat => markR (K + 2 * (t : Int))
theorem marks_len (K : Int) (n : Nat) : (marks K n).length = n := by simp [marks]
theorem marks_at (K : Int) (n t : Nat) (h : t < n) : (marks K n).getD t R.zero = markR (K + 2 * (t : Int)) := by
  unfold marks
  rw [List.getD_eq_getElem?_getD, List.getElem?_map, List.getElem?_range h]; rfl
theorem grown_set {w w1 : World} {g o : Nat} {v : Value} (h : w.grownBy w1 (some g)) : w.grownBy (w1.setCell ⟨g, o, none⟩ v) (some g) :=
  ⟨h.os, h.tape, h.output, by have := h.size; simp [World.setCell]; exact this, fun k hk hne => (Below.heap_setCell _ _ _ _ (fun e => hne (by rw [e]))).trans (h.block k hk hne)⟩
theorem grown_put {w w1 : World} {g o : Nat} {m : R} (h : w.grownBy w1 (some g)) : w.grownBy (put w1 g o m) (some g) := grown_set (grown_set (h))

set_option maxHeartbeats 4000000 in
theorem markS (g n c : Nat) (K : Int) (ms : List R) (w : World) (hK : 0 ≤ K) (hK1 : K ≤ 1073741824) (hn : n ≤ 1048576) (hg : g < w.heap.size) (hU : Upto w g n n ms) :
    Calls Tryz.prog 58 #[.slice (some ⟨g, 0, none⟩) n c, .int .i64 K] w fun e w' => e = .returned (.int .i64 (K + 2 * (n : Int))) ∧ w.grownBy w' (some g) ∧ Upto w' g n n (marks K n) := by
  have hU0 : Hid (Upto w g n 0 (marks K n)) := hide ⟨fun i hi => by omega, hU.2⟩
  clear hU
  go_enter Tryz.func58, Tryz.ntmps58
  go_wp2
  go_loopw [1, 5] (fun q i wr => ∃ j : Nat, j ≤ n ∧ i = .int .i64 j ∧ q = .int .i64 (K + 2 * (j : Int)) ∧ Hid (w.grownBy wr (some g)) ∧ Hid (Upto wr g n j (marks K n))) (fun _ i _ => n - (intOf i).toNat)
  case atStart => exact ⟨0, by omega, rfl, by simp, hide ⟨rfl, rfl, rfl, Nat.le_refl _, fun _ _ _ => rfl⟩, hU0⟩
  case round =>
    obtain ⟨j, hj, rfl, rfl, hgr, hu⟩ := hrel
    by_cases hlt : (j : Int) < (n : Int)
    · have k0 : (0 : Int) ≤ (j : Int) := by omega
      obtain ⟨v0, x0⟩ := Option.isSome_iff_exists.1 ((unhide hu).2 (j * 2) (by omega)).1
      obtain ⟨v1, x1⟩ := Option.isSome_iff_exists.1 ((unhide hu).2 (j * 2 + 1) (by omega)).1
      have y0 := ((unhide hu).2 (j * 2) (by omega)).2
      have y1 := ((unhide hu).2 (j * 2 + 1) (by omega)).2
      have hst := (unhide hu).step (by omega)
      rw [marks_at K n j (by omega)] at hst
      have HST := hide hst
      have HGN := hide (grown_put (o := j * 2) (m := markR (K + 2 * (j : Int))) (unhide hgr))
      clear hst
      generalize hq : K + 2 * (j : Int) = q at *
      have hq0 : 0 ≤ q := by omega
      have hq1 : q ≤ 1109393408 := by omega
      go_wp2_with fail
      exact ⟨⟨j + 1, by omega, by go_num, by go_num, HGN, HST⟩, by simp [intOf]; omega⟩
    · obtain rfl : j = n := by omega
      go_wp2
      go_ret
      exact ⟨rfl, unhide hgr, unhide hu⟩
theorem markS0 (a : Option Addr) (c : Nat) (K : Int) (w : World) :
    Calls Tryz.prog 58 #[.slice a 0 c, .int .i64 K] w fun e w' => e = .returned (.int .i64 K) ∧ w' = w := by
  go_enter Tryz.func58, Tryz.ntmps58
  go_wp2
  go_loop [1, 5] (fun q i => q = .int .i64 K ∧ i = .int .i64 0) (fun _ i => 0)
  case atStart => exact ⟨rfl, rfl⟩
  case round =>
    obtain ⟨rfl, rfl⟩ := hrel
    go_wp2
    go_ret
    exact ⟨rfl, rfl⟩
theorem heldS0 (a : Option Addr) (c : Nat) (K : Int) (w : World) :
    Calls Tryz.prog 62 #[.slice a 0 c, .int .i64 K] w fun e w' => e = .returned (.int .i64 K) ∧ w' = w := by
  go_enter Tryz.func62, Tryz.ntmps62
  go_wp2
  go_loop [1, 5] (fun q i => q = .int .i64 K ∧ i = .int .i64 0) (fun _ i => 0)
  case atStart => exact ⟨rfl, rfl⟩
  case round =>
    obtain ⟨rfl, rfl⟩ := hrel
    go_wp2
    go_ret
    exact ⟨rfl, rfl⟩

set_option maxHeartbeats 4000000 in
theorem heldS (g n c : Nat) (K : Int) (w : World) (hK : 0 ≤ K) (hK1 : K ≤ 1073741824) (hn : n ≤ 1048576) (hU : Upto w g n n (marks K n)) :
    Calls Tryz.prog 62 #[.slice (some ⟨g, 0, none⟩) n c, .int .i64 K] w fun e w' => e = .returned (.int .i64 (K + 2 * (n : Int))) ∧ w' = w := by
  have HU := hide hU
  clear hU
  go_enter Tryz.func62, Tryz.ntmps62
  go_wp2
  go_loopw [1, 5] (fun q i wr => wr = w ∧ ∃ j : Nat, j ≤ n ∧ i = .int .i64 j ∧ q = .int .i64 (K + 2 * (j : Int))) (fun _ i _ => n - (intOf i).toNat)
  case atStart => exact ⟨rfl, 0, by omega, rfl, by simp⟩
  case round =>
    obtain ⟨rfl, j, hj, rfl, rfl⟩ := hrel
    by_cases hlt : (j : Int) < (n : Int)
    · have k0 : (0 : Int) ≤ (j : Int) := by omega
      have hA := (unhide HU).1 j (by omega)
      rw [marks_at K n j (by omega)] at hA
      obtain ⟨c0, c1⟩ := hA
      unfold markR at c0 c1
      dsimp only at c0 c1
      generalize hq : K + 2 * (j : Int) = q at *
      have hq0 : 0 ≤ q := by omega
      have hq1 : q ≤ 1109393408 := by omega
      go_wp2_with fail
      go_roundw
      case rel => exact ⟨by first | trivial | rfl, j + 1, by omega, by go_num, by go_num⟩
      case measure => simp [intOf]; omega
    · obtain rfl : j = n := by omega
      go_wp2
      go_ret
      exact ⟨by first | trivial | rfl, rfl⟩
/-- Marks on a list that may be written, whether it has any or not. -/
theorem markF (a : Option Addr) (c lo hi : Nat) (K : Int) (ms : List R) (w : World) (hK : 0 ≤ K) (hK1 : K ≤ 1073741824) (hn : ms.length ≤ 1048576) (h : Lst w a ms lo hi) :
    Calls Tryz.prog 58 #[.slice a ms.length c, .int .i64 K] w fun e w' => e = .returned (.int .i64 (K + 2 * (ms.length : Int))) ∧ w.heap.size ≤ w'.heap.size ∧ Below (min lo w.heap.size) w w' ∧ Lst w' a (marks K ms.length) lo hi ∧ ∀ k, k < w.heap.size → (k < lo ∨ hi ≤ k) → w'.heap[k]? = w.heap[k]? := by
  have hnil : ∀ w', w' = w → w.heap.size ≤ w'.heap.size ∧ Below (min lo w.heap.size) w w' ∧ ∀ k, k < w.heap.size → (k < lo ∨ hi ≤ k) → w'.heap[k]? = w.heap[k]? := by
    rintro w' rfl
    exact ⟨Nat.le_refl _, Below.refl _ _, fun _ _ _ => rfl⟩
  by_cases h0 : ms.length = 0
  · obtain rfl : ms = [] := List.eq_nil_of_length_eq_zero h0
    refine (markS0 a c K w).mono ?_
    rintro e w' ⟨rfl, hw⟩
    obtain ⟨q1, q2, q3⟩ := hnil w' hw
    exact ⟨by simp, q1, q2, .inl rfl, q3⟩
  rcases h with rfl | ⟨g, rfl, h1, h2, h3, hu⟩
  · simp at h0
  refine (markS g ms.length c K ms w hK hK1 hn h3 hu).mono ?_
  rintro e w' ⟨rfl, gr, hu'⟩
  exact ⟨rfl, gr.size, ⟨gr.os, gr.tape, gr.output, gr.size, fun k hk => gr.block k (by omega) (fun e => by cases e; omega)⟩, .inr ⟨g, rfl, h1, h2, Nat.lt_of_lt_of_le h3 gr.size, by rw [marks_len]; exact hu'⟩, fun k hk hne => gr.block k hk (fun e => by cases e; omega)⟩
theorem heldF (a : Option Addr) (c n lo hi : Nat) (K : Int) (w : World) (hK : 0 ≤ K) (hK1 : K ≤ 1073741824) (hn : n ≤ 1048576) (h : Lst w a (marks K n) lo hi) :
    Calls Tryz.prog 62 #[.slice a n c, .int .i64 K] w fun e w' => e = .returned (.int .i64 (K + 2 * (n : Int))) ∧ w' = w := by
  by_cases h0 : n = 0
  · subst h0
    refine (heldS0 a c K w).mono ?_
    rintro e w' ⟨rfl, rfl⟩
    exact ⟨by simp, rfl⟩
  rcases h with h | ⟨g, rfl, _, _, _, hu⟩
  · have := marks_len K n; rw [h] at this; simp at this; omega
  · rw [marks_len] at hu
    exact heldS g n c K w hK hK1 hn hu
theorem cellsR : Tryz.prog.cellsOf 143 = 2 := by kernel_rfl
theorem cells_int : Tryz.prog.cellsOf 3 = 1 := by kernel_rfl
theorem listR {α : Type} {l : List α} (h : l.length = 2) : ∃ c0 c1, l = [c0, c1] := by
  match l, h with
  | [c0, c1], _ => exact ⟨c0, c1, rfl⟩
/-- The cells that read as one. -/
theorem open_one {H : Type} {enc : TypeId × Value → H} {W : World} {base n : Nat} {spare : Nat → Bool} {held : Bool} {c : List Value} {y : DataW H × List MemPlace} (hl : c.length = 2)
    (h : DataW.trod enc Tryz.prog W base spare held n 143 c = some y) : ∃ m : R, c = m.cells := by
  obtain ⟨c0, c1, rfl⟩ := listR hl
  obtain ⟨xs, n, _, _, _, hlen, hf⟩ := DataW.trod_struct Tryz.underlying143 h
  obtain ⟨x0, x1, rfl⟩ := listR hlen
  have k0 := hf 0 _ rfl
  have k1 := hf 1 _ rfl
  simp [cells_int] at k0 k1
  obtain ⟨a0, e0, _, _⟩ := DataW.trod_int Tryz.underlying3 k0
  obtain ⟨a1, e1, _, _⟩ := DataW.trod_int Tryz.underlying3 k1
  simp at e0 e1
  subst e0 e1
  exact ⟨⟨a0, a1⟩, rfl⟩
/-- A slice that came in: what it reads as. -/
theorem open_cell {H : Type} {enc : TypeId × Value → H} {W : World} {v : Value} {fuel : Nat} {y : DataW H × List MemPlace}
    (hf : DataW.trod enc Tryz.prog W 0 (fun _ => true) true fuel 27 [v] = some y) : ∃ a len cap, ∃ ms : List R, v = .slice a len cap ∧ ms.length = len ∧ len ≤ maxLen ∧ RM W a ms := by
  rcases Deep.open_slice Tryz.underlying27 hf with ⟨hcs, _⟩ | ⟨x, len, cap, m, n, D, Pl, hcs, _, hl, hm, hmm, _, hx⟩
  · simp only [List.cons.injEq, and_true] at hcs
    subst hcs
    exact ⟨none, 0, 0, [], rfl, rfl, Nat.zero_le _, .inl rfl⟩
  · simp only [List.cons.injEq, and_true] at hcs
    subst hcs
    simp at hmm
    subst hmm
    rw [cellsR] at hx
    by_cases h0 : len = 0
    · subst h0; exact ⟨_, _, _, [], rfl, rfl, Nat.zero_le _, .inl rfl⟩
    obtain ⟨b, off, spot⟩ := x
    have hsp : spot = none := by
      obtain ⟨cs', h1, _⟩ := hx 0 (by omega)
      obtain ⟨_, hlen, hc⟩ := World.cells?_some h1
      have h2 := hc 0 (by omega)
      rw [List.getElem?_eq_getElem (by omega)] at h2
      simpa [Addr.add] using World.cell?_spot h2
    subst hsp
    have hex : ∀ i, i < len → ∃ m : R, At W b (off + i * 2) m := by
      intro i hi
      obtain ⟨cs', h1, h2⟩ := hx i (by omega)
      obtain ⟨_, hlen, hc⟩ := World.cells?_some h1
      obtain ⟨m, rfl⟩ := open_one hlen h2
      have q0 := hc 0 (by omega)
      have q1 := hc 1 (by omega)
      rw [plain_add, plain_add] at q0 q1
      exact ⟨m, q0, q1⟩
    have hin : Inhabited R := ⟨R.zero⟩
    obtain ⟨V, hV⟩ := Deep.choose_lt hex
    refine ⟨_, _, _, (List.range len).map V, rfl, by simp, Nat.le_trans hl hm, .inr ⟨b, off, rfl, fun i hi => ?_⟩⟩
    have hi' : i < len := by simpa using hi
    have e : ((List.range len).map V).getD i R.zero = V i := by
      rw [List.getD_eq_getElem?_getD, List.getElem?_map, List.getElem?_range hi']; rfl
    rw [e]
    exact hV i hi'
end Ed
end Go.Proofs.YtiipppfkpgbpeaaGreat
namespace Go.Proofs.YtiipppfkpgbpeaaGreat
open Go.ChangeShapes Go.WideShapes Go.ChangeAt Go.RowKit
set_option linter.unusedVariables false
set_option linter.unusedSimpArgs false
set_option maxRecDepth 100000
attribute [local go_sem ↓] Go.wp_at_zero Go.wp_at_succ
namespace Rt
open W1
theorem RA.other {w : World} {b : Nat} {cs : List Value} (h : RA w b cs) {p : Addr} (hne : b ≠ p.block) (v : Value) : RA (w.setCell p v) b cs := by
  have hb : (w.setCell p v).heap[b]? = w.heap[b]? := Below.heap_setCell _ _ _ _ hne
  refine ⟨fun j u hu => ?_, fun j hj => ⟨?_, ?_⟩, h.2.2⟩
  · exact (World.cell?_of_block (a := ⟨b, 0 + j, none⟩) hb).trans (h.1 j u hu)
  · rw [World.cell?_of_block (a := ⟨b, 0 + j, none⟩) hb]; exact (h.2.1 j hj).1
  · rw [World.frozen?_setCell]; exact (h.2.1 j hj).2
set_option maxHeartbeats 8000000 in
theorem szR (x1 x2 x3 x4 x5 x6 : Int) (a1 a2 a3 a4 a5 a6 a7 : Option Addr) (n1 n2 n3 n4 n5 n6 n7 : Nat) (c1 c2 c3 c4 c5 c6 c7 : Nat) (L : Int) (w : World) (hL : 0 ≤ L) (hL1 : L ≤ 1048576) (h1 : n1 ≤ maxLen) (h2 : n2 ≤ maxLen) (h3 : n3 ≤ maxLen) (h4 : n4 ≤ maxLen) (h5 : n5 ≤ maxLen) (h6 : n6 ≤ maxLen) (h7 : n7 ≤ maxLen) :
    Calls Tryz.prog 7 #[.agg #[.int .i64 x1, .int .i64 x2, .int .i64 x3, .int .i64 x4, .int .i64 x5, .slice a1 n1 c1, .slice a2 n2 c2, .slice a3 n3 c3, .slice a4 n4 c4, .slice a5 n5 c5, .slice a6 n6 c6, .slice a7 n7 c7, .int .i64 x6], .int .i64 L] w fun e w' => ∃ r : Int, e = .returned (.int .i64 r) ∧ Below w.heap.size w w' ∧ (r < 0 ∨ (0 ≤ r ∧ r = L - n1 - n2 - n3 - n4 - n5 - n6 - n7)) := by
  have HX : Hid (RA (w.alloc (.cells #[.int .i64 x1, .int .i64 x2, .int .i64 x3, .int .i64 x4, .int .i64 x5, .slice a1 n1 c1, .slice a2 n2 c2, .slice a3 n3 c3, .slice a4 n4 c4, .slice a5 n5 c5, .slice a6 n6 c6, .slice a7 n7 c7, .int .i64 x6] 29)) w.heap.size (rC x1 x2 x3 x4 x5 (.slice a1 n1 c1) (.slice a2 n2 c2) (.slice a3 n3 c3) (.slice a4 n4 c4) (.slice a5 n5 c5) (.slice a6 n6 c6) (.slice a7 n7 c7) x6)) := hide (ra_new w _ rfl _)
  have HB0 : Hid (Below w.heap.size w (w.alloc (.cells #[.int .i64 x1, .int .i64 x2, .int .i64 x3, .int .i64 x4, .int .i64 x5, .slice a1 n1 c1, .slice a2 n2 c2, .slice a3 n3 c3, .slice a4 n4 c4, .slice a5 n5 c5, .slice a6 n6 c6, .slice a7 n7 c7, .int .i64 x6] 29))) := hide ((Below.refl _ _).alloc (Nat.le_refl _) _)
  obtain ⟨r0, hr0⟩ : ∃ r0, L = r0 := ⟨_, rfl⟩
  have HR0 := hide hr0.symm
  rw [hr0] at hL hL1 ⊢
  clear hr0
  go_enter Tryz.func7, Tryz.ntmps7
  go_wp2_with fail
  refine (Lk.szS a1 n1 c1 r0 _ hL hL1 h1).mono ?_
  rintro e w1 ⟨r1, rfl, hw1, hs⟩
  subst hw1
  rcases hs with hs | ⟨hs, hs1⟩
  · go_wp2_with fail
    go_ret
    exact ⟨_, rfl, unhide HB0, .inl (by omega)⟩
  have hn0 : ¬ r1 < 0 := by omega
  have hh0 : r1 ≤ 1048576 := by omega
  have HS0 := hide hs1
  clear hs1
  have hp0 := hs
  clear hs
  go_wp2_with fail
  refine (Tu.szS a2 n2 c2 r1 _ hp0 hh0 h2).mono ?_
  rintro e w2 ⟨r2, rfl, hw2, hs⟩
  subst hw2
  rcases hs with hs | ⟨hs, hs1⟩
  · go_wp2_with fail
    go_ret
    exact ⟨_, rfl, unhide HB0, .inl (by omega)⟩
  have hn1 : ¬ r2 < 0 := by omega
  have hh1 : r2 ≤ 1048576 := by omega
  have HS1 := hide hs1
  clear hs1
  have hp1 := hs
  clear hs
  go_wp2_with fail
  refine (Tu.szS a3 n3 c3 r2 _ hp1 hh1 h3).mono ?_
  rintro e w3 ⟨r3, rfl, hw3, hs⟩
  subst hw3
  rcases hs with hs | ⟨hs, hs1⟩
  · go_wp2_with fail
    go_ret
    exact ⟨_, rfl, unhide HB0, .inl (by omega)⟩
  have hn2 : ¬ r3 < 0 := by omega
  have hh2 : r3 ≤ 1048576 := by omega
  have HS2 := hide hs1
  clear hs1
  have hp2 := hs
  clear hs
  go_wp2_with fail
  refine (Tu.szS a4 n4 c4 r3 _ hp2 hh2 h4).mono ?_
  rintro e w4 ⟨r4, rfl, hw4, hs⟩
  subst hw4
  rcases hs with hs | ⟨hs, hs1⟩
  · go_wp2_with fail
    go_ret
    exact ⟨_, rfl, unhide HB0, .inl (by omega)⟩
  have hn3 : ¬ r4 < 0 := by omega
  have hh3 : r4 ≤ 1048576 := by omega
  have HS3 := hide hs1
  clear hs1
  have hp3 := hs
  clear hs
  go_wp2_with fail
  refine (Tq.sz a5 n5 c5 a6 n6 c6 r4 _ hp3 hh3 h5 h6).mono ?_
  rintro e w5 ⟨r5, rfl, b5, hs⟩
  have HB5 := hide ((unhide HB0).trans (b5.mono (unhide HB0).size))
  have z11 := ((unhide HX).below b5).at (i := 11) rfl
  clear b5
  rcases hs with hs | ⟨hs, hs1⟩
  · go_wp2_with fail
    go_ret
    exact ⟨_, rfl, unhide HB5, .inl (by omega)⟩
  have hn4 : ¬ r5 < 0 := by omega
  have hh4 : r5 ≤ 1048576 := by omega
  have HS4 := hide hs1
  clear hs1
  have hp4 := hs
  clear hs
  go_wp2_with fail
  clear z11
  refine (Ed.szS a7 n7 c7 r5 _ hp4 hh4 h7).mono ?_
  rintro e w6 ⟨r6, rfl, hw6, hs⟩
  subst hw6
  rcases hs with hs | ⟨hs, hs1⟩
  · go_wp2_with fail
    go_ret
    exact ⟨_, rfl, unhide HB5, .inl (by omega)⟩
  have hn5 : ¬ r6 < 0 := by omega
  have hh5 : r6 ≤ 1048576 := by omega
  have HS5 := hide hs1
  clear hs1
  have hp5 := hs
  clear hs
  go_wp2_with fail
  go_ret
  exact ⟨_, rfl, unhide HB5, .inr ⟨hp5, by have e0 := unhide HS0; have e1 := unhide HS1; have e2 := unhide HS2; have e3 := unhide HS3; have e4 := unhide HS4; have e5 := unhide HS5; omega⟩⟩
theorem uptoL_set {w : World} {g n j : Nat} {ms : List Lk.R} {p : Addr} {v : Value} (h : Lk.Upto w g n j ms) (hne : p.block ≠ g) : Lk.Upto (w.setCell p v) g n j ms :=
  h.of_block (Below.heap_setCell _ _ _ _ (fun e => hne e.symm))
theorem uptoE_set {w : World} {g n j : Nat} {ms : List Ed.R} {p : Addr} {v : Value} (h : Ed.Upto w g n j ms) (hne : p.block ≠ g) : Ed.Upto (w.setCell p v) g n j ms :=
  h.of_block (Below.heap_setCell _ _ _ _ (fun e => hne e.symm))
set_option maxHeartbeats 16000000 in
theorem toR (x1 x2 x3 x4 x5 x6 : Int) (a1 a2 a3 a4 a5 a6 a7 : Option Addr) (c1 c2 c3 c4 c5 c6 c7 : Nat) (ls : List Lk.R) (tw : List Tu.R) (se : List Tu.R) (du : List Tu.R) (ss : List So.R) (es : List Tu.R) (la : List Ed.R) (w : World) (hm1 : ls.length ≤ 1048576) (hm2 : tw.length ≤ 1048576) (hm3 : se.length ≤ 1048576) (hm4 : du.length ≤ 1048576) (hm5 : ss.length ≤ 1048576) (hm6 : es.length ≤ 1048576) (hm7 : la.length ≤ 1048576) (hr1 : Lk.RM w a1 ls) (hr2 : Tu.RM w a2 tw) (hr3 : Tu.RM w a3 se) (hr4 : Tu.RM w a4 du) (hr5 : So.RM w a5 ss) (hr6 : Tu.RM w a6 es) (hr7 : Ed.RM w a7 la) :
    Calls Tryz.prog 9 #[.agg #[.int .i64 x1, .int .i64 x2, .int .i64 x3, .int .i64 x4, .int .i64 x5, .slice a1 ls.length c1, .slice a2 tw.length c2, .slice a3 se.length c3, .slice a4 du.length c4, .slice a5 ss.length c5, .slice a6 es.length c6, .slice a7 la.length c7, .int .i64 x6]] w fun e w' => ∃ g1 g2 g3 g4 g5 g6 g7, e = .returned (.agg (rC x1 x2 x3 x4 x5 (.slice (some ⟨g1, 0, none⟩) ls.length ls.length) (.slice (some ⟨g2, 0, none⟩) tw.length tw.length) (.slice (some ⟨g3, 0, none⟩) se.length se.length) (.slice (some ⟨g4, 0, none⟩) du.length du.length) (.slice (some ⟨g5, 0, none⟩) ss.length ss.length) (.slice (some ⟨g6, 0, none⟩) es.length es.length) (.slice (some ⟨g7, 0, none⟩) la.length la.length) x6).toArray) ∧ Below w.heap.size w w' ∧ (w.heap.size ≤ g1 ∧ g1 < g2 ∧ g2 < g3 ∧ g3 < g4 ∧ g4 < g5 ∧ g5 < g6 ∧ g6 < g7 ∧ g7 < w'.heap.size) ∧ Lk.Upto w' g1 ls.length ls.length ls ∧ Tu.Upto w' g2 tw.length tw.length tw ∧ Tu.Upto w' g3 se.length se.length se ∧ Tu.Upto w' g4 du.length du.length du ∧ So.Upto w' g5 ss.length ss.length ss ∧ Tu.Upto w' g6 es.length es.length es ∧ Ed.Upto w' g7 la.length la.length la := by
  have HA1 : Hid (Below w.heap.size w (w.alloc (.cells #[.int .i64 x1, .int .i64 x2, .int .i64 x3, .int .i64 x4, .int .i64 x5, .slice a1 ls.length c1, .slice a2 tw.length c2, .slice a3 se.length c3, .slice a4 du.length c4, .slice a5 ss.length c5, .slice a6 es.length c6, .slice a7 la.length c7, .int .i64 x6] 29))) := hide ((Below.refl _ _).alloc (Nat.le_refl _) _)
  have HA2 : Hid (Below w.heap.size w ((w.alloc (.cells #[.int .i64 x1, .int .i64 x2, .int .i64 x3, .int .i64 x4, .int .i64 x5, .slice a1 ls.length c1, .slice a2 tw.length c2, .slice a3 se.length c3, .slice a4 du.length c4, .slice a5 ss.length c5, .slice a6 es.length c6, .slice a7 la.length c7, .int .i64 x6] 29)).alloc (.cells #[.int .i64 0, .int .i64 0, .int .i64 0, .int .i64 0, .int .i64 0, .slice none 0 0, .slice none 0 0, .slice none 0 0, .slice none 0 0, .slice none 0 0, .slice none 0 0, .slice none 0 0, .int .i64 0] 38))) := hide ((unhide HA1).alloc (unhide HA1).size _)
  have HB0 : Hid (Below w.heap.size w (((w.alloc (.cells #[.int .i64 x1, .int .i64 x2, .int .i64 x3, .int .i64 x4, .int .i64 x5, .slice a1 ls.length c1, .slice a2 tw.length c2, .slice a3 se.length c3, .slice a4 du.length c4, .slice a5 ss.length c5, .slice a6 es.length c6, .slice a7 la.length c7, .int .i64 x6] 29)).alloc (.cells #[.int .i64 0, .int .i64 0, .int .i64 0, .int .i64 0, .int .i64 0, .slice none 0 0, .slice none 0 0, .slice none 0 0, .slice none 0 0, .slice none 0 0, .slice none 0 0, .slice none 0 0, .int .i64 0] 38)).alloc (.cells #[.int .i64 x1, .int .i64 x2, .int .i64 x3, .int .i64 x4, .int .i64 x5, .slice none 0 0, .slice none 0 0, .slice none 0 0, .slice none 0 0, .slice none 0 0, .slice none 0 0, .slice none 0 0, .int .i64 0] 38))) := hide ((unhide HA2).alloc (unhide HA2).size _)
  have HX0 : Hid (RA (((w.alloc (.cells #[.int .i64 x1, .int .i64 x2, .int .i64 x3, .int .i64 x4, .int .i64 x5, .slice a1 ls.length c1, .slice a2 tw.length c2, .slice a3 se.length c3, .slice a4 du.length c4, .slice a5 ss.length c5, .slice a6 es.length c6, .slice a7 la.length c7, .int .i64 x6] 29)).alloc (.cells #[.int .i64 0, .int .i64 0, .int .i64 0, .int .i64 0, .int .i64 0, .slice none 0 0, .slice none 0 0, .slice none 0 0, .slice none 0 0, .slice none 0 0, .slice none 0 0, .slice none 0 0, .int .i64 0] 38)).alloc (.cells #[.int .i64 x1, .int .i64 x2, .int .i64 x3, .int .i64 x4, .int .i64 x5, .slice none 0 0, .slice none 0 0, .slice none 0 0, .slice none 0 0, .slice none 0 0, .slice none 0 0, .slice none 0 0, .int .i64 0] 38)) w.heap.size (rC x1 x2 x3 x4 x5 (.slice a1 ls.length c1) (.slice a2 tw.length c2) (.slice a3 se.length c3) (.slice a4 du.length c4) (.slice a5 ss.length c5) (.slice a6 es.length c6) (.slice a7 la.length c7) x6)) := hide (((ra_new w _ rfl _).below ((Below.refl _ _).alloc (Nat.le_refl _) _)).below ((Below.refl _ _).alloc (Nat.le_refl _) _))
  have HZ0 : Hid (RA (((w.alloc (.cells #[.int .i64 x1, .int .i64 x2, .int .i64 x3, .int .i64 x4, .int .i64 x5, .slice a1 ls.length c1, .slice a2 tw.length c2, .slice a3 se.length c3, .slice a4 du.length c4, .slice a5 ss.length c5, .slice a6 es.length c6, .slice a7 la.length c7, .int .i64 x6] 29)).alloc (.cells #[.int .i64 0, .int .i64 0, .int .i64 0, .int .i64 0, .int .i64 0, .slice none 0 0, .slice none 0 0, .slice none 0 0, .slice none 0 0, .slice none 0 0, .slice none 0 0, .slice none 0 0, .int .i64 0] 38)).alloc (.cells #[.int .i64 x1, .int .i64 x2, .int .i64 x3, .int .i64 x4, .int .i64 x5, .slice none 0 0, .slice none 0 0, .slice none 0 0, .slice none 0 0, .slice none 0 0, .slice none 0 0, .slice none 0 0, .int .i64 0] 38)) (w.heap.size + 1) (rC 0 0 0 0 0 (.slice none 0 0) (.slice none 0 0) (.slice none 0 0) (.slice none 0 0) (.slice none 0 0) (.slice none 0 0) (.slice none 0 0) 0)) := hide (by have := (ra_new (w.alloc (.cells #[.int .i64 x1, .int .i64 x2, .int .i64 x3, .int .i64 x4, .int .i64 x5, .slice a1 ls.length c1, .slice a2 tw.length c2, .slice a3 se.length c3, .slice a4 du.length c4, .slice a5 ss.length c5, .slice a6 es.length c6, .slice a7 la.length c7, .int .i64 x6] 29)) (rC 0 0 0 0 0 (.slice none 0 0) (.slice none 0 0) (.slice none 0 0) (.slice none 0 0) (.slice none 0 0) (.slice none 0 0) (.slice none 0 0) 0) rfl 38).below ((Below.refl _ _).alloc (Nat.le_refl _) (.cells #[.int .i64 x1, .int .i64 x2, .int .i64 x3, .int .i64 x4, .int .i64 x5, .slice none 0 0, .slice none 0 0, .slice none 0 0, .slice none 0 0, .slice none 0 0, .slice none 0 0, .slice none 0 0, .int .i64 0] 38)); rw [show (w.alloc (.cells #[.int .i64 x1, .int .i64 x2, .int .i64 x3, .int .i64 x4, .int .i64 x5, .slice a1 ls.length c1, .slice a2 tw.length c2, .slice a3 se.length c3, .slice a4 du.length c4, .slice a5 ss.length c5, .slice a6 es.length c6, .slice a7 la.length c7, .int .i64 x6] 29)).heap.size = w.heap.size + 1 by simp] at this; exact this)
  have HO0 : Hid (RA (((w.alloc (.cells #[.int .i64 x1, .int .i64 x2, .int .i64 x3, .int .i64 x4, .int .i64 x5, .slice a1 ls.length c1, .slice a2 tw.length c2, .slice a3 se.length c3, .slice a4 du.length c4, .slice a5 ss.length c5, .slice a6 es.length c6, .slice a7 la.length c7, .int .i64 x6] 29)).alloc (.cells #[.int .i64 0, .int .i64 0, .int .i64 0, .int .i64 0, .int .i64 0, .slice none 0 0, .slice none 0 0, .slice none 0 0, .slice none 0 0, .slice none 0 0, .slice none 0 0, .slice none 0 0, .int .i64 0] 38)).alloc (.cells #[.int .i64 x1, .int .i64 x2, .int .i64 x3, .int .i64 x4, .int .i64 x5, .slice none 0 0, .slice none 0 0, .slice none 0 0, .slice none 0 0, .slice none 0 0, .slice none 0 0, .slice none 0 0, .int .i64 0] 38)) (w.heap.size + 2) (rC x1 x2 x3 x4 x5 (.slice none 0 0) (.slice none 0 0) (.slice none 0 0) (.slice none 0 0) (.slice none 0 0) (.slice none 0 0) (.slice none 0 0) 0)) := hide (by have := ra_new ((w.alloc (.cells #[.int .i64 x1, .int .i64 x2, .int .i64 x3, .int .i64 x4, .int .i64 x5, .slice a1 ls.length c1, .slice a2 tw.length c2, .slice a3 se.length c3, .slice a4 du.length c4, .slice a5 ss.length c5, .slice a6 es.length c6, .slice a7 la.length c7, .int .i64 x6] 29)).alloc (.cells #[.int .i64 0, .int .i64 0, .int .i64 0, .int .i64 0, .int .i64 0, .slice none 0 0, .slice none 0 0, .slice none 0 0, .slice none 0 0, .slice none 0 0, .slice none 0 0, .slice none 0 0, .int .i64 0] 38)) (rC x1 x2 x3 x4 x5 (.slice none 0 0) (.slice none 0 0) (.slice none 0 0) (.slice none 0 0) (.slice none 0 0) (.slice none 0 0) (.slice none 0 0) 0) rfl 38; rw [show ((w.alloc (.cells #[.int .i64 x1, .int .i64 x2, .int .i64 x3, .int .i64 x4, .int .i64 x5, .slice a1 ls.length c1, .slice a2 tw.length c2, .slice a3 se.length c3, .slice a4 du.length c4, .slice a5 ss.length c5, .slice a6 es.length c6, .slice a7 la.length c7, .int .i64 x6] 29)).alloc (.cells #[.int .i64 0, .int .i64 0, .int .i64 0, .int .i64 0, .int .i64 0, .slice none 0 0, .slice none 0 0, .slice none 0 0, .slice none 0 0, .slice none 0 0, .slice none 0 0, .slice none 0 0, .int .i64 0] 38)).heap.size = w.heap.size + 2 by simp] at this; exact this)
  have hq0 : ((((w.alloc (.cells #[.int .i64 x1, .int .i64 x2, .int .i64 x3, .int .i64 x4, .int .i64 x5, .slice a1 ls.length c1, .slice a2 tw.length c2, .slice a3 se.length c3, .slice a4 du.length c4, .slice a5 ss.length c5, .slice a6 es.length c6, .slice a7 la.length c7, .int .i64 x6] 29)).alloc (.cells #[.int .i64 0, .int .i64 0, .int .i64 0, .int .i64 0, .int .i64 0, .slice none 0 0, .slice none 0 0, .slice none 0 0, .slice none 0 0, .slice none 0 0, .slice none 0 0, .slice none 0 0, .int .i64 0] 38)).alloc (.cells #[.int .i64 x1, .int .i64 x2, .int .i64 x3, .int .i64 x4, .int .i64 x5, .slice none 0 0, .slice none 0 0, .slice none 0 0, .slice none 0 0, .slice none 0 0, .slice none 0 0, .slice none 0 0, .int .i64 0] 38))).heap.size = w.heap.size + 3 := by simp
  have hp2 : w.heap.size ≤ w.heap.size + 2 := by omega
  have HR1 := hide hr1
  have HR2 := hide hr2
  have HR3 := hide hr3
  have HR4 := hide hr4
  have HR5 := hide hr5
  have HR6 := hide hr6
  have HR7 := hide hr7
  clear hr1 hr2 hr3 hr4 hr5 hr6 hr7 HA1 HA2
  go_enter Tryz.func9, Tryz.ntmps9
  go_wp2_with fail
  generalize hW : (((w.alloc (.cells #[.int .i64 x1, .int .i64 x2, .int .i64 x3, .int .i64 x4, .int .i64 x5, .slice a1 ls.length c1, .slice a2 tw.length c2, .slice a3 se.length c3, .slice a4 du.length c4, .slice a5 ss.length c5, .slice a6 es.length c6, .slice a7 la.length c7, .int .i64 x6] 29)).alloc (.cells #[.int .i64 0, .int .i64 0, .int .i64 0, .int .i64 0, .int .i64 0, .slice none 0 0, .slice none 0 0, .slice none 0 0, .slice none 0 0, .slice none 0 0, .slice none 0 0, .slice none 0 0, .int .i64 0] 38)).alloc (.cells #[.int .i64 x1, .int .i64 x2, .int .i64 x3, .int .i64 x4, .int .i64 x5, .slice none 0 0, .slice none 0 0, .slice none 0 0, .slice none 0 0, .slice none 0 0, .slice none 0 0, .slice none 0 0, .int .i64 0] 38)) = V0 at *
  clear hW
  refine (Lk.toS a1 ls c1 _ hm1 ((unhide HR1).below (unhide HB0))).mono ?_
  rintro e V1 ⟨g1, rfl, d1, hg1, hz1, u1⟩
  have HB1 := hide ((unhide HB0).trans (d1.mono (unhide HB0).size))
  have HX1 := hide ((unhide HX0).below d1)
  have HZ1 := hide ((unhide HZ0).below d1)
  have HO1 := hide ((unhide HO0).below d1)
  have hq1 := d1.size
  clear HX0 HZ0 HO0 
  have U1_1 := hide u1
  clear d1 u1
  obtain ⟨V2, hV2⟩ : ∃ V, (V1.setCell ⟨w.heap.size + 2, 5, none⟩ (.slice (some ⟨g1, 0, none⟩) ls.length ls.length)) = V := ⟨_, rfl⟩
  have HB2 : Hid (Below w.heap.size w V2) := hide (by rw [← hV2]; exact ((unhide HB1).setCell (p := ⟨w.heap.size + 2, 5, none⟩) hp2 (.slice (some ⟨g1, 0, none⟩) ls.length ls.length)))
  have HX2 : Hid (RA V2 w.heap.size (rC x1 x2 x3 x4 x5 (.slice a1 ls.length c1) (.slice a2 tw.length c2) (.slice a3 se.length c3) (.slice a4 du.length c4) (.slice a5 ss.length c5) (.slice a6 es.length c6) (.slice a7 la.length c7) x6)) := hide (by rw [← hV2]; exact (RA.other (unhide HX1) (p := ⟨w.heap.size + 2, 5, none⟩) (by show w.heap.size ≠ w.heap.size + 2; omega) (.slice (some ⟨g1, 0, none⟩) ls.length ls.length)))
  have HZ2 : Hid (RA V2 (w.heap.size + 1) (rC 0 0 0 0 0 (.slice none 0 0) (.slice none 0 0) (.slice none 0 0) (.slice none 0 0) (.slice none 0 0) (.slice none 0 0) (.slice none 0 0) 0)) := hide (by rw [← hV2]; exact (RA.other (unhide HZ1) (p := ⟨w.heap.size + 2, 5, none⟩) (by show w.heap.size + 1 ≠ w.heap.size + 2; omega) (.slice (some ⟨g1, 0, none⟩) ls.length ls.length)))
  have HO2 : Hid (RA V2 (w.heap.size + 2) (rC x1 x2 x3 x4 x5 (.slice (some ⟨g1, 0, none⟩) ls.length ls.length) (.slice none 0 0) (.slice none 0 0) (.slice none 0 0) (.slice none 0 0) (.slice none 0 0) (.slice none 0 0) 0)) := hide (by rw [← hV2]; exact (RA.set (unhide HO1) (k := 5) (by omega) (.slice (some ⟨g1, 0, none⟩) ls.length ls.length)))
  have U1_2 : Hid (Lk.Upto V2 g1 ls.length ls.length ls) := hide (by rw [← hV2]; exact (uptoL_set (p := ⟨w.heap.size + 2, 5, none⟩) (v := (.slice (some ⟨g1, 0, none⟩) ls.length ls.length)) (unhide U1_1) (by show w.heap.size + 2 ≠ g1; omega)))
  have hq2 : V2.heap.size = V1.heap.size := by rw [← hV2]; simp [World.setCell]
  have HV2 := hide hV2
  clear hV2
  have o5 := (unhide HO1).at (i := 5) rfl
  have f5 := (unhide HO1).free (i := 5) (by omega)
  have z6 := (unhide HX1).at (i := 6) rfl
  have hne : ¬ w.heap.size = w.heap.size + 2 := by omega
  go_wp2_with fail
  rw [unhide HV2]
  clear hne o5 f5 z6 HX1 HZ1 HO1 U1_1
  refine (Tu.toS a2 tw c2 _ hm2 ((unhide HR2).below (unhide HB2))).mono ?_
  rintro e V3 ⟨g2, rfl, d3, hg2, hz2, u3⟩
  have HB3 := hide ((unhide HB2).trans (d3.mono (unhide HB2).size))
  have HX3 := hide ((unhide HX2).below d3)
  have HZ3 := hide ((unhide HZ2).below d3)
  have HO3 := hide ((unhide HO2).below d3)
  have U1_3 := hide ((unhide U1_2).below d3 (by omega))
  have hq3 := d3.size
  clear HX2 HZ2 HO2 U1_2
  have U2_3 := hide u3
  clear d3 u3
  obtain ⟨V4, hV4⟩ : ∃ V, (V3.setCell ⟨w.heap.size + 2, 6, none⟩ (.slice (some ⟨g2, 0, none⟩) tw.length tw.length)) = V := ⟨_, rfl⟩
  have HB4 : Hid (Below w.heap.size w V4) := hide (by rw [← hV4]; exact ((unhide HB3).setCell (p := ⟨w.heap.size + 2, 6, none⟩) hp2 (.slice (some ⟨g2, 0, none⟩) tw.length tw.length)))
  have HX4 : Hid (RA V4 w.heap.size (rC x1 x2 x3 x4 x5 (.slice a1 ls.length c1) (.slice a2 tw.length c2) (.slice a3 se.length c3) (.slice a4 du.length c4) (.slice a5 ss.length c5) (.slice a6 es.length c6) (.slice a7 la.length c7) x6)) := hide (by rw [← hV4]; exact (RA.other (unhide HX3) (p := ⟨w.heap.size + 2, 6, none⟩) (by show w.heap.size ≠ w.heap.size + 2; omega) (.slice (some ⟨g2, 0, none⟩) tw.length tw.length)))
  have HZ4 : Hid (RA V4 (w.heap.size + 1) (rC 0 0 0 0 0 (.slice none 0 0) (.slice none 0 0) (.slice none 0 0) (.slice none 0 0) (.slice none 0 0) (.slice none 0 0) (.slice none 0 0) 0)) := hide (by rw [← hV4]; exact (RA.other (unhide HZ3) (p := ⟨w.heap.size + 2, 6, none⟩) (by show w.heap.size + 1 ≠ w.heap.size + 2; omega) (.slice (some ⟨g2, 0, none⟩) tw.length tw.length)))
  have HO4 : Hid (RA V4 (w.heap.size + 2) (rC x1 x2 x3 x4 x5 (.slice (some ⟨g1, 0, none⟩) ls.length ls.length) (.slice (some ⟨g2, 0, none⟩) tw.length tw.length) (.slice none 0 0) (.slice none 0 0) (.slice none 0 0) (.slice none 0 0) (.slice none 0 0) 0)) := hide (by rw [← hV4]; exact (RA.set (unhide HO3) (k := 6) (by omega) (.slice (some ⟨g2, 0, none⟩) tw.length tw.length)))
  have U1_4 : Hid (Lk.Upto V4 g1 ls.length ls.length ls) := hide (by rw [← hV4]; exact (uptoL_set (p := ⟨w.heap.size + 2, 6, none⟩) (v := (.slice (some ⟨g2, 0, none⟩) tw.length tw.length)) (unhide U1_3) (by show w.heap.size + 2 ≠ g1; omega)))
  have U2_4 : Hid (Tu.Upto V4 g2 tw.length tw.length tw) := hide (by rw [← hV4]; exact (Tq.uptoT_set (p := ⟨w.heap.size + 2, 6, none⟩) (v := (.slice (some ⟨g2, 0, none⟩) tw.length tw.length)) (unhide U2_3) (by show w.heap.size + 2 ≠ g2; omega)))
  have hq4 : V4.heap.size = V3.heap.size := by rw [← hV4]; simp [World.setCell]
  have HV4 := hide hV4
  clear hV4
  have o6 := (unhide HO3).at (i := 6) rfl
  have f6 := (unhide HO3).free (i := 6) (by omega)
  have z7 := (unhide HX3).at (i := 7) rfl
  have hne : ¬ w.heap.size = w.heap.size + 2 := by omega
  go_wp2_with fail
  rw [unhide HV4]
  clear hne o6 f6 z7 HX3 HZ3 HO3 U1_3 U2_3
  refine (Tu.toS a3 se c3 _ hm3 ((unhide HR3).below (unhide HB4))).mono ?_
  rintro e V5 ⟨g3, rfl, d5, hg3, hz3, u5⟩
  have HB5 := hide ((unhide HB4).trans (d5.mono (unhide HB4).size))
  have HX5 := hide ((unhide HX4).below d5)
  have HZ5 := hide ((unhide HZ4).below d5)
  have HO5 := hide ((unhide HO4).below d5)
  have U1_5 := hide ((unhide U1_4).below d5 (by omega))
  have U2_5 := hide ((unhide U2_4).below d5 (by omega))
  have hq5 := d5.size
  clear HX4 HZ4 HO4 U1_4 U2_4
  have U3_5 := hide u5
  clear d5 u5
  obtain ⟨V6, hV6⟩ : ∃ V, (V5.setCell ⟨w.heap.size + 2, 7, none⟩ (.slice (some ⟨g3, 0, none⟩) se.length se.length)) = V := ⟨_, rfl⟩
  have HB6 : Hid (Below w.heap.size w V6) := hide (by rw [← hV6]; exact ((unhide HB5).setCell (p := ⟨w.heap.size + 2, 7, none⟩) hp2 (.slice (some ⟨g3, 0, none⟩) se.length se.length)))
  have HX6 : Hid (RA V6 w.heap.size (rC x1 x2 x3 x4 x5 (.slice a1 ls.length c1) (.slice a2 tw.length c2) (.slice a3 se.length c3) (.slice a4 du.length c4) (.slice a5 ss.length c5) (.slice a6 es.length c6) (.slice a7 la.length c7) x6)) := hide (by rw [← hV6]; exact (RA.other (unhide HX5) (p := ⟨w.heap.size + 2, 7, none⟩) (by show w.heap.size ≠ w.heap.size + 2; omega) (.slice (some ⟨g3, 0, none⟩) se.length se.length)))
  have HZ6 : Hid (RA V6 (w.heap.size + 1) (rC 0 0 0 0 0 (.slice none 0 0) (.slice none 0 0) (.slice none 0 0) (.slice none 0 0) (.slice none 0 0) (.slice none 0 0) (.slice none 0 0) 0)) := hide (by rw [← hV6]; exact (RA.other (unhide HZ5) (p := ⟨w.heap.size + 2, 7, none⟩) (by show w.heap.size + 1 ≠ w.heap.size + 2; omega) (.slice (some ⟨g3, 0, none⟩) se.length se.length)))
  have HO6 : Hid (RA V6 (w.heap.size + 2) (rC x1 x2 x3 x4 x5 (.slice (some ⟨g1, 0, none⟩) ls.length ls.length) (.slice (some ⟨g2, 0, none⟩) tw.length tw.length) (.slice (some ⟨g3, 0, none⟩) se.length se.length) (.slice none 0 0) (.slice none 0 0) (.slice none 0 0) (.slice none 0 0) 0)) := hide (by rw [← hV6]; exact (RA.set (unhide HO5) (k := 7) (by omega) (.slice (some ⟨g3, 0, none⟩) se.length se.length)))
  have U1_6 : Hid (Lk.Upto V6 g1 ls.length ls.length ls) := hide (by rw [← hV6]; exact (uptoL_set (p := ⟨w.heap.size + 2, 7, none⟩) (v := (.slice (some ⟨g3, 0, none⟩) se.length se.length)) (unhide U1_5) (by show w.heap.size + 2 ≠ g1; omega)))
  have U2_6 : Hid (Tu.Upto V6 g2 tw.length tw.length tw) := hide (by rw [← hV6]; exact (Tq.uptoT_set (p := ⟨w.heap.size + 2, 7, none⟩) (v := (.slice (some ⟨g3, 0, none⟩) se.length se.length)) (unhide U2_5) (by show w.heap.size + 2 ≠ g2; omega)))
  have U3_6 : Hid (Tu.Upto V6 g3 se.length se.length se) := hide (by rw [← hV6]; exact (Tq.uptoT_set (p := ⟨w.heap.size + 2, 7, none⟩) (v := (.slice (some ⟨g3, 0, none⟩) se.length se.length)) (unhide U3_5) (by show w.heap.size + 2 ≠ g3; omega)))
  have hq6 : V6.heap.size = V5.heap.size := by rw [← hV6]; simp [World.setCell]
  have HV6 := hide hV6
  clear hV6
  have o7 := (unhide HO5).at (i := 7) rfl
  have f7 := (unhide HO5).free (i := 7) (by omega)
  have z8 := (unhide HX5).at (i := 8) rfl
  have hne : ¬ w.heap.size = w.heap.size + 2 := by omega
  go_wp2_with fail
  rw [unhide HV6]
  clear hne o7 f7 z8 HX5 HZ5 HO5 U1_5 U2_5 U3_5
  refine (Tu.toS a4 du c4 _ hm4 ((unhide HR4).below (unhide HB6))).mono ?_
  rintro e V7 ⟨g4, rfl, d7, hg4, hz4, u7⟩
  have HB7 := hide ((unhide HB6).trans (d7.mono (unhide HB6).size))
  have HX7 := hide ((unhide HX6).below d7)
  have HZ7 := hide ((unhide HZ6).below d7)
  have HO7 := hide ((unhide HO6).below d7)
  have U1_7 := hide ((unhide U1_6).below d7 (by omega))
  have U2_7 := hide ((unhide U2_6).below d7 (by omega))
  have U3_7 := hide ((unhide U3_6).below d7 (by omega))
  have hq7 := d7.size
  clear HX6 HZ6 HO6 U1_6 U2_6 U3_6
  have U4_7 := hide u7
  clear d7 u7
  obtain ⟨V8, hV8⟩ : ∃ V, (V7.setCell ⟨w.heap.size + 2, 8, none⟩ (.slice (some ⟨g4, 0, none⟩) du.length du.length)) = V := ⟨_, rfl⟩
  have HB8 : Hid (Below w.heap.size w V8) := hide (by rw [← hV8]; exact ((unhide HB7).setCell (p := ⟨w.heap.size + 2, 8, none⟩) hp2 (.slice (some ⟨g4, 0, none⟩) du.length du.length)))
  have HX8 : Hid (RA V8 w.heap.size (rC x1 x2 x3 x4 x5 (.slice a1 ls.length c1) (.slice a2 tw.length c2) (.slice a3 se.length c3) (.slice a4 du.length c4) (.slice a5 ss.length c5) (.slice a6 es.length c6) (.slice a7 la.length c7) x6)) := hide (by rw [← hV8]; exact (RA.other (unhide HX7) (p := ⟨w.heap.size + 2, 8, none⟩) (by show w.heap.size ≠ w.heap.size + 2; omega) (.slice (some ⟨g4, 0, none⟩) du.length du.length)))
  have HZ8 : Hid (RA V8 (w.heap.size + 1) (rC 0 0 0 0 0 (.slice none 0 0) (.slice none 0 0) (.slice none 0 0) (.slice none 0 0) (.slice none 0 0) (.slice none 0 0) (.slice none 0 0) 0)) := hide (by rw [← hV8]; exact (RA.other (unhide HZ7) (p := ⟨w.heap.size + 2, 8, none⟩) (by show w.heap.size + 1 ≠ w.heap.size + 2; omega) (.slice (some ⟨g4, 0, none⟩) du.length du.length)))
  have HO8 : Hid (RA V8 (w.heap.size + 2) (rC x1 x2 x3 x4 x5 (.slice (some ⟨g1, 0, none⟩) ls.length ls.length) (.slice (some ⟨g2, 0, none⟩) tw.length tw.length) (.slice (some ⟨g3, 0, none⟩) se.length se.length) (.slice (some ⟨g4, 0, none⟩) du.length du.length) (.slice none 0 0) (.slice none 0 0) (.slice none 0 0) 0)) := hide (by rw [← hV8]; exact (RA.set (unhide HO7) (k := 8) (by omega) (.slice (some ⟨g4, 0, none⟩) du.length du.length)))
  have U1_8 : Hid (Lk.Upto V8 g1 ls.length ls.length ls) := hide (by rw [← hV8]; exact (uptoL_set (p := ⟨w.heap.size + 2, 8, none⟩) (v := (.slice (some ⟨g4, 0, none⟩) du.length du.length)) (unhide U1_7) (by show w.heap.size + 2 ≠ g1; omega)))
  have U2_8 : Hid (Tu.Upto V8 g2 tw.length tw.length tw) := hide (by rw [← hV8]; exact (Tq.uptoT_set (p := ⟨w.heap.size + 2, 8, none⟩) (v := (.slice (some ⟨g4, 0, none⟩) du.length du.length)) (unhide U2_7) (by show w.heap.size + 2 ≠ g2; omega)))
  have U3_8 : Hid (Tu.Upto V8 g3 se.length se.length se) := hide (by rw [← hV8]; exact (Tq.uptoT_set (p := ⟨w.heap.size + 2, 8, none⟩) (v := (.slice (some ⟨g4, 0, none⟩) du.length du.length)) (unhide U3_7) (by show w.heap.size + 2 ≠ g3; omega)))
  have U4_8 : Hid (Tu.Upto V8 g4 du.length du.length du) := hide (by rw [← hV8]; exact (Tq.uptoT_set (p := ⟨w.heap.size + 2, 8, none⟩) (v := (.slice (some ⟨g4, 0, none⟩) du.length du.length)) (unhide U4_7) (by show w.heap.size + 2 ≠ g4; omega)))
  have hq8 : V8.heap.size = V7.heap.size := by rw [← hV8]; simp [World.setCell]
  have HV8 := hide hV8
  clear hV8
  have o8 := (unhide HO7).at (i := 8) rfl
  have f8 := (unhide HO7).free (i := 8) (by omega)
  have z9 := (unhide HX7).at (i := 9) rfl
  have z10 := (unhide HX7).at (i := 10) rfl
  have hne : ¬ w.heap.size = w.heap.size + 2 := by omega
  go_wp2_with fail
  rw [unhide HV8]
  clear hne o8 f8 z9 z10 HX7 HZ7 HO7 U1_7 U2_7 U3_7 U4_7
  refine (Tq.to a5 ss c5 a6 es c6 _ hm5 hm6 ((unhide HR5).below (unhide HB8)) ((unhide HR6).below (unhide HB8))).mono ?_
  rintro e V9 ⟨g5, g6, rfl, d9, hg5, u9, v9⟩
  have HB9 := hide ((unhide HB8).trans (d9.mono (unhide HB8).size))
  have HX9 := hide ((unhide HX8).below d9)
  have HZ9 := hide ((unhide HZ8).below d9)
  have HO9 := hide ((unhide HO8).below d9)
  have U1_9 := hide ((unhide U1_8).below d9 (by omega))
  have U2_9 := hide ((unhide U2_8).below d9 (by omega))
  have U3_9 := hide ((unhide U3_8).below d9 (by omega))
  have U4_9 := hide ((unhide U4_8).below d9 (by omega))
  have hq9 := d9.size
  clear HX8 HZ8 HO8 U1_8 U2_8 U3_8 U4_8
  have U5_9 := hide u9
  have U6_9 := hide v9
  clear d9 u9 v9
  obtain ⟨V10, hV10⟩ : ∃ V, ((V9.setCell ⟨w.heap.size + 2, 9, none⟩ (.slice (some ⟨g5, 0, none⟩) ss.length ss.length)).setCell ⟨w.heap.size + 2, 10, none⟩ (.slice (some ⟨g6, 0, none⟩) es.length es.length)) = V := ⟨_, rfl⟩
  have HB10 : Hid (Below w.heap.size w V10) := hide (by rw [← hV10]; exact (((unhide HB9).setCell (p := ⟨w.heap.size + 2, 9, none⟩) hp2 (.slice (some ⟨g5, 0, none⟩) ss.length ss.length)).setCell (p := ⟨w.heap.size + 2, 10, none⟩) hp2 (.slice (some ⟨g6, 0, none⟩) es.length es.length)))
  have HX10 : Hid (RA V10 w.heap.size (rC x1 x2 x3 x4 x5 (.slice a1 ls.length c1) (.slice a2 tw.length c2) (.slice a3 se.length c3) (.slice a4 du.length c4) (.slice a5 ss.length c5) (.slice a6 es.length c6) (.slice a7 la.length c7) x6)) := hide (by rw [← hV10]; exact (RA.other (RA.other (unhide HX9) (p := ⟨w.heap.size + 2, 9, none⟩) (by show w.heap.size ≠ w.heap.size + 2; omega) (.slice (some ⟨g5, 0, none⟩) ss.length ss.length)) (p := ⟨w.heap.size + 2, 10, none⟩) (by show w.heap.size ≠ w.heap.size + 2; omega) (.slice (some ⟨g6, 0, none⟩) es.length es.length)))
  have HZ10 : Hid (RA V10 (w.heap.size + 1) (rC 0 0 0 0 0 (.slice none 0 0) (.slice none 0 0) (.slice none 0 0) (.slice none 0 0) (.slice none 0 0) (.slice none 0 0) (.slice none 0 0) 0)) := hide (by rw [← hV10]; exact (RA.other (RA.other (unhide HZ9) (p := ⟨w.heap.size + 2, 9, none⟩) (by show w.heap.size + 1 ≠ w.heap.size + 2; omega) (.slice (some ⟨g5, 0, none⟩) ss.length ss.length)) (p := ⟨w.heap.size + 2, 10, none⟩) (by show w.heap.size + 1 ≠ w.heap.size + 2; omega) (.slice (some ⟨g6, 0, none⟩) es.length es.length)))
  have HO10 : Hid (RA V10 (w.heap.size + 2) (rC x1 x2 x3 x4 x5 (.slice (some ⟨g1, 0, none⟩) ls.length ls.length) (.slice (some ⟨g2, 0, none⟩) tw.length tw.length) (.slice (some ⟨g3, 0, none⟩) se.length se.length) (.slice (some ⟨g4, 0, none⟩) du.length du.length) (.slice (some ⟨g5, 0, none⟩) ss.length ss.length) (.slice (some ⟨g6, 0, none⟩) es.length es.length) (.slice none 0 0) 0)) := hide (by rw [← hV10]; exact (RA.set (RA.set (unhide HO9) (k := 9) (by omega) (.slice (some ⟨g5, 0, none⟩) ss.length ss.length)) (k := 10) (by omega) (.slice (some ⟨g6, 0, none⟩) es.length es.length)))
  have U1_10 : Hid (Lk.Upto V10 g1 ls.length ls.length ls) := hide (by rw [← hV10]; exact (uptoL_set (p := ⟨w.heap.size + 2, 10, none⟩) (v := (.slice (some ⟨g6, 0, none⟩) es.length es.length)) (uptoL_set (p := ⟨w.heap.size + 2, 9, none⟩) (v := (.slice (some ⟨g5, 0, none⟩) ss.length ss.length)) (unhide U1_9) (by show w.heap.size + 2 ≠ g1; omega)) (by show w.heap.size + 2 ≠ g1; omega)))
  have U2_10 : Hid (Tu.Upto V10 g2 tw.length tw.length tw) := hide (by rw [← hV10]; exact (Tq.uptoT_set (p := ⟨w.heap.size + 2, 10, none⟩) (v := (.slice (some ⟨g6, 0, none⟩) es.length es.length)) (Tq.uptoT_set (p := ⟨w.heap.size + 2, 9, none⟩) (v := (.slice (some ⟨g5, 0, none⟩) ss.length ss.length)) (unhide U2_9) (by show w.heap.size + 2 ≠ g2; omega)) (by show w.heap.size + 2 ≠ g2; omega)))
  have U3_10 : Hid (Tu.Upto V10 g3 se.length se.length se) := hide (by rw [← hV10]; exact (Tq.uptoT_set (p := ⟨w.heap.size + 2, 10, none⟩) (v := (.slice (some ⟨g6, 0, none⟩) es.length es.length)) (Tq.uptoT_set (p := ⟨w.heap.size + 2, 9, none⟩) (v := (.slice (some ⟨g5, 0, none⟩) ss.length ss.length)) (unhide U3_9) (by show w.heap.size + 2 ≠ g3; omega)) (by show w.heap.size + 2 ≠ g3; omega)))
  have U4_10 : Hid (Tu.Upto V10 g4 du.length du.length du) := hide (by rw [← hV10]; exact (Tq.uptoT_set (p := ⟨w.heap.size + 2, 10, none⟩) (v := (.slice (some ⟨g6, 0, none⟩) es.length es.length)) (Tq.uptoT_set (p := ⟨w.heap.size + 2, 9, none⟩) (v := (.slice (some ⟨g5, 0, none⟩) ss.length ss.length)) (unhide U4_9) (by show w.heap.size + 2 ≠ g4; omega)) (by show w.heap.size + 2 ≠ g4; omega)))
  have U5_10 : Hid (So.Upto V10 g5 ss.length ss.length ss) := hide (by rw [← hV10]; exact (Tq.uptoS_set (p := ⟨w.heap.size + 2, 10, none⟩) (v := (.slice (some ⟨g6, 0, none⟩) es.length es.length)) (Tq.uptoS_set (p := ⟨w.heap.size + 2, 9, none⟩) (v := (.slice (some ⟨g5, 0, none⟩) ss.length ss.length)) (unhide U5_9) (by show w.heap.size + 2 ≠ g5; omega)) (by show w.heap.size + 2 ≠ g5; omega)))
  have U6_10 : Hid (Tu.Upto V10 g6 es.length es.length es) := hide (by rw [← hV10]; exact (Tq.uptoT_set (p := ⟨w.heap.size + 2, 10, none⟩) (v := (.slice (some ⟨g6, 0, none⟩) es.length es.length)) (Tq.uptoT_set (p := ⟨w.heap.size + 2, 9, none⟩) (v := (.slice (some ⟨g5, 0, none⟩) ss.length ss.length)) (unhide U6_9) (by show w.heap.size + 2 ≠ g6; omega)) (by show w.heap.size + 2 ≠ g6; omega)))
  have hq10 : V10.heap.size = V9.heap.size := by rw [← hV10]; simp [World.setCell]
  have HV10 := hide hV10
  clear hV10
  have o9 := (unhide HO9).at (i := 9) rfl
  have f9 := (unhide HO9).free (i := 9) (by omega)
  have o10 := (unhide HO9).at (i := 10) rfl
  have f10 := (unhide HO9).free (i := 10) (by omega)
  have z11 := (unhide HX9).at (i := 11) rfl
  have hne : ¬ w.heap.size = w.heap.size + 2 := by omega
  go_wp2_with fail
  rw [unhide HV10]
  clear hne o9 f9 o10 f10 z11 HX9 HZ9 HO9 U1_9 U2_9 U3_9 U4_9 U5_9 U6_9
  refine (Ed.toS a7 la c7 _ hm7 ((unhide HR7).below (unhide HB10))).mono ?_
  rintro e V11 ⟨g7, rfl, d11, hg7, hz7, u11⟩
  have HB11 := hide ((unhide HB10).trans (d11.mono (unhide HB10).size))
  have HX11 := hide ((unhide HX10).below d11)
  have HZ11 := hide ((unhide HZ10).below d11)
  have HO11 := hide ((unhide HO10).below d11)
  have U1_11 := hide ((unhide U1_10).below d11 (by omega))
  have U2_11 := hide ((unhide U2_10).below d11 (by omega))
  have U3_11 := hide ((unhide U3_10).below d11 (by omega))
  have U4_11 := hide ((unhide U4_10).below d11 (by omega))
  have U5_11 := hide ((unhide U5_10).below d11 (by omega))
  have U6_11 := hide ((unhide U6_10).below d11 (by omega))
  have hq11 := d11.size
  clear HX10 HZ10 HO10 U1_10 U2_10 U3_10 U4_10 U5_10 U6_10
  have U7_11 := hide u11
  clear d11 u11
  obtain ⟨V12, hV12⟩ : ∃ V, ((V11.setCell ⟨w.heap.size + 2, 11, none⟩ (.slice (some ⟨g7, 0, none⟩) la.length la.length)).setCell ⟨w.heap.size + 2, 12, none⟩ (.int .i64 x6)) = V := ⟨_, rfl⟩
  have HB12 : Hid (Below w.heap.size w V12) := hide (by rw [← hV12]; exact (((unhide HB11).setCell (p := ⟨w.heap.size + 2, 11, none⟩) hp2 (.slice (some ⟨g7, 0, none⟩) la.length la.length)).setCell (p := ⟨w.heap.size + 2, 12, none⟩) hp2 (.int .i64 x6)))
  have HX12 : Hid (RA V12 w.heap.size (rC x1 x2 x3 x4 x5 (.slice a1 ls.length c1) (.slice a2 tw.length c2) (.slice a3 se.length c3) (.slice a4 du.length c4) (.slice a5 ss.length c5) (.slice a6 es.length c6) (.slice a7 la.length c7) x6)) := hide (by rw [← hV12]; exact (RA.other (RA.other (unhide HX11) (p := ⟨w.heap.size + 2, 11, none⟩) (by show w.heap.size ≠ w.heap.size + 2; omega) (.slice (some ⟨g7, 0, none⟩) la.length la.length)) (p := ⟨w.heap.size + 2, 12, none⟩) (by show w.heap.size ≠ w.heap.size + 2; omega) (.int .i64 x6)))
  have HZ12 : Hid (RA V12 (w.heap.size + 1) (rC 0 0 0 0 0 (.slice none 0 0) (.slice none 0 0) (.slice none 0 0) (.slice none 0 0) (.slice none 0 0) (.slice none 0 0) (.slice none 0 0) 0)) := hide (by rw [← hV12]; exact (RA.other (RA.other (unhide HZ11) (p := ⟨w.heap.size + 2, 11, none⟩) (by show w.heap.size + 1 ≠ w.heap.size + 2; omega) (.slice (some ⟨g7, 0, none⟩) la.length la.length)) (p := ⟨w.heap.size + 2, 12, none⟩) (by show w.heap.size + 1 ≠ w.heap.size + 2; omega) (.int .i64 x6)))
  have HO12 : Hid (RA V12 (w.heap.size + 2) (rC x1 x2 x3 x4 x5 (.slice (some ⟨g1, 0, none⟩) ls.length ls.length) (.slice (some ⟨g2, 0, none⟩) tw.length tw.length) (.slice (some ⟨g3, 0, none⟩) se.length se.length) (.slice (some ⟨g4, 0, none⟩) du.length du.length) (.slice (some ⟨g5, 0, none⟩) ss.length ss.length) (.slice (some ⟨g6, 0, none⟩) es.length es.length) (.slice (some ⟨g7, 0, none⟩) la.length la.length) x6)) := hide (by rw [← hV12]; exact (RA.set (RA.set (unhide HO11) (k := 11) (by omega) (.slice (some ⟨g7, 0, none⟩) la.length la.length)) (k := 12) (by omega) (.int .i64 x6)))
  have U1_12 : Hid (Lk.Upto V12 g1 ls.length ls.length ls) := hide (by rw [← hV12]; exact (uptoL_set (p := ⟨w.heap.size + 2, 12, none⟩) (v := (.int .i64 x6)) (uptoL_set (p := ⟨w.heap.size + 2, 11, none⟩) (v := (.slice (some ⟨g7, 0, none⟩) la.length la.length)) (unhide U1_11) (by show w.heap.size + 2 ≠ g1; omega)) (by show w.heap.size + 2 ≠ g1; omega)))
  have U2_12 : Hid (Tu.Upto V12 g2 tw.length tw.length tw) := hide (by rw [← hV12]; exact (Tq.uptoT_set (p := ⟨w.heap.size + 2, 12, none⟩) (v := (.int .i64 x6)) (Tq.uptoT_set (p := ⟨w.heap.size + 2, 11, none⟩) (v := (.slice (some ⟨g7, 0, none⟩) la.length la.length)) (unhide U2_11) (by show w.heap.size + 2 ≠ g2; omega)) (by show w.heap.size + 2 ≠ g2; omega)))
  have U3_12 : Hid (Tu.Upto V12 g3 se.length se.length se) := hide (by rw [← hV12]; exact (Tq.uptoT_set (p := ⟨w.heap.size + 2, 12, none⟩) (v := (.int .i64 x6)) (Tq.uptoT_set (p := ⟨w.heap.size + 2, 11, none⟩) (v := (.slice (some ⟨g7, 0, none⟩) la.length la.length)) (unhide U3_11) (by show w.heap.size + 2 ≠ g3; omega)) (by show w.heap.size + 2 ≠ g3; omega)))
  have U4_12 : Hid (Tu.Upto V12 g4 du.length du.length du) := hide (by rw [← hV12]; exact (Tq.uptoT_set (p := ⟨w.heap.size + 2, 12, none⟩) (v := (.int .i64 x6)) (Tq.uptoT_set (p := ⟨w.heap.size + 2, 11, none⟩) (v := (.slice (some ⟨g7, 0, none⟩) la.length la.length)) (unhide U4_11) (by show w.heap.size + 2 ≠ g4; omega)) (by show w.heap.size + 2 ≠ g4; omega)))
  have U5_12 : Hid (So.Upto V12 g5 ss.length ss.length ss) := hide (by rw [← hV12]; exact (Tq.uptoS_set (p := ⟨w.heap.size + 2, 12, none⟩) (v := (.int .i64 x6)) (Tq.uptoS_set (p := ⟨w.heap.size + 2, 11, none⟩) (v := (.slice (some ⟨g7, 0, none⟩) la.length la.length)) (unhide U5_11) (by show w.heap.size + 2 ≠ g5; omega)) (by show w.heap.size + 2 ≠ g5; omega)))
  have U6_12 : Hid (Tu.Upto V12 g6 es.length es.length es) := hide (by rw [← hV12]; exact (Tq.uptoT_set (p := ⟨w.heap.size + 2, 12, none⟩) (v := (.int .i64 x6)) (Tq.uptoT_set (p := ⟨w.heap.size + 2, 11, none⟩) (v := (.slice (some ⟨g7, 0, none⟩) la.length la.length)) (unhide U6_11) (by show w.heap.size + 2 ≠ g6; omega)) (by show w.heap.size + 2 ≠ g6; omega)))
  have U7_12 : Hid (Ed.Upto V12 g7 la.length la.length la) := hide (by rw [← hV12]; exact (uptoE_set (p := ⟨w.heap.size + 2, 12, none⟩) (v := (.int .i64 x6)) (uptoE_set (p := ⟨w.heap.size + 2, 11, none⟩) (v := (.slice (some ⟨g7, 0, none⟩) la.length la.length)) (unhide U7_11) (by show w.heap.size + 2 ≠ g7; omega)) (by show w.heap.size + 2 ≠ g7; omega)))
  have hq12 : V12.heap.size = V11.heap.size := by rw [← hV12]; simp [World.setCell]
  have HV12 := hide hV12
  clear hV12
  have o11 := (unhide HO11).at (i := 11) rfl
  have f11 := (unhide HO11).free (i := 11) (by omega)
  have o12 := (unhide HO11).at (i := 12) rfl
  have f12 := (unhide HO11).free (i := 12) (by omega)
  have z12 := (unhide HX11).at (i := 12) rfl
  have hne : ¬ w.heap.size = w.heap.size + 2 := by omega
  have HOF : Hid (RA ((V11.setCell ⟨w.heap.size + 2, 11, none⟩ (.slice (some ⟨g7, 0, none⟩) la.length la.length)).setCell ⟨w.heap.size + 2, 12, none⟩ (.int .i64 x6)) (w.heap.size + 2) (rC x1 x2 x3 x4 x5 (.slice (some ⟨g1, 0, none⟩) ls.length ls.length) (.slice (some ⟨g2, 0, none⟩) tw.length tw.length) (.slice (some ⟨g3, 0, none⟩) se.length se.length) (.slice (some ⟨g4, 0, none⟩) du.length du.length) (.slice (some ⟨g5, 0, none⟩) ss.length ss.length) (.slice (some ⟨g6, 0, none⟩) es.length es.length) (.slice (some ⟨g7, 0, none⟩) la.length la.length) x6)) := hide (by rw [unhide HV12]; exact unhide HO12)
  have HZF : Hid (((V11.setCell ⟨w.heap.size + 2, 11, none⟩ (.slice (some ⟨g7, 0, none⟩) la.length la.length)).setCell ⟨w.heap.size + 2, 12, none⟩ (.int .i64 x6)).there (w.heap.size + 1) 0 13) := hide (by rw [unhide HV12]; exact (unhide HZ12).2.1)
  go_wp2_with (first | (refine wpList_loadR _ rfl rfl rfl (unhide HOF) ?_) | (refine wpList_storeR2 _ _ rfl rfl (rC x1 x2 x3 x4 x5 (.slice (some ⟨g1, 0, none⟩) ls.length ls.length) (.slice (some ⟨g2, 0, none⟩) tw.length tw.length) (.slice (some ⟨g3, 0, none⟩) se.length se.length) (.slice (some ⟨g4, 0, none⟩) du.length du.length) (.slice (some ⟨g5, 0, none⟩) ss.length ss.length) (.slice (some ⟨g6, 0, none⟩) es.length es.length) (.slice (some ⟨g7, 0, none⟩) la.length la.length) x6) (rC_ones rfl rfl rfl rfl rfl rfl rfl) rfl rfl (unhide HZF) ?_; rw [unhide HV12]; intro VF raF bbF hsF kkF; have HRF := hide raF; have HBF := hide (bbF _ _ (unhide HB12) (by omega)); have HUF := hide kkF; have hqF := hsF; clear raF bbF hsF kkF))
  refine bodyPost_ret (resultsR rfl _ _ rfl (unhide HRF)) rfl ⟨g1, g2, g3, g4, g5, g6, g7, rfl, unhide HBF, ⟨by omega, by omega, by omega, by omega, by omega, by omega, by omega, by omega⟩, (unhide U1_12).of_block (unhide HUF _ (by omega)), (unhide U2_12).of_block (unhide HUF _ (by omega)), (unhide U3_12).of_block (unhide HUF _ (by omega)), (unhide U4_12).of_block (unhide HUF _ (by omega)), (unhide U5_12).of_block (unhide HUF _ (by omega)), (unhide U6_12).of_block (unhide HUF _ (by omega)), (unhide U7_12).of_block (unhide HUF _ (by omega))⟩
set_option maxHeartbeats 16000000 in
theorem eqR (x1 x2 x3 x4 x5 x6 : Int) (a1 a2 a3 a4 a5 a6 a7 : Option Addr) (c1 c2 c3 c4 c5 c6 c7 : Nat) (b1 b2 b3 b4 b5 b6 b7 : Option Addr) (d1 d2 d3 d4 d5 d6 d7 : Nat) (ls : List Lk.R) (tw : List Tu.R) (se : List Tu.R) (du : List Tu.R) (ss : List So.R) (es : List Tu.R) (la : List Ed.R) (w : World) (hm1 : ls.length ≤ 1048576) (hm2 : tw.length ≤ 1048576) (hm3 : se.length ≤ 1048576) (hm4 : du.length ≤ 1048576) (hm5 : ss.length ≤ 1048576) (hm6 : es.length ≤ 1048576) (hm7 : la.length ≤ 1048576) (hr1 : Lk.RM w a1 ls) (hr2 : Tu.RM w a2 tw) (hr3 : Tu.RM w a3 se) (hr4 : Tu.RM w a4 du) (hr5 : So.RM w a5 ss) (hr6 : Tu.RM w a6 es) (hr7 : Ed.RM w a7 la) (hs1 : Lk.RM w b1 ls) (hs2 : Tu.RM w b2 tw) (hs3 : Tu.RM w b3 se) (hs4 : Tu.RM w b4 du) (hs5 : So.RM w b5 ss) (hs6 : Tu.RM w b6 es) (hs7 : Ed.RM w b7 la) :
    Calls Tryz.prog 11 #[.agg #[.int .i64 x1, .int .i64 x2, .int .i64 x3, .int .i64 x4, .int .i64 x5, .slice a1 ls.length c1, .slice a2 tw.length c2, .slice a3 se.length c3, .slice a4 du.length c4, .slice a5 ss.length c5, .slice a6 es.length c6, .slice a7 la.length c7, .int .i64 x6], .agg #[.int .i64 x1, .int .i64 x2, .int .i64 x3, .int .i64 x4, .int .i64 x5, .slice b1 ls.length d1, .slice b2 tw.length d2, .slice b3 se.length d3, .slice b4 du.length d4, .slice b5 ss.length d5, .slice b6 es.length d6, .slice b7 la.length d7, .int .i64 x6]] w fun e w' => e = .returned (.bool true) ∧ Below w.heap.size w w' := by
  have HA1 : Hid (Below w.heap.size w (w.alloc (.cells #[.int .i64 x1, .int .i64 x2, .int .i64 x3, .int .i64 x4, .int .i64 x5, .slice a1 ls.length c1, .slice a2 tw.length c2, .slice a3 se.length c3, .slice a4 du.length c4, .slice a5 ss.length c5, .slice a6 es.length c6, .slice a7 la.length c7, .int .i64 x6] 38))) := hide ((Below.refl _ _).alloc (Nat.le_refl _) _)
  have HB0 : Hid (Below w.heap.size w ((w.alloc (.cells #[.int .i64 x1, .int .i64 x2, .int .i64 x3, .int .i64 x4, .int .i64 x5, .slice a1 ls.length c1, .slice a2 tw.length c2, .slice a3 se.length c3, .slice a4 du.length c4, .slice a5 ss.length c5, .slice a6 es.length c6, .slice a7 la.length c7, .int .i64 x6] 38)).alloc (.cells #[.int .i64 x1, .int .i64 x2, .int .i64 x3, .int .i64 x4, .int .i64 x5, .slice b1 ls.length d1, .slice b2 tw.length d2, .slice b3 se.length d3, .slice b4 du.length d4, .slice b5 ss.length d5, .slice b6 es.length d6, .slice b7 la.length d7, .int .i64 x6] 38))) := hide ((unhide HA1).alloc (unhide HA1).size _)
  have HX0 : Hid (RA ((w.alloc (.cells #[.int .i64 x1, .int .i64 x2, .int .i64 x3, .int .i64 x4, .int .i64 x5, .slice a1 ls.length c1, .slice a2 tw.length c2, .slice a3 se.length c3, .slice a4 du.length c4, .slice a5 ss.length c5, .slice a6 es.length c6, .slice a7 la.length c7, .int .i64 x6] 38)).alloc (.cells #[.int .i64 x1, .int .i64 x2, .int .i64 x3, .int .i64 x4, .int .i64 x5, .slice b1 ls.length d1, .slice b2 tw.length d2, .slice b3 se.length d3, .slice b4 du.length d4, .slice b5 ss.length d5, .slice b6 es.length d6, .slice b7 la.length d7, .int .i64 x6] 38)) w.heap.size (rC x1 x2 x3 x4 x5 (.slice a1 ls.length c1) (.slice a2 tw.length c2) (.slice a3 se.length c3) (.slice a4 du.length c4) (.slice a5 ss.length c5) (.slice a6 es.length c6) (.slice a7 la.length c7) x6)) := hide ((ra_new w _ rfl _).below ((Below.refl _ _).alloc (Nat.le_refl _) _))
  have HY0 : Hid (RA ((w.alloc (.cells #[.int .i64 x1, .int .i64 x2, .int .i64 x3, .int .i64 x4, .int .i64 x5, .slice a1 ls.length c1, .slice a2 tw.length c2, .slice a3 se.length c3, .slice a4 du.length c4, .slice a5 ss.length c5, .slice a6 es.length c6, .slice a7 la.length c7, .int .i64 x6] 38)).alloc (.cells #[.int .i64 x1, .int .i64 x2, .int .i64 x3, .int .i64 x4, .int .i64 x5, .slice b1 ls.length d1, .slice b2 tw.length d2, .slice b3 se.length d3, .slice b4 du.length d4, .slice b5 ss.length d5, .slice b6 es.length d6, .slice b7 la.length d7, .int .i64 x6] 38)) (w.heap.size + 1) (rC x1 x2 x3 x4 x5 (.slice b1 ls.length d1) (.slice b2 tw.length d2) (.slice b3 se.length d3) (.slice b4 du.length d4) (.slice b5 ss.length d5) (.slice b6 es.length d6) (.slice b7 la.length d7) x6)) := hide (by have := ra_new (w.alloc (.cells #[.int .i64 x1, .int .i64 x2, .int .i64 x3, .int .i64 x4, .int .i64 x5, .slice a1 ls.length c1, .slice a2 tw.length c2, .slice a3 se.length c3, .slice a4 du.length c4, .slice a5 ss.length c5, .slice a6 es.length c6, .slice a7 la.length c7, .int .i64 x6] 38)) (rC x1 x2 x3 x4 x5 (.slice b1 ls.length d1) (.slice b2 tw.length d2) (.slice b3 se.length d3) (.slice b4 du.length d4) (.slice b5 ss.length d5) (.slice b6 es.length d6) (.slice b7 la.length d7) x6) rfl 38; rw [show (w.alloc (.cells #[.int .i64 x1, .int .i64 x2, .int .i64 x3, .int .i64 x4, .int .i64 x5, .slice a1 ls.length c1, .slice a2 tw.length c2, .slice a3 se.length c3, .slice a4 du.length c4, .slice a5 ss.length c5, .slice a6 es.length c6, .slice a7 la.length c7, .int .i64 x6] 38)).heap.size = w.heap.size + 1 by simp] at this; exact this)
  have HR1 := hide hr1
  have HS1 := hide hs1
  have HR2 := hide hr2
  have HS2 := hide hs2
  have HR3 := hide hr3
  have HS3 := hide hs3
  have HR4 := hide hr4
  have HS4 := hide hs4
  have HR5 := hide hr5
  have HS5 := hide hs5
  have HR6 := hide hr6
  have HS6 := hide hs6
  have HR7 := hide hr7
  have HS7 := hide hs7
  clear hr1 hs1 hr2 hs2 hr3 hs3 hr4 hs4 hr5 hs5 hr6 hs6 hr7 hs7 HA1
  have hx1 : (x1 != x1) = false := by simp
  have hx2 : (x2 != x2) = false := by simp
  have hx3 : (x3 != x3) = false := by simp
  have hx4 : (x4 != x4) = false := by simp
  have hx5 : (x5 != x5) = false := by simp
  have hx6 : (x6 != x6) = false := by simp
  go_enter Tryz.func11, Tryz.ntmps11
  go_wp2_with fail
  generalize hW : ((w.alloc (.cells #[.int .i64 x1, .int .i64 x2, .int .i64 x3, .int .i64 x4, .int .i64 x5, .slice a1 ls.length c1, .slice a2 tw.length c2, .slice a3 se.length c3, .slice a4 du.length c4, .slice a5 ss.length c5, .slice a6 es.length c6, .slice a7 la.length c7, .int .i64 x6] 38)).alloc (.cells #[.int .i64 x1, .int .i64 x2, .int .i64 x3, .int .i64 x4, .int .i64 x5, .slice b1 ls.length d1, .slice b2 tw.length d2, .slice b3 se.length d3, .slice b4 du.length d4, .slice b5 ss.length d5, .slice b6 es.length d6, .slice b7 la.length d7, .int .i64 x6] 38)) = V0 at *
  clear hW
  refine (Lk.eqS a1 b1 ls c1 d1 _ hm1 ((unhide HR1).below (unhide HB0)) ((unhide HS1).below (unhide HB0))).mono ?_
  rintro e V1 ⟨rfl, d_⟩
  have HB1 := hide ((unhide HB0).trans (d_.mono (unhide HB0).size))
  have HX1 := hide ((unhide HX0).below d_)
  have HY1 := hide ((unhide HY0).below d_)
  clear d_ HX0 HY0
  have z6 := (unhide HX1).at (i := 6) rfl
  have y6 := (unhide HY1).at (i := 6) rfl
  go_wp2_with fail
  clear z6 y6
  refine (Tu.eqS a2 b2 tw c2 d2 _ hm2 ((unhide HR2).below (unhide HB1)) ((unhide HS2).below (unhide HB1))).mono ?_
  rintro e V2 ⟨rfl, d_⟩
  have HB2 := hide ((unhide HB1).trans (d_.mono (unhide HB1).size))
  have HX2 := hide ((unhide HX1).below d_)
  have HY2 := hide ((unhide HY1).below d_)
  clear d_ HX1 HY1
  have z7 := (unhide HX2).at (i := 7) rfl
  have y7 := (unhide HY2).at (i := 7) rfl
  go_wp2_with fail
  clear z7 y7
  refine (Tu.eqS a3 b3 se c3 d3 _ hm3 ((unhide HR3).below (unhide HB2)) ((unhide HS3).below (unhide HB2))).mono ?_
  rintro e V3 ⟨rfl, d_⟩
  have HB3 := hide ((unhide HB2).trans (d_.mono (unhide HB2).size))
  have HX3 := hide ((unhide HX2).below d_)
  have HY3 := hide ((unhide HY2).below d_)
  clear d_ HX2 HY2
  have z8 := (unhide HX3).at (i := 8) rfl
  have y8 := (unhide HY3).at (i := 8) rfl
  go_wp2_with fail
  clear z8 y8
  refine (Tu.eqS a4 b4 du c4 d4 _ hm4 ((unhide HR4).below (unhide HB3)) ((unhide HS4).below (unhide HB3))).mono ?_
  rintro e V4 ⟨rfl, d_⟩
  have HB4 := hide ((unhide HB3).trans (d_.mono (unhide HB3).size))
  have HX4 := hide ((unhide HX3).below d_)
  have HY4 := hide ((unhide HY3).below d_)
  clear d_ HX3 HY3
  have z9 := (unhide HX4).at (i := 9) rfl
  have y9 := (unhide HY4).at (i := 9) rfl
  have z10 := (unhide HX4).at (i := 10) rfl
  have y10 := (unhide HY4).at (i := 10) rfl
  go_wp2_with fail
  clear z9 y9 z10 y10
  refine (Tq.eq a5 ss c5 a6 es c6 b5 d5 b6 d6 _ hm5 hm6 ((unhide HR5).below (unhide HB4)) ((unhide HR6).below (unhide HB4)) ((unhide HS5).below (unhide HB4)) ((unhide HS6).below (unhide HB4))).mono ?_
  rintro e V5 ⟨rfl, d_⟩
  have HB5 := hide ((unhide HB4).trans (d_.mono (unhide HB4).size))
  have HX5 := hide ((unhide HX4).below d_)
  have HY5 := hide ((unhide HY4).below d_)
  clear d_ HX4 HY4
  have z11 := (unhide HX5).at (i := 11) rfl
  have y11 := (unhide HY5).at (i := 11) rfl
  go_wp2_with fail
  clear z11 y11
  refine (Ed.eqS a7 b7 la c7 d7 _ hm7 ((unhide HR7).below (unhide HB5)) ((unhide HS7).below (unhide HB5))).mono ?_
  rintro e V6 ⟨rfl, d_⟩
  have HB6 := hide ((unhide HB5).trans (d_.mono (unhide HB5).size))
  have HX6 := hide ((unhide HX5).below d_)
  have HY6 := hide ((unhide HY5).below d_)
  clear d_ HX5 HY5
  have z12 := (unhide HX6).at (i := 12) rfl
  have y12 := (unhide HY6).at (i := 12) rfl
  go_wp2_with fail
  go_ret
  exact ⟨rfl, unhide HB6⟩
end Rt
end Go.Proofs.YtiipppfkpgbpeaaGreat
namespace Go.Proofs.YtiipppfkpgbpeaaGreat
open Go.ChangeShapes Go.WideShapes Go.ChangeAt Go.RowKit
set_option linter.unusedVariables false
set_option linter.unusedSimpArgs false
set_option maxRecDepth 100000
attribute [local go_sem ↓] Go.wp_at_zero Go.wp_at_succ
namespace Rt
open W1
theorem RA.but {w w' : World} {b : Nat} {cs : List Value} (h : RA w b cs) (hb : w'.heap[b]? = w.heap[b]?) : RA w' b cs := by
  have c : ∀ q, w'.cell? ⟨b, q, none⟩ = w.cell? ⟨b, q, none⟩ := fun q => World.cell?_of_block (a := ⟨b, q, none⟩) hb
  have f : ∀ q, w'.frozen? ⟨b, q, none⟩ = w.frozen? ⟨b, q, none⟩ := fun q => World.frozen?_of_block (a := ⟨b, q, none⟩) hb
  exact ⟨fun j u hu => (c _).trans (h.1 j u hu), fun j hj => ⟨by rw [c]; exact (h.2.1 j hj).1, by rw [f]; exact (h.2.1 j hj).2⟩, h.2.2⟩
set_option maxHeartbeats 16000000 in
theorem markRt (x1 x2 x3 x4 x5 x6 : Int) (a1 a2 a3 a4 a5 a6 a7 : Option Addr) (c1 c2 c3 c4 c5 c6 c7 : Nat) (b0 b1 b2 b3 b4 b5 b6 b7 : Nat) (K0 K1 K2 K3 K4 K5 K6 K7 : Int) (ls : List Lk.R) (tw : List Tu.R) (se : List Tu.R) (du : List Tu.R) (ss : List So.R) (es : List Tu.R) (la : List Ed.R) (w : World) (hK : 0 ≤ K0) (hK1 : K0 ≤ 900000000) (hk1 : K1 = K0 + 6 * (ls.length : Int)) (hk2 : K2 = K1 + 3 * (tw.length : Int)) (hk3 : K3 = K2 + 3 * (se.length : Int)) (hk4 : K4 = K3 + 3 * (du.length : Int)) (hk5 : K5 = K4 + 3 * (ss.length : Int)) (hk6 : K6 = K5 + 3 * (es.length : Int)) (hk7 : K7 = K6 + 2 * (la.length : Int)) (hm1 : ls.length ≤ 1048576) (hm2 : tw.length ≤ 1048576) (hm3 : se.length ≤ 1048576) (hm4 : du.length ≤ 1048576) (hm5 : ss.length ≤ 1048576) (hm6 : es.length ≤ 1048576) (hm7 : la.length ≤ 1048576) (hb0 : b0 ≤ b1) (hb1 : b1 ≤ b2) (hb2 : b2 ≤ b3) (hb3 : b3 ≤ b4) (hb4 : b4 ≤ b5) (hb5 : b5 ≤ b6) (hb6 : b6 ≤ b7) (hb7 : b7 ≤ w.heap.size) (hl1 : Lk.Lst w a1 (ls) b0 b1) (hl2 : Tu.Lst w a2 (tw) b1 b2) (hl3 : Tu.Lst w a3 (se) b2 b3) (hl4 : Tu.Lst w a4 (du) b3 b4) (hl5 : So.Lst w a5 (ss) b4 b5) (hl6 : Tu.Lst w a6 (es) b5 b6) (hl7 : Ed.Lst w a7 (la) b6 b7) :
    Calls Tryz.prog 13 #[.agg #[.int .i64 x1, .int .i64 x2, .int .i64 x3, .int .i64 x4, .int .i64 x5, .slice a1 ls.length c1, .slice a2 tw.length c2, .slice a3 se.length c3, .slice a4 du.length c4, .slice a5 ss.length c5, .slice a6 es.length c6, .slice a7 la.length c7, .int .i64 x6], .int .i64 K0] w fun e w' => e = .returned (.int .i64 K7) ∧ w.heap.size ≤ w'.heap.size ∧ Below (min b0 w.heap.size) w w' ∧ (Lk.Lst w' a1 (Lk.marks K0 ls.length) b0 b1 ∧ Tu.Lst w' a2 (Tu.marks K1 tw.length) b1 b2 ∧ Tu.Lst w' a3 (Tu.marks K2 se.length) b2 b3 ∧ Tu.Lst w' a4 (Tu.marks K3 du.length) b3 b4 ∧ So.Lst w' a5 (So.marks K4 ss.length) b4 b5 ∧ Tu.Lst w' a6 (Tu.marks K5 es.length) b5 b6 ∧ Ed.Lst w' a7 (Ed.marks K6 la.length) b6 b7) ∧ ∀ k, k < w.heap.size → (k < b0 ∨ b7 ≤ k) → w'.heap[k]? = w.heap[k]? := by
  have HA : Hid (Below w.heap.size w (w.alloc (.cells #[.int .i64 x1, .int .i64 x2, .int .i64 x3, .int .i64 x4, .int .i64 x5, .slice a1 ls.length c1, .slice a2 tw.length c2, .slice a3 se.length c3, .slice a4 du.length c4, .slice a5 ss.length c5, .slice a6 es.length c6, .slice a7 la.length c7, .int .i64 x6] 38))) := hide ((Below.refl _ _).alloc (Nat.le_refl _) _)
  have HB0 : Hid (Below (min b0 w.heap.size) w (w.alloc (.cells #[.int .i64 x1, .int .i64 x2, .int .i64 x3, .int .i64 x4, .int .i64 x5, .slice a1 ls.length c1, .slice a2 tw.length c2, .slice a3 se.length c3, .slice a4 du.length c4, .slice a5 ss.length c5, .slice a6 es.length c6, .slice a7 la.length c7, .int .i64 x6] 38))) := hide ((unhide HA).mono (Nat.min_le_right _ _))
  have HX0 : Hid (RA (w.alloc (.cells #[.int .i64 x1, .int .i64 x2, .int .i64 x3, .int .i64 x4, .int .i64 x5, .slice a1 ls.length c1, .slice a2 tw.length c2, .slice a3 se.length c3, .slice a4 du.length c4, .slice a5 ss.length c5, .slice a6 es.length c6, .slice a7 la.length c7, .int .i64 x6] 38)) w.heap.size (rC x1 x2 x3 x4 x5 (.slice a1 ls.length c1) (.slice a2 tw.length c2) (.slice a3 se.length c3) (.slice a4 du.length c4) (.slice a5 ss.length c5) (.slice a6 es.length c6) (.slice a7 la.length c7) x6)) := hide (ra_new w _ rfl _)
  have hq0 : (w.alloc (.cells #[.int .i64 x1, .int .i64 x2, .int .i64 x3, .int .i64 x4, .int .i64 x5, .slice a1 ls.length c1, .slice a2 tw.length c2, .slice a3 se.length c3, .slice a4 du.length c4, .slice a5 ss.length c5, .slice a6 es.length c6, .slice a7 la.length c7, .int .i64 x6] 38)).heap.size = w.heap.size + 1 := by simp
  have U1_0 := hide (hl1.below (unhide HA))
  have U2_0 := hide (hl2.below (unhide HA))
  have U3_0 := hide (hl3.below (unhide HA))
  have U4_0 := hide (hl4.below (unhide HA))
  have U5_0 := hide (hl5.below (unhide HA))
  have U6_0 := hide (hl6.below (unhide HA))
  have U7_0 := hide (hl7.below (unhide HA))
  clear hl1 hl2 hl3 hl4 hl5 hl6 hl7
  have C0 := hide (fun W => Lk.markF a1 c1 b0 b1 K0 ls W (by omega) (by omega) hm1)
  rw [← hk1] at C0
  have C1 := hide (fun W => Tu.markF a2 c2 b1 b2 K1 tw W (by omega) (by omega) hm2)
  rw [← hk2] at C1
  have C2 := hide (fun W => Tu.markF a3 c3 b2 b3 K2 se W (by omega) (by omega) hm3)
  rw [← hk3] at C2
  have C3 := hide (fun W => Tu.markF a4 c4 b3 b4 K3 du W (by omega) (by omega) hm4)
  rw [← hk4] at C3
  have C4 := hide (fun W => Tq.mark a5 c5 a6 c6 b4 b5 b6 K4 ss es W (by omega) (by omega) hm5 hm6 (by omega) (by omega))
  rw [← hk5, ← hk6] at C4
  have C5 := hide (fun W => Ed.markF a7 c7 b6 b7 K6 la W (by omega) (by omega) hm7)
  rw [← hk7] at C5
  have HK1 := hide hk1
  have HK2 := hide hk2
  have HK3 := hide hk3
  have HK4 := hide hk4
  have HK5 := hide hk5
  have HK6 := hide hk6
  have HK7 := hide hk7
  clear hk1 hk2 hk3 hk4 hk5 hk6 hk7
  go_enter Tryz.func13, Tryz.ntmps13
  go_wp2_with fail
  generalize hW : w.alloc (.cells #[.int .i64 x1, .int .i64 x2, .int .i64 x3, .int .i64 x4, .int .i64 x5, .slice a1 ls.length c1, .slice a2 tw.length c2, .slice a3 se.length c3, .slice a4 du.length c4, .slice a5 ss.length c5, .slice a6 es.length c6, .slice a7 la.length c7, .int .i64 x6] 38) = V0 at *
  clear hW
  refine (unhide C0 _ (unhide U1_0)).mono ?_
  rintro e V1 ⟨rfl, hz0, d_, f_, k_⟩
  have HB1 := hide ((unhide HB0).trans (d_.mono (by omega)))
  have HX1 := hide ((unhide HX0).but (k_ w.heap.size (by omega) (.inr (by omega))))
  have U1_1 := hide f_
  have U2_1 := hide ((unhide U2_0).but (p := fun k => k < b0 ∨ b1 ≤ k) hz0 (fun k hk h => k_ k hk h) (fun k h1 h2 => by omega))
  have U3_1 := hide ((unhide U3_0).but (p := fun k => k < b0 ∨ b1 ≤ k) hz0 (fun k hk h => k_ k hk h) (fun k h1 h2 => by omega))
  have U4_1 := hide ((unhide U4_0).but (p := fun k => k < b0 ∨ b1 ≤ k) hz0 (fun k hk h => k_ k hk h) (fun k h1 h2 => by omega))
  have U5_1 := hide ((unhide U5_0).but (p := fun k => k < b0 ∨ b1 ≤ k) hz0 (fun k hk h => k_ k hk h) (fun k h1 h2 => by omega))
  have U6_1 := hide ((unhide U6_0).but (p := fun k => k < b0 ∨ b1 ≤ k) hz0 (fun k hk h => k_ k hk h) (fun k h1 h2 => by omega))
  have U7_1 := hide ((unhide U7_0).but (p := fun k => k < b0 ∨ b1 ≤ k) hz0 (fun k hk h => k_ k hk h) (fun k h1 h2 => by omega))
  have HQ0 := hide k_
  clear d_ f_ k_ HX0 U1_0 U2_0 U3_0 U4_0 U5_0 U6_0 U7_0
  have z6 := (unhide HX1).at (i := 6) rfl
  go_wp2_with fail
  clear z6
  refine (unhide C1 _ (unhide U2_1)).mono ?_
  rintro e V2 ⟨rfl, hz1, d_, f_, k_⟩
  have HB2 := hide ((unhide HB1).trans (d_.mono (by omega)))
  have HX2 := hide ((unhide HX1).but (k_ w.heap.size (by omega) (.inr (by omega))))
  have U1_2 := hide ((unhide U1_1).but (p := fun k => k < b1 ∨ b2 ≤ k) hz1 (fun k hk h => k_ k hk h) (fun k h1 h2 => by omega))
  have U2_2 := hide f_
  have U3_2 := hide ((unhide U3_1).but (p := fun k => k < b1 ∨ b2 ≤ k) hz1 (fun k hk h => k_ k hk h) (fun k h1 h2 => by omega))
  have U4_2 := hide ((unhide U4_1).but (p := fun k => k < b1 ∨ b2 ≤ k) hz1 (fun k hk h => k_ k hk h) (fun k h1 h2 => by omega))
  have U5_2 := hide ((unhide U5_1).but (p := fun k => k < b1 ∨ b2 ≤ k) hz1 (fun k hk h => k_ k hk h) (fun k h1 h2 => by omega))
  have U6_2 := hide ((unhide U6_1).but (p := fun k => k < b1 ∨ b2 ≤ k) hz1 (fun k hk h => k_ k hk h) (fun k h1 h2 => by omega))
  have U7_2 := hide ((unhide U7_1).but (p := fun k => k < b1 ∨ b2 ≤ k) hz1 (fun k hk h => k_ k hk h) (fun k h1 h2 => by omega))
  have HQ1 := hide k_
  clear d_ f_ k_ HX1 U1_1 U2_1 U3_1 U4_1 U5_1 U6_1 U7_1
  have z7 := (unhide HX2).at (i := 7) rfl
  go_wp2_with fail
  clear z7
  refine (unhide C2 _ (unhide U3_2)).mono ?_
  rintro e V3 ⟨rfl, hz2, d_, f_, k_⟩
  have HB3 := hide ((unhide HB2).trans (d_.mono (by omega)))
  have HX3 := hide ((unhide HX2).but (k_ w.heap.size (by omega) (.inr (by omega))))
  have U1_3 := hide ((unhide U1_2).but (p := fun k => k < b2 ∨ b3 ≤ k) hz2 (fun k hk h => k_ k hk h) (fun k h1 h2 => by omega))
  have U2_3 := hide ((unhide U2_2).but (p := fun k => k < b2 ∨ b3 ≤ k) hz2 (fun k hk h => k_ k hk h) (fun k h1 h2 => by omega))
  have U3_3 := hide f_
  have U4_3 := hide ((unhide U4_2).but (p := fun k => k < b2 ∨ b3 ≤ k) hz2 (fun k hk h => k_ k hk h) (fun k h1 h2 => by omega))
  have U5_3 := hide ((unhide U5_2).but (p := fun k => k < b2 ∨ b3 ≤ k) hz2 (fun k hk h => k_ k hk h) (fun k h1 h2 => by omega))
  have U6_3 := hide ((unhide U6_2).but (p := fun k => k < b2 ∨ b3 ≤ k) hz2 (fun k hk h => k_ k hk h) (fun k h1 h2 => by omega))
  have U7_3 := hide ((unhide U7_2).but (p := fun k => k < b2 ∨ b3 ≤ k) hz2 (fun k hk h => k_ k hk h) (fun k h1 h2 => by omega))
  have HQ2 := hide k_
  clear d_ f_ k_ HX2 U1_2 U2_2 U3_2 U4_2 U5_2 U6_2 U7_2
  have z8 := (unhide HX3).at (i := 8) rfl
  go_wp2_with fail
  clear z8
  refine (unhide C3 _ (unhide U4_3)).mono ?_
  rintro e V4 ⟨rfl, hz3, d_, f_, k_⟩
  have HB4 := hide ((unhide HB3).trans (d_.mono (by omega)))
  have HX4 := hide ((unhide HX3).but (k_ w.heap.size (by omega) (.inr (by omega))))
  have U1_4 := hide ((unhide U1_3).but (p := fun k => k < b3 ∨ b4 ≤ k) hz3 (fun k hk h => k_ k hk h) (fun k h1 h2 => by omega))
  have U2_4 := hide ((unhide U2_3).but (p := fun k => k < b3 ∨ b4 ≤ k) hz3 (fun k hk h => k_ k hk h) (fun k h1 h2 => by omega))
  have U3_4 := hide ((unhide U3_3).but (p := fun k => k < b3 ∨ b4 ≤ k) hz3 (fun k hk h => k_ k hk h) (fun k h1 h2 => by omega))
  have U4_4 := hide f_
  have U5_4 := hide ((unhide U5_3).but (p := fun k => k < b3 ∨ b4 ≤ k) hz3 (fun k hk h => k_ k hk h) (fun k h1 h2 => by omega))
  have U6_4 := hide ((unhide U6_3).but (p := fun k => k < b3 ∨ b4 ≤ k) hz3 (fun k hk h => k_ k hk h) (fun k h1 h2 => by omega))
  have U7_4 := hide ((unhide U7_3).but (p := fun k => k < b3 ∨ b4 ≤ k) hz3 (fun k hk h => k_ k hk h) (fun k h1 h2 => by omega))
  have HQ3 := hide k_
  clear d_ f_ k_ HX3 U1_3 U2_3 U3_3 U4_3 U5_3 U6_3 U7_3
  have z9 := (unhide HX4).at (i := 9) rfl
  have z10 := (unhide HX4).at (i := 10) rfl
  go_wp2_with fail
  clear z9 z10
  refine (unhide C4 _ (by omega) (unhide U5_4) (unhide U6_4)).mono ?_
  rintro e V5 ⟨rfl, hz4, d_, ⟨f_, g_⟩, k_⟩
  have HB5 := hide ((unhide HB4).trans (d_.mono (by omega)))
  have HX5 := hide ((unhide HX4).but (k_ w.heap.size (by omega) (.inr (by omega))))
  have U1_5 := hide ((unhide U1_4).but (p := fun k => k < b4 ∨ b6 ≤ k) hz4 (fun k hk h => k_ k hk h) (fun k h1 h2 => by omega))
  have U2_5 := hide ((unhide U2_4).but (p := fun k => k < b4 ∨ b6 ≤ k) hz4 (fun k hk h => k_ k hk h) (fun k h1 h2 => by omega))
  have U3_5 := hide ((unhide U3_4).but (p := fun k => k < b4 ∨ b6 ≤ k) hz4 (fun k hk h => k_ k hk h) (fun k h1 h2 => by omega))
  have U4_5 := hide ((unhide U4_4).but (p := fun k => k < b4 ∨ b6 ≤ k) hz4 (fun k hk h => k_ k hk h) (fun k h1 h2 => by omega))
  have U5_5 := hide f_
  have U6_5 := hide g_
  have U7_5 := hide ((unhide U7_4).but (p := fun k => k < b4 ∨ b6 ≤ k) hz4 (fun k hk h => k_ k hk h) (fun k h1 h2 => by omega))
  have HQ4 := hide k_
  clear d_ f_ k_ g_ HX4 U1_4 U2_4 U3_4 U4_4 U5_4 U6_4 U7_4
  have z11 := (unhide HX5).at (i := 11) rfl
  go_wp2_with fail
  clear z11
  refine (unhide C5 _ (unhide U7_5)).mono ?_
  rintro e V6 ⟨rfl, hz5, d_, f_, k_⟩
  have HB6 := hide ((unhide HB5).trans (d_.mono (by omega)))
  have HX6 := hide ((unhide HX5).but (k_ w.heap.size (by omega) (.inr (by omega))))
  have U1_6 := hide ((unhide U1_5).but (p := fun k => k < b6 ∨ b7 ≤ k) hz5 (fun k hk h => k_ k hk h) (fun k h1 h2 => by omega))
  have U2_6 := hide ((unhide U2_5).but (p := fun k => k < b6 ∨ b7 ≤ k) hz5 (fun k hk h => k_ k hk h) (fun k h1 h2 => by omega))
  have U3_6 := hide ((unhide U3_5).but (p := fun k => k < b6 ∨ b7 ≤ k) hz5 (fun k hk h => k_ k hk h) (fun k h1 h2 => by omega))
  have U4_6 := hide ((unhide U4_5).but (p := fun k => k < b6 ∨ b7 ≤ k) hz5 (fun k hk h => k_ k hk h) (fun k h1 h2 => by omega))
  have U5_6 := hide ((unhide U5_5).but (p := fun k => k < b6 ∨ b7 ≤ k) hz5 (fun k hk h => k_ k hk h) (fun k h1 h2 => by omega))
  have U6_6 := hide ((unhide U6_5).but (p := fun k => k < b6 ∨ b7 ≤ k) hz5 (fun k hk h => k_ k hk h) (fun k h1 h2 => by omega))
  have U7_6 := hide f_
  have HQ5 := hide k_
  clear d_ f_ k_ HX5 U1_5 U2_5 U3_5 U4_5 U5_5 U6_5 U7_5
  go_wp2_with fail
  go_ret
  refine ⟨rfl, by omega, unhide HB6, ⟨unhide U1_6, unhide U2_6, unhide U3_6, unhide U4_6, unhide U5_6, unhide U6_6, unhide U7_6⟩, fun k hk h => ?_⟩
  rw [unhide HQ5 k (by omega) (by omega), unhide HQ4 k (by omega) (by omega), unhide HQ3 k (by omega) (by omega), unhide HQ2 k (by omega) (by omega), unhide HQ1 k (by omega) (by omega), unhide HQ0 k (by omega) (by omega), (unhide HA).block k hk]
theorem cells13 : Tryz.prog.cellsOf 29 = 13 := by kernel_rfl
theorem cells_int : Tryz.prog.cellsOf 3 = 1 := by kernel_rfl
theorem cells_lk : Tryz.prog.cellsOf 22 = 1 := by kernel_rfl
theorem cells_tu : Tryz.prog.cellsOf 23 = 1 := by kernel_rfl
theorem cells_so : Tryz.prog.cellsOf 24 = 1 := by kernel_rfl
theorem cells_ed : Tryz.prog.cellsOf 27 = 1 := by kernel_rfl
theorem cells_top : Tryz.prog.cellsOf 26 = 2 := by kernel_rfl
theorem list13 {α : Type} {l : List α} (h : l.length = 13) : ∃ c0 c1 c2 c3 c4 c5 c6 c7 c8 c9 c10 c11 c12, l = [c0, c1, c2, c3, c4, c5, c6, c7, c8, c9, c10, c11, c12] := by
  match l, h with
  | [c0, c1, c2, c3, c4, c5, c6, c7, c8, c9, c10, c11, c12], _ => exact ⟨c0, c1, c2, c3, c4, c5, c6, c7, c8, c9, c10, c11, c12, rfl⟩
theorem list12 {α : Type} {l : List α} (h : l.length = 12) : ∃ x0 x1 x2 x3 x4 x5 x6 x7 x8 x9 x10 x11, l = [x0, x1, x2, x3, x4, x5, x6, x7, x8, x9, x10, x11] := by
  match l, h with
  | [x0, x1, x2, x3, x4, x5, x6, x7, x8, x9, x10, x11], _ => exact ⟨x0, x1, x2, x3, x4, x5, x6, x7, x8, x9, x10, x11, rfl⟩
set_option maxHeartbeats 4000000 in
/-- A router that came in by value. -/
theorem open_rtr {H : Type} {enc : TypeId × Value → H} {W : World} {r : Reach} {b0 : Nat} {v : Value} {d : DataW H} {p : List MemPlace}
    (hv : Value.okWide Tryz.prog W r b0 29 v) (h : DataW.Trod enc Tryz.prog W 0 (fun _ => true) true 29 v d p) :
    ∃ x1 x2 x3 x4 x5 x6 a1 a2 a3 a4 a5 a6 a7 c1 c2 c3 c4 c5 c6 c7, ∃ (ls : List Lk.R) (tw : List Tu.R) (se : List Tu.R) (du : List Tu.R) (ss : List So.R) (es : List Tu.R) (la : List Ed.R), v = .agg #[.int .i64 x1, .int .i64 x2, .int .i64 x3, .int .i64 x4, .int .i64 x5, .slice a1 ls.length c1, .slice a2 tw.length c2, .slice a3 se.length c3, .slice a4 du.length c4, .slice a5 ss.length c5, .slice a6 es.length c6, .slice a7 la.length c7, .int .i64 x6] ∧ (ls.length ≤ maxLen ∧ tw.length ≤ maxLen ∧ se.length ≤ maxLen ∧ du.length ≤ maxLen ∧ ss.length ≤ maxLen ∧ es.length ≤ maxLen ∧ la.length ≤ maxLen) ∧ Lk.RM W a1 ls ∧ Tu.RM W a2 tw ∧ Tu.RM W a3 se ∧ Tu.RM W a4 du ∧ So.RM W a5 ss ∧ Tu.RM W a6 es ∧ Ed.RM W a7 la := by
  obtain ⟨cs, rfl, hsz⟩ := okWide_struct Tryz.underlying29 hv
  obtain ⟨l⟩ := cs
  obtain ⟨c0, c1, c2, c3, c4, c5, c6, c7, c8, c9, c10, c11, c12, rfl⟩ := list13 (hsz.trans cells13)
  obtain ⟨fuel, hf⟩ := h
  obtain ⟨xs, n, _, _, _, hlen, hf⟩ := DataW.trod_struct Tryz.underlying29 hf
  obtain ⟨x0, x1, x2, x3, x4, x5, x6, x7, x8, x9, x10, x11, rfl⟩ := list12 hlen
  have k0 := hf 0 _ rfl
  have k1 := hf 1 _ rfl
  have k2 := hf 2 _ rfl
  have k3 := hf 3 _ rfl
  have k4 := hf 4 _ rfl
  have k5 := hf 5 _ rfl
  have k6 := hf 6 _ rfl
  have k7 := hf 7 _ rfl
  have k8 := hf 8 _ rfl
  have k9 := hf 9 _ rfl
  have k10 := hf 10 _ rfl
  have k11 := hf 11 _ rfl
  clear hf hsz hv hlen
  simp [Value.cells, cells_int, cells_lk, cells_tu, cells_ed, cells_top] at k0 k1 k2 k3 k4 k5 k6 k7 k8 k9 k10 k11
  obtain ⟨a0, e0, _, _⟩ := DataW.trod_int Tryz.underlying3 k0
  obtain ⟨a1, e1, _, _⟩ := DataW.trod_int Tryz.underlying3 k1
  obtain ⟨a2, e2, _, _⟩ := DataW.trod_int Tryz.underlying3 k2
  obtain ⟨a3, e3, _, _⟩ := DataW.trod_int Tryz.underlying3 k3
  obtain ⟨a4, e4, _, _⟩ := DataW.trod_int Tryz.underlying3 k4
  obtain ⟨a11, e11, _, _⟩ := DataW.trod_int Tryz.underlying3 k11
  simp at e0 e1 e2 e3 e4 e11
  subst e0 e1 e2 e3 e4 e11
  obtain ⟨ys, n', _, _, _, hlen', hg⟩ := DataW.trod_struct Tryz.underlying26 k9
  obtain ⟨y0, y1, rfl⟩ := Tq.listR hlen'
  have t0 := hg 0 _ rfl
  have t1 := hg 1 _ rfl
  simp [cells_so, cells_tu] at t0 t1
  obtain ⟨g1, l1, p1, m1, rfl, h1, j1, r1⟩ := Lk.open_cell k5
  obtain ⟨g2, l2, p2, m2, rfl, h2, j2, r2⟩ := Tq.open_cellT k6
  obtain ⟨g3, l3, p3, m3, rfl, h3, j3, r3⟩ := Tq.open_cellT k7
  obtain ⟨g4, l4, p4, m4, rfl, h4, j4, r4⟩ := Tq.open_cellT k8
  obtain ⟨g5, l5, p5, m5, rfl, h5, j5, r5⟩ := So.open_cell t0
  obtain ⟨g6, l6, p6, m6, rfl, h6, j6, r6⟩ := Tq.open_cellT t1
  obtain ⟨g7, l7, p7, m7, rfl, h7, j7, r7⟩ := Ed.open_cell k10
  subst h1 h2 h3 h4 h5 h6 h7
  exact ⟨a0, a1, a2, a3, a4, a11, g1, g2, g3, g4, g5, g6, g7, p1, p2, p3, p4, p5, p6, p7, m1, m2, m3, m4, m5, m6, m7, rfl, ⟨j1, j2, j3, j4, j5, j6, j7⟩, r1, r2, r3, r4, r5, r6, r7⟩
end Rt
end Go.Proofs.YtiipppfkpgbpeaaGreat
namespace Go.Proofs.YtiipppfkpgbpeaaGreat
open Go.ChangeShapes Go.WideShapes Go.ChangeAt Go.RowKit
set_option linter.unusedVariables false
set_option linter.unusedSimpArgs false
set_option maxRecDepth 100000
namespace Rt
open W1
/-- Seven lists that lie one behind the other between two bounds of the heap. -/
def RL (W : World) (lo hi : Nat) (a1 a2 a3 a4 a5 a6 a7 : Option Addr) (ls : List Lk.R) (tw : List Tu.R) (se : List Tu.R) (du : List Tu.R) (ss : List So.R) (es : List Tu.R) (la : List Ed.R) : Prop :=
  ∃ b1 b2 b3 b4 b5 b6 : Nat, (lo ≤ b1 ∧ b1 ≤ b2 ∧ b2 ≤ b3 ∧ b3 ≤ b4 ∧ b4 ≤ b5 ∧ b5 ≤ b6 ∧ b6 ≤ hi) ∧ Lk.Lst W a1 (ls) lo b1 ∧ Tu.Lst W a2 (tw) b1 b2 ∧ Tu.Lst W a3 (se) b2 b3 ∧ Tu.Lst W a4 (du) b3 b4 ∧ So.Lst W a5 (ss) b4 b5 ∧ Tu.Lst W a6 (es) b5 b6 ∧ Ed.Lst W a7 (la) b6 hi
theorem RL.below {W W' : World} {lo hi : Nat} {a1 a2 a3 a4 a5 a6 a7 : Option Addr} {ls : List Lk.R} {tw : List Tu.R} {se : List Tu.R} {du : List Tu.R} {ss : List So.R} {es : List Tu.R} {la : List Ed.R} (h : RL W lo hi a1 a2 a3 a4 a5 a6 a7 ls tw se du ss es la) (hb : Below W.heap.size W W') : RL W' lo hi a1 a2 a3 a4 a5 a6 a7 ls tw se du ss es la := by
  obtain ⟨b1, b2, b3, b4, b5, b6, ⟨o0, o1, o2, o3, o4, o5, o6⟩, h1, h2, h3, h4, h5, h6, h7⟩ := h
  exact ⟨b1, b2, b3, b4, b5, b6, ⟨o0, o1, o2, o3, o4, o5, o6⟩, h1.below hb, h2.below hb, h3.below hb, h4.below hb, h5.below hb, h6.below hb, h7.below hb⟩
theorem RL.but {W W' : World} {lo hi L H : Nat} {a1 a2 a3 a4 a5 a6 a7 : Option Addr} {ls : List Lk.R} {tw : List Tu.R} {se : List Tu.R} {du : List Tu.R} {ss : List So.R} {es : List Tu.R} {la : List Ed.R} (h : RL W lo hi a1 a2 a3 a4 a5 a6 a7 ls tw se du ss es la) (hs : W.heap.size ≤ W'.heap.size) (hb : ∀ k, k < W.heap.size → (k < L ∨ H ≤ k) → W'.heap[k]? = W.heap[k]?) (hd : hi ≤ L ∨ H ≤ lo) : RL W' lo hi a1 a2 a3 a4 a5 a6 a7 ls tw se du ss es la := by
  obtain ⟨b1, b2, b3, b4, b5, b6, ⟨o0, o1, o2, o3, o4, o5, o6⟩, h1, h2, h3, h4, h5, h6, h7⟩ := h
  exact ⟨b1, b2, b3, b4, b5, b6, ⟨o0, o1, o2, o3, o4, o5, o6⟩, h1.but (p := fun k => k < L ∨ H ≤ k) hs (fun k hk h => hb k hk h) (fun k h1 h2 => by omega), h2.but (p := fun k => k < L ∨ H ≤ k) hs (fun k hk h => hb k hk h) (fun k h1 h2 => by omega), h3.but (p := fun k => k < L ∨ H ≤ k) hs (fun k hk h => hb k hk h) (fun k h1 h2 => by omega), h4.but (p := fun k => k < L ∨ H ≤ k) hs (fun k hk h => hb k hk h) (fun k h1 h2 => by omega), h5.but (p := fun k => k < L ∨ H ≤ k) hs (fun k hk h => hb k hk h) (fun k h1 h2 => by omega), h6.but (p := fun k => k < L ∨ H ≤ k) hs (fun k hk h => hb k hk h) (fun k h1 h2 => by omega), h7.but (p := fun k => k < L ∨ H ≤ k) hs (fun k hk h => hb k hk h) (fun k h1 h2 => by omega)⟩
theorem RL.r1 {W : World} {lo hi : Nat} {a1 a2 a3 a4 a5 a6 a7 : Option Addr} {ls : List Lk.R} {tw : List Tu.R} {se : List Tu.R} {du : List Tu.R} {ss : List So.R} {es : List Tu.R} {la : List Ed.R} (h : RL W lo hi a1 a2 a3 a4 a5 a6 a7 ls tw se du ss es la) : Lk.RM W a1 ls := by obtain ⟨b1, b2, b3, b4, b5, b6, ⟨o0, o1, o2, o3, o4, o5, o6⟩, h1, h2, h3, h4, h5, h6, h7⟩ := h; exact h1.rm
theorem RL.r2 {W : World} {lo hi : Nat} {a1 a2 a3 a4 a5 a6 a7 : Option Addr} {ls : List Lk.R} {tw : List Tu.R} {se : List Tu.R} {du : List Tu.R} {ss : List So.R} {es : List Tu.R} {la : List Ed.R} (h : RL W lo hi a1 a2 a3 a4 a5 a6 a7 ls tw se du ss es la) : Tu.RM W a2 tw := by obtain ⟨b1, b2, b3, b4, b5, b6, ⟨o0, o1, o2, o3, o4, o5, o6⟩, h1, h2, h3, h4, h5, h6, h7⟩ := h; exact h2.rm
theorem RL.r3 {W : World} {lo hi : Nat} {a1 a2 a3 a4 a5 a6 a7 : Option Addr} {ls : List Lk.R} {tw : List Tu.R} {se : List Tu.R} {du : List Tu.R} {ss : List So.R} {es : List Tu.R} {la : List Ed.R} (h : RL W lo hi a1 a2 a3 a4 a5 a6 a7 ls tw se du ss es la) : Tu.RM W a3 se := by obtain ⟨b1, b2, b3, b4, b5, b6, ⟨o0, o1, o2, o3, o4, o5, o6⟩, h1, h2, h3, h4, h5, h6, h7⟩ := h; exact h3.rm
theorem RL.r4 {W : World} {lo hi : Nat} {a1 a2 a3 a4 a5 a6 a7 : Option Addr} {ls : List Lk.R} {tw : List Tu.R} {se : List Tu.R} {du : List Tu.R} {ss : List So.R} {es : List Tu.R} {la : List Ed.R} (h : RL W lo hi a1 a2 a3 a4 a5 a6 a7 ls tw se du ss es la) : Tu.RM W a4 du := by obtain ⟨b1, b2, b3, b4, b5, b6, ⟨o0, o1, o2, o3, o4, o5, o6⟩, h1, h2, h3, h4, h5, h6, h7⟩ := h; exact h4.rm
theorem RL.r5 {W : World} {lo hi : Nat} {a1 a2 a3 a4 a5 a6 a7 : Option Addr} {ls : List Lk.R} {tw : List Tu.R} {se : List Tu.R} {du : List Tu.R} {ss : List So.R} {es : List Tu.R} {la : List Ed.R} (h : RL W lo hi a1 a2 a3 a4 a5 a6 a7 ls tw se du ss es la) : So.RM W a5 ss := by obtain ⟨b1, b2, b3, b4, b5, b6, ⟨o0, o1, o2, o3, o4, o5, o6⟩, h1, h2, h3, h4, h5, h6, h7⟩ := h; exact h5.rm
theorem RL.r6 {W : World} {lo hi : Nat} {a1 a2 a3 a4 a5 a6 a7 : Option Addr} {ls : List Lk.R} {tw : List Tu.R} {se : List Tu.R} {du : List Tu.R} {ss : List So.R} {es : List Tu.R} {la : List Ed.R} (h : RL W lo hi a1 a2 a3 a4 a5 a6 a7 ls tw se du ss es la) : Tu.RM W a6 es := by obtain ⟨b1, b2, b3, b4, b5, b6, ⟨o0, o1, o2, o3, o4, o5, o6⟩, h1, h2, h3, h4, h5, h6, h7⟩ := h; exact h6.rm
theorem RL.r7 {W : World} {lo hi : Nat} {a1 a2 a3 a4 a5 a6 a7 : Option Addr} {ls : List Lk.R} {tw : List Tu.R} {se : List Tu.R} {du : List Tu.R} {ss : List So.R} {es : List Tu.R} {la : List Ed.R} (h : RL W lo hi a1 a2 a3 a4 a5 a6 a7 ls tw se du ss es la) : Ed.RM W a7 la := by obtain ⟨b1, b2, b3, b4, b5, b6, ⟨o0, o1, o2, o3, o4, o5, o6⟩, h1, h2, h3, h4, h5, h6, h7⟩ := h; exact h7.rm
theorem toRL (x1 x2 x3 x4 x5 x6 : Int) (a1 a2 a3 a4 a5 a6 a7 : Option Addr) (c1 c2 c3 c4 c5 c6 c7 : Nat) (ls : List Lk.R) (tw : List Tu.R) (se : List Tu.R) (du : List Tu.R) (ss : List So.R) (es : List Tu.R) (la : List Ed.R) (w : World) (hm1 : ls.length ≤ 1048576) (hm2 : tw.length ≤ 1048576) (hm3 : se.length ≤ 1048576) (hm4 : du.length ≤ 1048576) (hm5 : ss.length ≤ 1048576) (hm6 : es.length ≤ 1048576) (hm7 : la.length ≤ 1048576) (hr1 : Lk.RM w a1 ls) (hr2 : Tu.RM w a2 tw) (hr3 : Tu.RM w a3 se) (hr4 : Tu.RM w a4 du) (hr5 : So.RM w a5 ss) (hr6 : Tu.RM w a6 es) (hr7 : Ed.RM w a7 la) :
    Calls Tryz.prog 9 #[.agg #[.int .i64 x1, .int .i64 x2, .int .i64 x3, .int .i64 x4, .int .i64 x5, .slice a1 ls.length c1, .slice a2 tw.length c2, .slice a3 se.length c3, .slice a4 du.length c4, .slice a5 ss.length c5, .slice a6 es.length c6, .slice a7 la.length c7, .int .i64 x6]] w fun e w' => ∃ g1 g2 g3 g4 g5 g6 g7, e = .returned (.agg (rC x1 x2 x3 x4 x5 (.slice (some ⟨g1, 0, none⟩) ls.length ls.length) (.slice (some ⟨g2, 0, none⟩) tw.length tw.length) (.slice (some ⟨g3, 0, none⟩) se.length se.length) (.slice (some ⟨g4, 0, none⟩) du.length du.length) (.slice (some ⟨g5, 0, none⟩) ss.length ss.length) (.slice (some ⟨g6, 0, none⟩) es.length es.length) (.slice (some ⟨g7, 0, none⟩) la.length la.length) x6).toArray) ∧ Below w.heap.size w w' ∧ RL w' w.heap.size w'.heap.size (some ⟨g1, 0, none⟩) (some ⟨g2, 0, none⟩) (some ⟨g3, 0, none⟩) (some ⟨g4, 0, none⟩) (some ⟨g5, 0, none⟩) (some ⟨g6, 0, none⟩) (some ⟨g7, 0, none⟩) ls tw se du ss es la := by
  refine (toR x1 x2 x3 x4 x5 x6 a1 a2 a3 a4 a5 a6 a7 c1 c2 c3 c4 c5 c6 c7 ls tw se du ss es la w hm1 hm2 hm3 hm4 hm5 hm6 hm7 hr1 hr2 hr3 hr4 hr5 hr6 hr7).mono ?_
  rintro e w' ⟨g1, g2, g3, g4, g5, g6, g7, rfl, hb, ⟨o0, o1, o2, o3, o4, o5, o6, o7⟩, u1, u2, u3, u4, u5, u6, u7⟩
  refine ⟨g1, g2, g3, g4, g5, g6, g7, rfl, hb, g2, g3, g4, g5, g6, g7, ⟨by omega, by omega, by omega, by omega, by omega, by omega, by omega⟩, .inr ⟨g1, rfl, by omega, by omega, by omega, u1⟩, .inr ⟨g2, rfl, by omega, by omega, by omega, u2⟩, .inr ⟨g3, rfl, by omega, by omega, by omega, u3⟩, .inr ⟨g4, rfl, by omega, by omega, by omega, u4⟩, .inr ⟨g5, rfl, by omega, by omega, by omega, u5⟩, .inr ⟨g6, rfl, by omega, by omega, by omega, u6⟩, .inr ⟨g7, rfl, by omega, by omega, by omega, u7⟩⟩
theorem markRL (x1 x2 x3 x4 x5 x6 : Int) (a1 a2 a3 a4 a5 a6 a7 : Option Addr) (c1 c2 c3 c4 c5 c6 c7 : Nat) (lo hi : Nat) (K : Int) (ls : List Lk.R) (tw : List Tu.R) (se : List Tu.R) (du : List Tu.R) (ss : List So.R) (es : List Tu.R) (la : List Ed.R) (w : World) (hK : 0 ≤ K) (hK1 : K ≤ 900000000) (hm1 : ls.length ≤ 1048576) (hm2 : tw.length ≤ 1048576) (hm3 : se.length ≤ 1048576) (hm4 : du.length ≤ 1048576) (hm5 : ss.length ≤ 1048576) (hm6 : es.length ≤ 1048576) (hm7 : la.length ≤ 1048576) (hhi : hi ≤ w.heap.size) (h : RL w lo hi a1 a2 a3 a4 a5 a6 a7 ls tw se du ss es la) :
    Calls Tryz.prog 13 #[.agg #[.int .i64 x1, .int .i64 x2, .int .i64 x3, .int .i64 x4, .int .i64 x5, .slice a1 ls.length c1, .slice a2 tw.length c2, .slice a3 se.length c3, .slice a4 du.length c4, .slice a5 ss.length c5, .slice a6 es.length c6, .slice a7 la.length c7, .int .i64 x6], .int .i64 K] w fun e w' => ∃ K7 : Int, e = .returned (.int .i64 K7) ∧ Hid (K7 = K + 6 * (ls.length : Int) + 3 * (tw.length : Int) + 3 * (se.length : Int) + 3 * (du.length : Int) + 3 * (ss.length : Int) + 3 * (es.length : Int) + 2 * (la.length : Int)) ∧ w.heap.size ≤ w'.heap.size ∧ Below (min lo w.heap.size) w w' ∧ ∀ k, k < w.heap.size → (k < lo ∨ hi ≤ k) → w'.heap[k]? = w.heap[k]? := by
  obtain ⟨b1, b2, b3, b4, b5, b6, ⟨o0, o1, o2, o3, o4, o5, o6⟩, h1, h2, h3, h4, h5, h6, h7⟩ := h
  refine (markRt x1 x2 x3 x4 x5 x6 a1 a2 a3 a4 a5 a6 a7 c1 c2 c3 c4 c5 c6 c7 lo b1 b2 b3 b4 b5 b6 hi K (K + 6 * (ls.length : Int)) ((K + 6 * (ls.length : Int)) + 3 * (tw.length : Int)) (((K + 6 * (ls.length : Int)) + 3 * (tw.length : Int)) + 3 * (se.length : Int)) ((((K + 6 * (ls.length : Int)) + 3 * (tw.length : Int)) + 3 * (se.length : Int)) + 3 * (du.length : Int)) (((((K + 6 * (ls.length : Int)) + 3 * (tw.length : Int)) + 3 * (se.length : Int)) + 3 * (du.length : Int)) + 3 * (ss.length : Int)) ((((((K + 6 * (ls.length : Int)) + 3 * (tw.length : Int)) + 3 * (se.length : Int)) + 3 * (du.length : Int)) + 3 * (ss.length : Int)) + 3 * (es.length : Int)) (((((((K + 6 * (ls.length : Int)) + 3 * (tw.length : Int)) + 3 * (se.length : Int)) + 3 * (du.length : Int)) + 3 * (ss.length : Int)) + 3 * (es.length : Int)) + 2 * (la.length : Int)) ls tw se du ss es la w hK hK1 rfl rfl rfl rfl rfl rfl rfl hm1 hm2 hm3 hm4 hm5 hm6 hm7 o0 o1 o2 o3 o4 o5 o6 hhi h1 h2 h3 h4 h5 h6 h7).mono ?_
  rintro e w' ⟨rfl, hz, hb, _, hk⟩
  exact ⟨_, rfl, hide (by omega), hz, hb, hk⟩
theorem infoL : Tryz.prog.underlying 29 = some (Tryz.prog.underlying 29).get! ∧ ((Tryz.prog.underlying 29).get!).isRow = true ∧ (Tryz.prog.info? 29).map (·.size) = some 13 := ⟨by kernel_rfl, by kernel_rfl, by kernel_rfl⟩
/-- A router of the laws is read whole. -/
theorem wpList_loadL {ops : Array Oper} {rest : List Oper} {op : Oper} {a : Act} {w : World} {Q : Exit → Act → World → Prop} (x : Operand) (hgd : op.guard = none) (ho : op.op = .load 29 x) {b : Nat} {cs : List Value} (hx : a.eval x = .pointer (some ⟨b, 0, none⟩)) (h : RA w b cs)
    (hk : wpList Tryz.prog ops Q rest (a.put op.dst (.agg cs.toArray)) w) : wpList Tryz.prog ops Q (op :: rest) a w :=
  wpList_load_mid hgd 29 x ho b 0 hx cs _ h.1 infoL.1 infoL.2.1 (h.2.2 ▸ infoL.2.2) hk
theorem run_execL {op : Oper} {a : Act} {w : World} (x : Operand) (ho : op.op = .load 29 x) {b : Nat} {cs : List Value} (hx : a.eval x = .pointer (some ⟨b, 0, none⟩)) (h : RA w b cs) : (execOp a.eval op).run Tryz.prog w = .ok (.value (.agg cs.toArray)) w := by
  unfold execOp
  simp only [ho, hx, Instr.loadAt, Instr.sureAddr, Sem.run_bind, Sem.run_pure, Result.andThen_ok, run_loadVar_mid w b 0 29 cs _ h.1 infoL.1 infoL.2.1 (h.2.2 ▸ infoL.2.2)]
end Rt
end Go.Proofs.YtiipppfkpgbpeaaGreat
