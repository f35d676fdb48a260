/-
  Of the texts Ints, IntsL, NetT, NetU, NetZ, NetF, Dig, Strs: what this claim needs of them. (put together by mkprune.py)
-/
import Derived.Test.YthfcigfgpimimaaGreatQb3
import Derived.Deep.RegionHeld3
import Derived.Deep.DrawnRows
import Derived.Deep.Slices
import Derived.Laws.AppendOwn
import Derived.Deep.MidRow
import Derived.Deep.Cut
import Derived.Lib.ItoaMem
import Derived.Laws.BytesArg
namespace Go.Proofs.YthfcigfgpimimaaGreat
open Go.ChangeShapes Go.WideShapes Go.ChangeAt Go.RowKit
set_option linter.unusedVariables false
set_option linter.unusedSimpArgs false
attribute [local go_sem ↓] Go.wp_at_zero Go.wp_at_succ
namespace In
open W1
def flat (zs : List Int) : List Value := zs.map (Value.int .i64)
theorem flat_len (zs : List Int) : (flat zs).length = zs.length * 1 := by simp [flat]
theorem flat_append (xs ys : List Int) : flat (xs ++ ys) = flat xs ++ flat ys := by simp [flat]
theorem flat_one_cell {zs : List Int} {u : Value} (h : u ∈ flat zs) : u.oneCell' = true := by
  obtain ⟨z, _, rfl⟩ := List.mem_map.1 h; rfl
theorem flat_get {zs : List Int} {i : Nat} (h : i < zs.length) : (flat zs)[i]? = some (.int .i64 (zs.getD i 0)) := by
  unfold flat
  rw [List.getElem?_map, List.getElem?_eq_getElem h, List.getD_eq_getElem?_getD, List.getElem?_eq_getElem h]; rfl
/-- The slice at a reads as these. -/
def RM (w : World) (a : Option Addr) (zs : List Int) : Prop :=
  zs = [] ∨ ∃ g off, a = some ⟨g, off, none⟩ ∧ ∀ i, i < zs.length → w.cell? ⟨g, off + i, none⟩ = some (.int .i64 (zs.getD i 0))
theorem RM.below {w w' : World} {a : Option Addr} {zs : List Int} (h : RM w a zs) (hb : Below w.heap.size w w') : RM w' a zs := by
  rcases h with h | ⟨g, off, rfl, hc⟩
  · exact .inl h
  · exact .inr ⟨g, off, rfl, fun i hi => (hb.cell (p := ⟨g, off + i, none⟩) (World.block_lt_of_cell? _ _ (hc i hi))).trans (hc i hi)⟩
theorem RM.at {w : World} {g off : Nat} {zs : List Int} {i : Nat} (h : RM w (some ⟨g, off, none⟩) zs) (hi : i < zs.length) : w.cell? ⟨g, off + i, none⟩ = some (.int .i64 (zs.getD i 0)) := by
  rcases h with rfl | ⟨g', off', e, hc⟩
  · simp at hi
  · cases e; exact hc i hi
theorem plain_add (b off k : Nat) : (⟨b, off, none⟩ : Addr).add k = ⟨b, off + k, none⟩ := by unfold Addr.add; split <;> simp_all
theorem RM.cells {w : World} {g off : Nat} {zs : List Int} (h : RM w (some ⟨g, off, none⟩) zs) : ∀ j u, (flat zs)[j]? = some u → w.cell? ((⟨g, off, none⟩ : Addr).add j) = some u := by
  intro j u hj
  have hl : j < zs.length := by have := (List.getElem?_eq_some_iff.1 hj).1; rw [flat_len] at this; omega
  rw [flat_get hl] at hj
  rw [plain_add, ← hj]
  exact h.at hl
/-- The first j stand at the head of block g, whose n cells may be written. -/
def Upto (w : World) (g n j : Nat) (zs : List Int) : Prop :=
  (∀ i, i < j → w.cell? ⟨g, i, none⟩ = some (.int .i64 (zs.getD i 0))) ∧ ∀ i, i < n → (w.cell? ⟨g, i, none⟩).isSome = true ∧ w.frozen? ⟨g, i, none⟩ = false
theorem Upto.step {w : World} {g n j : Nat} {zs : List Int} (h : Upto w g n j zs) (hj : j < n) : Upto (w.setCell ⟨g, j, none⟩ (.int .i64 (zs.getD j 0))) g n (j + 1) zs := by
  refine ⟨fun i hi => ?_, fun i hi => ⟨?_, by rw [World.frozen?_setCell]; exact (h.2 i hi).2⟩⟩
  · by_cases e : i = j
    · subst e
      obtain ⟨v, hv⟩ := Option.isSome_iff_exists.1 (h.2 i hj).1
      rw [World.cell?_setCell_same _ _ _ hv]
    · rw [World.cell?_setCell_other _ _ _ _ (by intro e'; cases e'; exact e rfl)]
      exact h.1 i (by omega)
  · obtain ⟨v, hv⟩ := Option.isSome_iff_exists.1 (h.2 i hi).1
    obtain ⟨v', hv'⟩ := cell?_setCell_some (p := ⟨g, j, none⟩) (x := .int .i64 (zs.getD j 0)) hv
    rw [hv']; rfl
theorem Upto.below {w w' : World} {g n j : Nat} {zs : List Int} (h : Upto w g n j zs) (hb : Below w.heap.size w w') (hg : g < w.heap.size) : Upto w' g n j zs :=
  ⟨fun i hi => (hb.cell (p := ⟨g, i, none⟩) hg).trans (h.1 i hi), fun i hi => ⟨by rw [hb.cell (p := ⟨g, i, none⟩) hg]; exact (h.2 i hi).1, by rw [hb.frozen (p := ⟨g, i, none⟩) hg]; exact (h.2 i hi).2⟩⟩
theorem Upto.of_block {w w' : World} {g n j : Nat} {zs : List Int} (h : Upto w g n j zs) (hb : w'.heap[g]? = w.heap[g]?) : Upto w' g n j zs := by
  have c : ∀ q, w'.cell? ⟨g, q, none⟩ = w.cell? ⟨g, q, none⟩ := fun q => World.cell?_of_block (a := ⟨g, q, none⟩) hb
  have f : ∀ q, w'.frozen? ⟨g, q, none⟩ = w.frozen? ⟨g, q, none⟩ := fun q => World.frozen?_of_block (a := ⟨g, q, none⟩) hb
  exact ⟨fun i hi => (c _).trans (h.1 i hi), fun i hi => ⟨by rw [c]; exact (h.2 i hi).1, by rw [f]; exact (h.2 i hi).2⟩⟩
theorem rm_of {w : World} {g n : Nat} {zs : List Int} (h : Upto w g n zs.length zs) : RM w (some ⟨g, 0, none⟩) zs := .inr ⟨g, 0, rfl, fun i hi => by rw [Nat.zero_add]; exact h.1 i hi⟩
/-- A list between two bounds of the heap, in memory that may be written. -/
def Lst (W : World) (a : Option Addr) (zs : List Int) (lo hi : Nat) : Prop := zs = [] ∨ ∃ g, a = some ⟨g, 0, none⟩ ∧ lo ≤ g ∧ g < hi ∧ g < W.heap.size ∧ Upto W g zs.length zs.length zs
theorem Lst.rm {W : World} {a : Option Addr} {zs : List Int} {lo hi : Nat} (h : Lst W a zs lo hi) : RM W a zs := by
  rcases h with rfl | ⟨g, rfl, _, _, _, hu⟩
  · exact .inl rfl
  · exact rm_of hu
theorem Lst.below {W W' : World} {a : Option Addr} {zs : List Int} {lo hi : Nat} (h : Lst W a zs lo hi) (hb : Below W.heap.size W W') : Lst W' a zs lo hi := by
  rcases h with rfl | ⟨g, rfl, h1, h2, h3, hu⟩
  · exact .inl rfl
  · exact .inr ⟨g, rfl, h1, h2, Nat.lt_of_lt_of_le h3 hb.size, hu.below hb h3⟩
theorem Lst.mono {W : World} {a : Option Addr} {zs : List Int} {lo hi lo' hi' : Nat} (h : Lst W a zs lo hi) (h1 : lo' ≤ lo) (h2 : hi ≤ hi') : Lst W a zs lo' hi' := by
  rcases h with rfl | ⟨g, rfl, h3, h4, h5, hu⟩
  · exact .inl rfl
  · exact .inr ⟨g, rfl, by omega, by omega, h5, hu⟩
theorem Lst.but {W W' : World} {a : Option Addr} {zs : List Int} {lo hi : Nat} {p : Nat → Prop} (h : Lst W a zs lo hi) (hs : W.heap.size ≤ W'.heap.size) (hb : ∀ k, k < W.heap.size → p k → W'.heap[k]? = W.heap[k]?) (hp : ∀ k, lo ≤ k → k < hi → p k) : Lst W' a zs lo hi := by
  rcases h with rfl | ⟨g, rfl, h1, h2, h3, hu⟩
  · exact .inl rfl
  · exact .inr ⟨g, rfl, h1, h2, Nat.lt_of_lt_of_le h3 hs, hu.of_block (hb g h3 (hp g h1 h2))⟩
def LstV (W : World) (v : Value) (zs : List Int) (lo hi : Nat) : Prop := ∃ a c, v = .slice a zs.length c ∧ Lst W a zs lo hi
theorem LstV.mono {W : World} {v : Value} {zs : List Int} {lo hi lo' hi' : Nat} (h : LstV W v zs lo hi) (h1 : lo' ≤ lo) (h2 : hi ≤ hi') : LstV W v zs lo' hi' := by
  obtain ⟨a, c, e, hl⟩ := h; exact ⟨a, c, e, hl.mono h1 h2⟩
theorem lstV_nil (W : World) (a : Option Addr) (c lo hi : Nat) : LstV W (.slice a 0 c) [] lo hi := ⟨a, c, rfl, .inl rfl⟩
theorem upto_own {w : World} {base g cap n : Nat} {zs : List Int} (hn : n = zs.length) (h : w.ownsRow base 3 1 (.slice (some ⟨g, 0, none⟩) n cap) n (flat zs)) : Upto w g n n zs := by
  subst hn
  refine ⟨fun i hi => ?_, fun i hi => ?_⟩
  · have := h.cells (g := g) rfl i _ (flat_get hi)
    rw [plain_add, Nat.zero_add] at this
    exact this
  · obtain ⟨_, ⟨e, _⟩ | ⟨g', cap', cur, e, _, hg, h1, _, h3, _⟩⟩ := h
    · cases e
    · cases e
      have hlt : i < cur.size := by rw [h3]; omega
      exact ⟨by simp [World.cell?, hg, hlt], by simp [World.frozen?, hg]⟩
theorem lst_own {w : World} {base n : Nat} {v : Value} {zs : List Int} (hn : n = zs.length) (h : w.ownsRow base 3 1 v n (flat zs)) : LstV w v zs base w.heap.size := by
  unfold LstV
  have h' := h
  obtain ⟨hl, ⟨rfl, h0⟩ | ⟨g, cap, cur, rfl, hb, hg, _, _, _, _⟩⟩ := h
  · exact ⟨none, 0, by rw [← hn, h0], .inl (List.eq_nil_of_length_eq_zero (by omega))⟩
  · have hlt : g < w.heap.size := by
      rcases Nat.lt_or_ge g w.heap.size with h | h
      · exact h
      · rw [Array.getElem?_eq_none h] at hg; cases hg
    refine ⟨_, cap, by rw [hn], .inr ⟨g, rfl, hb, hlt, hlt, ?_⟩⟩
    have := upto_own hn h'
    rw [hn] at this; exact this
theorem infoI : ∃ i, Tryz.prog.info? 3 = some i ∧ i.zero = some (.int .i64 0) ∧ i.size = 1 ∧ i.bytes = 8 := by
  have h : (Tryz.prog.info? 3).map (fun i => (i.zero, i.size, i.bytes)) = some (some (.int .i64 0), 1, 8) := by kernel_rfl
  obtain ⟨i, hi, he⟩ := Option.map_eq_some_iff.1 h
  simp only [Prod.mk.injEq] at he
  exact ⟨i, hi, he.1, he.2.1, he.2.2⟩
/-- append of a list to a row of one's own, as a walk meets it. -/
theorem wpList_apS {ops : Array Oper} {rest : List Oper} {o : Oper} {a : Act} {Q : Exit → Act → World → Prop} {w : World} {base : Nat} {v : Value} {xs : List Int} (hown : w.ownsRow base 3 1 v xs.length (flat xs)) (g off m c : Nat) (ms : List Int) (hm : ms.length = m) (hr : RM w (some ⟨g, off, none⟩) ms) (hlen : xs.length + ms.length ≤ 4194304) (hbase : base ≤ w.heap.size)
    (hgd : o.guard = none) (s x : Operand) (ho : o.op = .call { callee := .builtin .append, args := #[s, x], argTypes := #[23, 23] }) (hs : a.eval s = v) (hx : a.eval x = .slice (some ⟨g, off, none⟩) m c)
    (h : ∀ v' w', w'.ownsRow base 3 1 v' (xs ++ ms).length (flat (xs ++ ms)) → w.grownBy w' v.ownBlock → wpList Tryz.prog ops Q rest (a.put o.dst v') w') : wpList Tryz.prog ops Q (o :: rest) a w := by
  subst hm
  obtain ⟨i0, hi, hz0, hz1, hz2⟩ := infoI
  refine wpList_append_own w hgd s x _ ho base 3 i0 _ 1 8 Tryz.underlying23 hi hz0 hz1 hz2 rfl (by decide) v xs.length (flat xs) hs hown ⟨g, off, none⟩ ms.length c (flat ms) hx (flat_len ms) hr.cells (fun u hu => flat_one_cell hu) (by unfold maxLen; omega) (by omega) hbase (fun v' w' h1 h2 _ => ?_)
  refine h v' w' ?_ h2
  rw [List.length_append, flat_append]; exact h1
theorem rm_new (w : World) (z : Int) : RM (w.alloc (.cells #[.int .i64 z] 3)) (some ⟨w.heap.size, 0, none⟩) [z] := by
  refine .inr ⟨_, _, rfl, fun i hi => ?_⟩
  obtain rfl : i = 0 := by simp at hi; omega
  simp [World.cell?_alloc_new]
theorem own_empty (w : World) (base : Nat) (hb : base ≤ w.heap.size) : (w.alloc (.cells #[] 3)).ownsRow base 3 1 (.slice (some ⟨w.heap.size, 0, none⟩) 0 0) ([] : List Int).length (flat []) := World.ownsRow_made w #[] 0 hb (Nat.zero_le _) (by simp)
theorem own_nil (w : World) (base : Nat) : w.ownsRow base 3 1 (.slice none 0 0) ([] : List Int).length (flat []) := World.ownsRow_nil w base _ _
theorem below_own {B : Nat} {w0 w w' : World} {base : Nat} {v : Value} {n : Nat} {xs : List Value} (h : Below B w0 w) (ho : w.ownsRow base 3 1 v n xs) (hg : w.grownBy w' v.ownBlock) (hb : B ≤ base) (hB : B ≤ w.heap.size) : Below B w0 w' :=
  h.grown hg hB (fun k hk => Nat.le_trans hb (ho.lt k hk).1)
set_option maxRecDepth 100000 in
set_option maxHeartbeats 2000000 in
theorem eqS (a b : Option Addr) (zs : List Int) (ca cb : Nat) (w : World) (hm : zs.length ≤ 1048576) (hr : RM w a zs) (hr' : RM w b zs) :
    Calls Tryz.prog 26 #[.slice a zs.length ca, .slice b zs.length cb] w fun e w' => e = .returned (.bool true) ∧ Below w.heap.size w w' := by
  have HR := hide hr
  have HR' := hide hr'
  clear hr hr'
  generalize hN : zs.length = n at *
  have HN := hide hN
  clear hN
  go_enter Tryz.func26, Tryz.ntmps26
  go_wp2
  go_loopw [5] (fun i wr => ∃ j : Nat, j ≤ n ∧ i = .int .i64 j ∧ Hid (Below w.heap.size w wr)) (fun i _ => n - (intOf i).toNat)
  case atStart => exact ⟨0, by omega, rfl, hide (Below.refl _ _)⟩
  case round =>
    obtain ⟨j, hj, rfl, hbl⟩ := hrel
    by_cases hlt : (j : Int) < (n : Int)
    · have k0 : (0 : Int) ≤ (j : Int) := by omega
      have hlen : j < zs.length := by rw [unhide HN]; omega
      rcases (unhide HR).below (by exact (unhide hbl)) with e0 | ⟨g, off, rfl, hc⟩
      · exfalso; rw [e0] at hlen; simp at hlen
      rcases (unhide HR').below (by exact (unhide hbl)) with e0 | ⟨g', off', rfl, hc'⟩
      · exfalso; rw [e0] at hlen; simp at hlen
      have hA := hc j hlen
      have hA' := hc' j hlen
      clear hc hc'
      generalize zs.getD j 0 = z at *
      have hzb : (z == z) = true := by simp
      go_wp2_with fail
      go_region_held3 (fun w' => w'.cell? ⟨g, off + j, none⟩ = some (.int .i64 z) ∧ w'.cell? ⟨g', off' + j, none⟩ = some (.int .i64 z)) (exact ⟨hA, hA'⟩) (fail)
      have hb1 := hide ((unhide hbl).drew)
      go_wp2_with fail
      go_roundw
      case rel => exact ⟨j + 1, by omega, by go_num, hb1⟩
      case measure => simp [intOf]; omega
    · go_wp2
      go_ret
      exact ⟨rfl, unhide hbl⟩
/-- The marks from K on. -/
def marks (K : Int) (n : Nat) : List Int := (List.range n).map fun t : Nat => K + 1 * (t : Int)
theorem marks_len (K : Int) (n : Nat) : (marks K n).length = n := by simp [marks]
theorem marks_at (K : Int) (n t : Nat) (h : t < n) : (marks K n).getD t 0 = K + 1 * (t : Int) := by
  unfold marks
  rw [List.getD_eq_getElem?_getD, List.getElem?_map, List.getElem?_range h]; rfl
theorem grown_set {w w1 : World} {g o : Nat} {v : Value} (h : w.grownBy w1 (some g)) : w.grownBy (w1.setCell ⟨g, o, none⟩ v) (some g) :=
  ⟨h.os, h.tape, h.output, by have := h.size; simp [World.setCell]; exact this, fun k hk hne => (Below.heap_setCell _ _ _ _ (fun e => hne (by rw [e]))).trans (h.block k hk hne)⟩
set_option maxHeartbeats 2000000 in
theorem markS (g n c : Nat) (K : Int) (zs : List Int) (w : World) (hK : 0 ≤ K) (hK1 : K ≤ 1073741824) (hn : n ≤ 1048576) (hg : g < w.heap.size) (hU : Upto w g n n zs) :
    Calls Tryz.prog 29 #[.slice (some ⟨g, 0, none⟩) n c, .int .i64 K] w fun e w' => e = .returned (.int .i64 (K + 1 * (n : Int))) ∧ w.grownBy w' (some g) ∧ Upto w' g n n (marks K n) := by
  have hU0 : Hid (Upto w g n 0 (marks K n)) := hide ⟨fun i hi => by omega, hU.2⟩
  clear hU
  go_enter Tryz.func29, Tryz.ntmps29
  go_wp2
  go_loopw [1, 5] (fun q i wr => ∃ j : Nat, j ≤ n ∧ i = .int .i64 j ∧ q = .int .i64 (K + 1 * (j : Int)) ∧ Hid (w.grownBy wr (some g)) ∧ Hid (Upto wr g n j (marks K n))) (fun _ i _ => n - (intOf i).toNat)
  case atStart => exact ⟨0, by omega, rfl, by simp, hide ⟨rfl, rfl, rfl, Nat.le_refl _, fun _ _ _ => rfl⟩, hU0⟩
  case round =>
    obtain ⟨j, hj, rfl, rfl, hgr, hu⟩ := hrel
    by_cases hlt : (j : Int) < (n : Int)
    · have k0 : (0 : Int) ≤ (j : Int) := by omega
      obtain ⟨v0, x0⟩ := Option.isSome_iff_exists.1 ((unhide hu).2 j (by omega)).1
      have y0 := ((unhide hu).2 j (by omega)).2
      have hst := (unhide hu).step (by omega)
      rw [marks_at K n j (by omega)] at hst
      have HST := hide hst
      have HGN := hide (grown_set (o := j) (v := .int .i64 (K + 1 * (j : Int))) (unhide hgr))
      clear hst
      generalize hq : K + 1 * (j : Int) = q at *
      have hq0 : 0 ≤ q := by omega
      have hq1 : q ≤ 1109393408 := by omega
      go_wp2_with fail
      exact ⟨⟨j + 1, by omega, by go_num, by go_num, HGN, HST⟩, by simp [intOf]; omega⟩
    · obtain rfl : j = n := by omega
      go_wp2
      go_ret
      exact ⟨by first | rfl | trivial | simp, unhide hgr, unhide hu⟩
theorem markS0 (a : Option Addr) (c : Nat) (K : Int) (w : World) :
    Calls Tryz.prog 29 #[.slice a 0 c, .int .i64 K] w fun e w' => e = .returned (.int .i64 K) ∧ w' = w := by
  go_enter Tryz.func29, Tryz.ntmps29
  go_wp2
  go_loop [1, 5] (fun q i => q = .int .i64 K ∧ i = .int .i64 0) (fun _ i => 0)
  case atStart => exact ⟨rfl, rfl⟩
  case round =>
    obtain ⟨rfl, rfl⟩ := hrel
    go_wp2
    go_ret
    exact ⟨rfl, rfl⟩
theorem heldS0 (a : Option Addr) (c : Nat) (K : Int) (w : World) :
    Calls Tryz.prog 32 #[.slice a 0 c, .int .i64 K] w fun e w' => e = .returned (.int .i64 K) ∧ w' = w := by
  go_enter Tryz.func32, Tryz.ntmps32
  go_wp2
  go_loop [1, 5] (fun q i => q = .int .i64 K ∧ i = .int .i64 0) (fun _ i => 0)
  case atStart => exact ⟨rfl, rfl⟩
  case round =>
    obtain ⟨rfl, rfl⟩ := hrel
    go_wp2
    go_ret
    exact ⟨rfl, rfl⟩
set_option maxHeartbeats 2000000 in
theorem heldS (g n c : Nat) (K : Int) (w : World) (hK : 0 ≤ K) (hK1 : K ≤ 1073741824) (hn : n ≤ 1048576) (hU : Upto w g n n (marks K n)) :
    Calls Tryz.prog 32 #[.slice (some ⟨g, 0, none⟩) n c, .int .i64 K] w fun e w' => e = .returned (.int .i64 (K + 1 * (n : Int))) ∧ w' = w := by
  have HU := hide hU
  clear hU
  go_enter Tryz.func32, Tryz.ntmps32
  go_wp2
  go_loopw [1, 5] (fun q i wr => wr = w ∧ ∃ j : Nat, j ≤ n ∧ i = .int .i64 j ∧ q = .int .i64 (K + 1 * (j : Int))) (fun _ i _ => n - (intOf i).toNat)
  case atStart => exact ⟨rfl, 0, by omega, rfl, by simp⟩
  case round =>
    obtain ⟨rfl, j, hj, rfl, rfl⟩ := hrel
    by_cases hlt : (j : Int) < (n : Int)
    · have k0 : (0 : Int) ≤ (j : Int) := by omega
      have c0 := (unhide HU).1 j (by omega)
      rw [marks_at K n j (by omega)] at c0
      generalize hq : K + 1 * (j : Int) = q at *
      have hq0 : 0 ≤ q := by omega
      have hq1 : q ≤ 1109393408 := by omega
      go_wp2_with fail
      go_roundw
      case rel => exact ⟨by first | trivial | rfl, j + 1, by omega, by go_num, by go_num⟩
      case measure => simp [intOf]; omega
    · obtain rfl : j = n := by omega
      go_wp2
      go_ret
      exact ⟨by first | trivial | rfl | simp, rfl⟩
theorem markF (a : Option Addr) (c lo hi : Nat) (K : Int) (zs : List Int) (w : World) (hK : 0 ≤ K) (hK1 : K ≤ 1073741824) (hn : zs.length ≤ 1048576) (h : Lst w a zs lo hi) :
    Calls Tryz.prog 29 #[.slice a zs.length c, .int .i64 K] w fun e w' => e = .returned (.int .i64 (K + 1 * (zs.length : Int))) ∧ w.heap.size ≤ w'.heap.size ∧ Below (min lo w.heap.size) w w' ∧ Lst w' a (marks K zs.length) lo hi ∧ ∀ k, k < w.heap.size → (k < lo ∨ hi ≤ k) → w'.heap[k]? = w.heap[k]? := by
  have hnil : ∀ w', w' = w → w.heap.size ≤ w'.heap.size ∧ Below (min lo w.heap.size) w w' ∧ ∀ k, k < w.heap.size → (k < lo ∨ hi ≤ k) → w'.heap[k]? = w.heap[k]? := by
    rintro w' rfl
    exact ⟨Nat.le_refl _, Below.refl _ _, fun _ _ _ => rfl⟩
  by_cases h0 : zs.length = 0
  · obtain rfl : zs = [] := List.eq_nil_of_length_eq_zero h0
    refine (markS0 a c K w).mono ?_
    rintro e w' ⟨rfl, hw⟩
    obtain ⟨q1, q2, q3⟩ := hnil w' hw
    exact ⟨by simp, q1, q2, .inl rfl, q3⟩
  rcases h with rfl | ⟨g, rfl, h1, h2, h3, hu⟩
  · simp at h0
  refine (markS g zs.length c K zs w hK hK1 hn h3 hu).mono ?_
  rintro e w' ⟨rfl, gr, hu'⟩
  exact ⟨rfl, gr.size, ⟨gr.os, gr.tape, gr.output, gr.size, fun k hk => gr.block k (by omega) (fun e => by cases e; omega)⟩, .inr ⟨g, rfl, h1, h2, Nat.lt_of_lt_of_le h3 gr.size, by rw [marks_len]; exact hu'⟩, fun k hk hne => gr.block k hk (fun e => by cases e; omega)⟩
theorem heldF (a : Option Addr) (c n lo hi : Nat) (K : Int) (w : World) (hK : 0 ≤ K) (hK1 : K ≤ 1073741824) (hn : n ≤ 1048576) (h : Lst w a (marks K n) lo hi) :
    Calls Tryz.prog 32 #[.slice a n c, .int .i64 K] w fun e w' => e = .returned (.int .i64 (K + 1 * (n : Int))) ∧ w' = w := by
  by_cases h0 : n = 0
  · subst h0
    refine (heldS0 a c K w).mono ?_
    rintro e w' ⟨rfl, rfl⟩
    exact ⟨by simp, rfl⟩
  rcases h with h | ⟨g, rfl, _, _, _, hu⟩
  · have := marks_len K n; rw [h] at this; simp at this; omega
  · rw [marks_len] at hu
    exact heldS g n c K w hK hK1 hn hu
end In
end Go.Proofs.YthfcigfgpimimaaGreat
namespace Go.Proofs.YthfcigfgpimimaaGreat
open Go.ChangeShapes Go.WideShapes Go.ChangeAt Go.RowKit
set_option linter.unusedVariables false
set_option linter.unusedSimpArgs false
attribute [local go_sem ↓] Go.wp_at_zero Go.wp_at_succ
namespace In
open W1
set_option maxRecDepth 100000 in
set_option maxHeartbeats 2000000 in
theorem toS (a : Option Addr) (zs : List Int) (cap : Nat) (w : World) (hm : zs.length ≤ 1048576) (hr : RM w a zs) :
    Calls Tryz.prog 21 #[.slice a zs.length cap] w fun e w' => ∃ g, e = .returned (.slice (some ⟨g, 0, none⟩) zs.length zs.length) ∧ Below w.heap.size w w' ∧ w.heap.size ≤ g ∧ g < w'.heap.size ∧ Upto w' g zs.length zs.length zs := by
  obtain ⟨i0, hi, hz0, hz1, hz2⟩ := infoI
  have hmk := run_make (P := Tryz.prog) w 23 3 i0 _ Tryz.underlying23 hi hz0 .i64 .i64 (zs.length : Int) (zs.length : Int) (by omega) (by omega) (by rw [hz2]; omega) (by omega)
  have HR := hide hr
  clear hr
  generalize hN : zs.length = n at *
  have HN := hide hN
  clear hN
  rw [Int.toNat_natCast, hz1] at hmk
  have hcs : (madeCells (Value.int .i64 0).cells (n * 1)).size = n * 1 := size_madeCells _ _
  generalize madeCells (Value.int .i64 0).cells (n * 1) = cs at *
  have hup0 : Upto (w.alloc (.cells cs 3)) w.heap.size n 0 zs := by
    refine ⟨fun i hi => by omega, fun i hi => ⟨?_, by simp⟩⟩
    rw [World.cell?_alloc_new, Array.getElem?_eq_getElem (by omega)]; rfl
  have HU := hide hup0
  clear hup0 hcs hi hz0 hz1 hz2
  go_enter Tryz.func21, Tryz.ntmps21
  go_wp2
  go_loopw [4] (fun i wr => ∃ j : Nat, j ≤ n ∧ i = .int .i64 j ∧ Hid (w.heap.size < wr.heap.size) ∧ Hid (Below w.heap.size w wr) ∧ Hid (Upto wr w.heap.size n j zs)) (fun i _ => n - (intOf i).toNat)
  case atStart => exact ⟨0, by omega, rfl, hide (by simp), hide ((Below.refl _ _).alloc (Nat.le_refl _) _), HU⟩
  case round =>
    obtain ⟨j, hj, rfl, hsz, hb, hu⟩ := hrel
    by_cases hlt : (j : Int) < (n : Int)
    · have k0 : (0 : Int) ≤ (j : Int) := by omega
      have hlen : j < zs.length := by rw [unhide HN]; omega
      rcases (unhide HR).below (unhide hb) with e0 | ⟨g, off, rfl, hc⟩
      · exfalso; rw [e0] at hlen; simp at hlen
      have c0 := hc j hlen
      clear hc
      have HST := hide ((unhide hu).step (by omega))
      obtain ⟨⟨v0, x0⟩, y0⟩ : (∃ v0, wr.cell? ⟨w.heap.size, j, none⟩ = some v0) ∧ wr.frozen? ⟨w.heap.size, j, none⟩ = false := ⟨Option.isSome_iff_exists.1 ((unhide hu).2 j (by omega)).1, ((unhide hu).2 j (by omega)).2⟩
      generalize zs.getD j 0 = y at *
      have HB1 := hide ((unhide hb).setCell (p := ⟨w.heap.size, j, none⟩) (Nat.le_refl _) (.int .i64 y))
      have HS1 : Hid (w.heap.size < (wr.setCell ⟨w.heap.size, j, none⟩ (.int .i64 y)).heap.size) := hide (by simp [World.setCell]; exact unhide hsz)
      go_wp2_with fail
      go_roundw
      case rel => exact ⟨j + 1, by omega, by go_num, HS1, HB1, HST⟩
      case measure => simp [intOf]; omega
    · obtain rfl : j = n := by omega
      go_wp2
      go_ret
      exact ⟨w.heap.size, rfl, unhide hb, Nat.le_refl _, unhide hsz, unhide hu⟩
theorem open_list {H : Type} {enc : TypeId × Value → H} {W : World} {a : Option Addr} {len cap : Nat} {d : DataW H} {p : List MemPlace}
    (h : DataW.Trod enc Tryz.prog W 0 (fun _ => true) true 23 (.slice a len cap) d p) : ∃ zs : List Int, zs.length = len ∧ len ≤ maxLen ∧ RM W a zs := by
  obtain ⟨fuel, hf⟩ := h
  rcases open_ints Tryz.underlying23 Tryz.underlying3 (by kernel_rfl) hf with ⟨hcs, _⟩ | ⟨x, l, c, zs, hcs, _, hl, hm, hlen, _, hc, _⟩
  · simp [Value.cells] at hcs
    obtain ⟨rfl, rfl, rfl⟩ := hcs
    exact ⟨[], rfl, Nat.zero_le _, .inl rfl⟩
  · simp [Value.cells] at hcs
    obtain ⟨rfl, rfl, rfl⟩ := hcs
    rw [if_pos rfl] at hlen
    by_cases h0 : len = 0
    · subst h0; exact ⟨[], rfl, Nat.zero_le _, .inl rfl⟩
    obtain ⟨b, off, spot⟩ := x
    have hsp : spot = none := by
      have h2 := hc 0 (by omega)
      simpa [Addr.add] using World.cell?_spot h2
    subst hsp
    refine ⟨zs.take len, by rw [List.length_take]; omega, by omega, .inr ⟨b, off, rfl, fun i hi => ?_⟩⟩
    have hil : i < len ∧ i < zs.length := by simp at hi; omega
    have h2 := hc i hil.2
    rw [plain_add] at h2
    rw [List.getD_eq_getElem?_getD, List.getElem?_take_of_lt hil.1, ← List.getD_eq_getElem?_getD]; exact h2
end In
end Go.Proofs.YthfcigfgpimimaaGreat
namespace Go.Proofs.YthfcigfgpimimaaGreat
open Go.ChangeShapes Go.WideShapes Go.ChangeAt Go.RowKit
set_option linter.unusedVariables false
set_option linter.unusedSimpArgs false
set_option maxRecDepth 100000
attribute [local go_sem ↓] Go.wp_at_zero Go.wp_at_succ
namespace Nt
open W1 Rt
/-- The first j routers stand at the head of block g, whose n times 13 cells may be written. -/
def UpN (w : World) (g n j : Nat) (ms : List Rm) (qs : List Pl) : Prop := (∀ i, i < j → w.rangeAt g (i * 13) (cl (ms.getD i Rm.zero) (qs.getD i Pl.zero))) ∧ w.there g 0 (n * 13)
/-- Their lists lie one router's behind the other's between two bounds. -/
def OwN (w : World) (lo hi j : Nat) (ms : List Rm) (qs : List Pl) : Prop := ∃ f : Nat → Nat, lo ≤ f 0 ∧ (∀ i, i < j → f i ≤ f (i + 1)) ∧ f j ≤ hi ∧ ∀ i, i < j → Ow w (f i) (f (i + 1)) (ms.getD i Rm.zero) (qs.getD i Pl.zero)
theorem Ow.mono {w : World} {lo hi lo' hi' : Nat} {m : Rm} {p : Pl} (h : Ow w lo hi m p) (h1 : lo' ≤ lo) (h2 : hi ≤ hi') : Ow w lo' hi' m p := by
  obtain ⟨b1, b2, b3, b4, b5, b6, ⟨o0, o1, o2, o3, o4, o5, o6⟩, u1, u2, u3, u4, u5, u6, u7⟩ := h
  exact ⟨b1, b2, b3, b4, b5, b6, ⟨by omega, o1, o2, o3, o4, o5, by omega⟩, u1.mono h1 (Nat.le_refl _), u2, u3, u4, u5, u6, u7.mono (Nat.le_refl _) h2⟩
theorem there_part {w : World} {g n o k : Nat} (h : w.there g 0 n) (hk : o + k ≤ n) : w.there g o k := fun j hj => by have := h (o + j) (by omega); rwa [Nat.zero_add] at this
theorem there_under {w w' : World} {B g o n : Nat} (h : w.there g o n) (hb : Below B w w') (hg : g < B) : w'.there g o n := fun j hj => ⟨by rw [hb.cell (p := ⟨g, o + j, none⟩) hg]; exact (h j hj).1, by rw [hb.frozen (p := ⟨g, o + j, none⟩) hg]; exact (h j hj).2⟩
theorem UpN.under {w w' : World} {B g n j : Nat} {ms : List Rm} {qs : List Pl} (h : UpN w g n j ms qs) (hb : Below B w w') (hg : g < B) : UpN w' g n j ms qs := ⟨fun i hi => rng_under (h.1 i hi) hb hg, there_under h.2 hb hg⟩
theorem getD_snoc_lt {α : Type} (z : α) (l : List α) (x : α) {i : Nat} (h : i < l.length) : (l ++ [x]).getD i z = l.getD i z := by
  rw [List.getD_eq_getElem?_getD, List.getD_eq_getElem?_getD, List.getElem?_append_left h]
theorem getD_snoc_eq {α : Type} (z : α) (l : List α) (x : α) {i : Nat} (h : i = l.length) : (l ++ [x]).getD i z = x := by
  subst h; simp
theorem UpN.step {w : World} {g n j : Nat} {ms : List Rm} {qs : List Pl} (h : UpN w g n j ms qs) (hl : qs.length = j) (hj : j < n) (q : Pl) : UpN (w.setCells g (j * 13) (cl (ms.getD j Rm.zero) q)) g n (j + 1) ms (qs ++ [q]) := by
  refine ⟨fun i hi => ?_, World.there_setCells h.2 _ _ _⟩
  by_cases e : i = j
  · subst e
    rw [getD_snoc_eq _ _ _ hl.symm]
    exact World.rangeAt_setCells_same _ _ _ _ (there_part h.2 (by rw [cl_len]; omega))
  · rw [getD_snoc_lt _ _ _ (by omega)]
    exact World.rangeAt_setCells_apart (h.1 i (by omega)) _ _ _ (.inr (.inl (by rw [cl_len]; omega)))
theorem OwN.but {w w' : World} {lo hi j Lo Hi : Nat} {ms : List Rm} {qs : List Pl} (h : OwN w lo hi j ms qs) (hs : w.heap.size ≤ w'.heap.size) (hb : ∀ k, k < w.heap.size → (k < Lo ∨ Hi ≤ k) → w'.heap[k]? = w.heap[k]?) (hd : hi ≤ Lo ∨ Hi ≤ lo) : OwN w' lo hi j ms qs := by
  obtain ⟨f, f0, f1, f2, f3⟩ := h
  have up : ∀ i k, i + k ≤ j → f i ≤ f (i + k) := fun i k => by
    induction k with
    | zero => intro _; exact Nat.le_refl _
    | succ k ih => intro hk; exact Nat.le_trans (ih (by omega)) (f1 (i + k) (by omega))
  refine ⟨f, f0, f1, f2, fun i hi => (f3 i hi).but hs hb ?_⟩
  have e0 := up 0 i (by omega)
  have e1 := up (i + 1) (j - (i + 1)) (by omega)
  rw [Nat.zero_add] at e0
  rw [show i + 1 + (j - (i + 1)) = j by omega] at e1
  omega
theorem OwN.below {w w' : World} {lo hi j : Nat} {ms : List Rm} {qs : List Pl} (h : OwN w lo hi j ms qs) (hb : Below w.heap.size w w') : OwN w' lo hi j ms qs := by
  obtain ⟨f, f0, f1, f2, f3⟩ := h
  exact ⟨f, f0, f1, f2, fun i hi => (f3 i hi).below hb⟩
theorem OwN.step {w w' : World} {lo hi hi' j : Nat} {ms : List Rm} {qs : List Pl} (h : OwN w lo hi j ms qs) (hb : Below w.heap.size w w') (hl : qs.length = j) {q : Pl} (ho : Ow w' hi hi' (ms.getD j Rm.zero) q) (hh : hi ≤ hi') : OwN w' lo hi' (j + 1) ms (qs ++ [q]) := by
  obtain ⟨f, f0, f1, f2, f3⟩ := h
  refine ⟨fun i => if i ≤ j then f i else hi', by simpa using f0, fun i hi => ?_, by simp only [show ¬ j + 1 ≤ j by omega, if_false]; exact Nat.le_refl _, fun i hi => ?_⟩
  · by_cases e : i < j
    · simp only [show i ≤ j by omega, show i + 1 ≤ j by omega, if_true]; exact f1 i e
    · obtain rfl : i = j := by omega
      simp only [Nat.le_refl, if_true, show ¬ i + 1 ≤ i by omega, if_false]; omega
  · by_cases e : i < j
    · simp only [show i ≤ j by omega, show i + 1 ≤ j by omega, if_true]
      rw [getD_snoc_lt _ _ _ (by omega)]; exact (f3 i e).below hb
    · obtain rfl : i = j := by omega
      simp only [Nat.le_refl, if_true, show ¬ i + 1 ≤ i by omega, if_false]
      rw [getD_snoc_eq _ _ _ hl.symm]; exact ho.mono f2 (Nat.le_refl _)
theorem OwN.rd {w : World} {lo hi j : Nat} {ms : List Rm} {qs : List Pl} (h : OwN w lo hi j ms qs) {i : Nat} (hi : i < j) : Rd w (ms.getD i Rm.zero) (qs.getD i Pl.zero) := by
  obtain ⟨f, f0, f1, f2, f3⟩ := h
  exact (f3 i hi).rd
theorem nr_of {w : World} {g lo hi n : Nat} {ms : List Rm} {qs : List Pl} (hn : ms.length = n) (h : UpN w g n n ms qs) (ho : OwN w lo hi n ms qs) : NR w (some ⟨g, 0, none⟩) ms qs := .inr ⟨g, 0, rfl, fun i hi => ⟨by rw [Nat.zero_add]; exact h.1 i (by omega), ho.rd (by omega)⟩⟩
theorem infoZ : ∃ i, Tryz.prog.info? 80 = some i ∧ i.zero = some (Value.agg #[.int .i64 0, .int .i64 0, .int .i64 0, .int .i64 0, .int .i64 0, .slice none 0 0, .slice none 0 0, .slice none 0 0, .slice none 0 0, .slice none 0 0, .slice none 0 0, .slice none 0 0, .int .i64 0]) ∧ i.size = 13 ∧ i.bytes = 216 := by
  have h : (Tryz.prog.info? 80).map (fun i => (i.zero, i.size, i.bytes)) = some (some (Value.agg #[.int .i64 0, .int .i64 0, .int .i64 0, .int .i64 0, .int .i64 0, .slice none 0 0, .slice none 0 0, .slice none 0 0, .slice none 0 0, .slice none 0 0, .slice none 0 0, .slice none 0 0, .int .i64 0]), 13, 216) := by kernel_rfl
  obtain ⟨i, hi, he⟩ := Option.map_eq_some_iff.1 h
  simp only [Prod.mk.injEq] at he
  exact ⟨i, hi, he.1, he.2.1, he.2.2⟩
/-- A router written whole into a row. -/
theorem storeN {ops : Array Oper} {rest : List Oper} {op : Oper} {a : Act} {w : World} {Q : Exit → Act → World → Prop} (x y : Operand) (hgd : op.guard = none) (ho : op.op = .store 80 x y) {b o : Nat} {m : Rm} {p : Pl} (ht : w.there b o 13) (hx : a.eval x = .pointer (some ⟨b, o, none⟩)) (hy : a.eval y = .agg (cl m p).toArray)
    (hk : ∀ w', w' = w.setCells b o (cl m p) → wpList Tryz.prog ops Q rest (a.put op.dst undef) w') : wpList Tryz.prog ops Q (op :: rest) a w :=
  wpList_store_mid hgd 80 x y ho b o (cl m p).toArray hx hy ht infoR.2.2 (all_oneCell_toArray (cl_ones m p).2) (hk _ rfl)
set_option maxHeartbeats 8000000 in
theorem toNS (a : Option Addr) (ms : List Rm) (ps : List Pl) (cap : Nat) (w : World) (hm : ms.length ≤ 1048576) (hs : ∀ i, i < ms.length → Sm (ms.getD i Rm.zero)) (hr : NR w a ms ps) :
    Calls Tryz.prog 20 #[.slice a ms.length cap] w fun e w' => e = .returned (.slice (some ⟨w.heap.size, 0, none⟩) ms.length ms.length) ∧ Below w.heap.size w w' ∧ w.heap.size < w'.heap.size ∧ ∃ qs : List Pl, qs.length = ms.length ∧ (∀ i, i < ms.length → Ad (qs.getD i Pl.zero)) ∧ UpN w' w.heap.size ms.length ms.length ms qs ∧ OwN w' (w.heap.size + 1) w'.heap.size ms.length ms qs := by
  obtain ⟨i0, hi, hz0, hz1, hz2⟩ := infoZ
  have hmk := run_make (P := Tryz.prog) w 29 80 i0 _ Tryz.underlying29 hi hz0 .i64 .i64 (ms.length : Int) (ms.length : Int) (by omega) (by omega) (by rw [hz2]; omega) (by omega)
  have HR := hide hr
  have HS := hide hs
  clear hr hs
  generalize hN : ms.length = n at *
  have HN := hide hN
  clear hN
  rw [Int.toNat_natCast, hz1] at hmk
  have hcs : (madeCells (Value.agg #[.int .i64 0, .int .i64 0, .int .i64 0, .int .i64 0, .int .i64 0, .slice none 0 0, .slice none 0 0, .slice none 0 0, .slice none 0 0, .slice none 0 0, .slice none 0 0, .slice none 0 0, .int .i64 0]).cells (n * 13)).size = n * 13 := size_madeCells _ _
  generalize madeCells (Value.agg #[.int .i64 0, .int .i64 0, .int .i64 0, .int .i64 0, .int .i64 0, .slice none 0 0, .slice none 0 0, .slice none 0 0, .slice none 0 0, .slice none 0 0, .slice none 0 0, .slice none 0 0, .int .i64 0]).cells (n * 13) = cs at *
  have hup0 : UpN (w.alloc (.cells cs 80)) w.heap.size n 0 ms [] := by
    refine ⟨fun i hi => by omega, fun i hi => ⟨?_, by simp⟩⟩
    rw [World.cell?_alloc_new, Array.getElem?_eq_getElem (by omega)]; rfl
  have HU := hide hup0
  clear hup0 hcs hi hz0 hz1 hz2
  go_enter Tryz.func20, Tryz.ntmps20
  go_wp2
  go_loopw [4] (fun i wr => ∃ j : Nat, j ≤ n ∧ i = .int .i64 j ∧ ∃ qs : List Pl, qs.length = j ∧ Hid (∀ i, i < j → Ad (qs.getD i Pl.zero)) ∧ Hid (w.heap.size < wr.heap.size) ∧ Hid (Below w.heap.size w wr) ∧ Hid (UpN wr w.heap.size n j ms qs) ∧ Hid (OwN wr (w.heap.size + 1) wr.heap.size j ms qs)) (fun i _ => n - (intOf i).toNat)
  case atStart => exact ⟨0, by omega, rfl, [], rfl, hide (fun i hi => absurd hi (Nat.not_lt_zero i)), hide (by simp), hide ((Below.refl _ _).alloc (Nat.le_refl _) _), HU, hide ⟨fun _ => w.heap.size + 1, Nat.le_refl _, fun _ _ => Nat.le_refl _, by simp, fun i hi => absurd hi (Nat.not_lt_zero i)⟩⟩
  case round =>
    obtain ⟨j, hj, rfl, qs, hql, HAD, hsz, hb, hu, how⟩ := hrel
    have HQL := hide hql
    clear hql
    by_cases hlt : (j : Int) < (n : Int)
    · have k0 : (0 : Int) ≤ (j : Int) := by omega
      have hlen : j < ms.length := by rw [unhide HN]; omega
      obtain ⟨g, off, rfl, hA, hD⟩ := ((unhide HR).below (unhide hb)).at hlen
      have HA := hide hA
      have HD := hide hD
      have HX := hide ((unhide HS) j (by omega))
      have HST := hide (fun w1 (b1 : Below wr.heap.size wr w1) q => ((unhide hu).under b1 (unhide hsz)).step (unhide HQL) (by omega) q)
      have HSO := hide (fun w1 (b1 : Below wr.heap.size wr w1) q (h : Ow w1 wr.heap.size w1.heap.size (ms.getD j Rm.zero) q) => (unhide how).step b1 (unhide HQL) h b1.size)
      have HTH := hide (fun w1 (b1 : Below wr.heap.size wr w1) => there_part (o := j * 13) (k := 13) ((unhide hu).under b1 (unhide hsz)).2 (by omega))
      clear hlen hA hD
      generalize ms.getD j Rm.zero = m at *
      generalize ps.getD j Pl.zero = p at *
      go_wp2_with (refine loadW _ rfl rfl (unhide HA) rfl ?_)
      refine (toN m p _ (unhide HX) (unhide HD)).mono ?_
      rintro e w1 ⟨q, rfl, b1, ho, hadq⟩
      have HAD1 : Hid (∀ i, i < j + 1 → Ad ((qs ++ [q]).getD i Pl.zero)) := hide (fun i hi => by
        by_cases e : i = j
        · rw [getD_snoc_eq _ _ _ (by rw [unhide HQL]; exact e)]; exact hadq
        · rw [getD_snoc_lt _ _ _ (by rw [unhide HQL]; omega)]; exact unhide HAD i (by omega))
      clear hadq
      have HT1 := hide (unhide HTH w1 b1)
      have HU1 := hide (unhide HST w1 b1 q)
      have HO1 := hide ((unhide HSO w1 b1 q ho).but (w' := w1.setCells w.heap.size (j * 13) (cl m q)) (Lo := w.heap.size) (Hi := w.heap.size + 1) (Nat.le_of_eq (size_cells _ _ _).symm) (fun k hk h => heap_cells (by omega) _ _ _) (.inr (Nat.le_refl _)))
      have HB1 := hide (below_cells (b := w.heap.size) (Nat.le_refl _) (cl m q) (j * 13) w1 ((unhide hb).trans (b1.mono (unhide hb).size)))
      have hsz1 := hide (Nat.lt_of_lt_of_le (unhide hsz) b1.size)
      clear HA HD HX HST HSO HTH b1 ho
      go_wp2_with (refine storeN (m := m) (p := q) _ _ rfl rfl (unhide HT1) rfl rfl ?_; intro w2 hw2; have HW2 := hide hw2; clear hw2)
      go_roundw
      case rel => exact ⟨j + 1, by omega, by go_num, qs ++ [q], by rw [List.length_append, unhide HQL]; rfl, HAD1, hide (by rw [unhide HW2, size_cells]; exact unhide hsz1), hide (by rw [unhide HW2]; exact unhide HB1), hide (by rw [unhide HW2]; exact unhide HU1), hide (by rw [unhide HW2, size_cells]; exact unhide HO1)⟩
      case measure => simp [intOf]; omega
    · obtain rfl : j = n := by omega
      go_wp2
      go_ret
      exact ⟨rfl, unhide hb, unhide hsz, qs, unhide HQL, unhide HAD, unhide hu, unhide how⟩
end Nt
end Go.Proofs.YthfcigfgpimimaaGreat
namespace Go.Proofs.YthfcigfgpimimaaGreat
open Go.ChangeShapes Go.WideShapes Go.ChangeAt Go.RowKit
set_option linter.unusedVariables false
set_option linter.unusedSimpArgs false
set_option maxRecDepth 100000
attribute [local go_sem ↓] Go.wp_at_zero Go.wp_at_succ
namespace Nt
open W1 Rt
theorem NB.other {w : World} {b : Nat} {v1 v2 v3 : Value} {t : Int} (h : NB w b v1 v2 v3 t) {p : Addr} (hne : b ≠ p.block) (v : Value) : NB (w.setCell p v) b v1 v2 v3 t := by
  have hb : (w.setCell p v).heap[b]? = w.heap[b]? := Below.heap_setCell _ _ _ _ hne
  obtain ⟨h0, h1, h2, h3⟩ := h
  exact ⟨(World.cell?_of_block (a := ⟨b, 0, none⟩) hb).trans h0, (World.cell?_of_block (a := ⟨b, 1, none⟩) hb).trans h1, (World.cell?_of_block (a := ⟨b, 2, none⟩) hb).trans h2, (World.cell?_of_block (a := ⟨b, 3, none⟩) hb).trans h3⟩
theorem NB.but {w w' : World} {b : Nat} {v1 v2 v3 : Value} {t : Int} (h : NB w b v1 v2 v3 t) (hb : w'.heap[b]? = w.heap[b]?) : NB w' b v1 v2 v3 t := by
  obtain ⟨h0, h1, h2, h3⟩ := h
  exact ⟨(World.cell?_of_block (a := ⟨b, 0, none⟩) hb).trans h0, (World.cell?_of_block (a := ⟨b, 1, none⟩) hb).trans h1, (World.cell?_of_block (a := ⟨b, 2, none⟩) hb).trans h2, (World.cell?_of_block (a := ⟨b, 3, none⟩) hb).trans h3⟩
theorem set_same {w : World} {b k : Nat} {u v : Value} (h : w.cell? ⟨b, k, none⟩ = some u) : (w.setCell ⟨b, k, none⟩ v).cell? ⟨b, k, none⟩ = some v := World.cell?_setCell_same _ _ _ h
theorem set_else {w : World} {b k j : Nat} {v : Value} (h : j ≠ k) : (w.setCell ⟨b, k, none⟩ v).cell? ⟨b, j, none⟩ = w.cell? ⟨b, j, none⟩ := World.cell?_setCell_other _ _ _ _ (by intro e; injection e with _ e2 _; exact h e2.symm)
theorem NB.set0 {w : World} {b : Nat} {v1 v2 v3 : Value} {t : Int} (h : NB w b v1 v2 v3 t) (v : Value) : NB (w.setCell ⟨b, 0, none⟩ v) b v v2 v3 t := ⟨set_same h.1, (set_else (by decide)).trans h.2.1, (set_else (by decide)).trans h.2.2.1, (set_else (by decide)).trans h.2.2.2⟩
theorem NB.set1 {w : World} {b : Nat} {v1 v2 v3 : Value} {t : Int} (h : NB w b v1 v2 v3 t) (v : Value) : NB (w.setCell ⟨b, 1, none⟩ v) b v1 v v3 t := ⟨(set_else (by decide)).trans h.1, set_same h.2.1, (set_else (by decide)).trans h.2.2.1, (set_else (by decide)).trans h.2.2.2⟩
theorem NB.set2 {w : World} {b : Nat} {v1 v2 v3 : Value} {t : Int} (h : NB w b v1 v2 v3 t) (v : Value) : NB (w.setCell ⟨b, 2, none⟩ v) b v1 v2 v t := ⟨(set_else (by decide)).trans h.1, (set_else (by decide)).trans h.2.1, set_same h.2.2.1, (set_else (by decide)).trans h.2.2.2⟩
theorem NB.set3 {w : World} {b : Nat} {v1 v2 v3 : Value} {t : Int} (h : NB w b v1 v2 v3 t) (x : Int) : NB (w.setCell ⟨b, 3, none⟩ (.int .i64 x)) b v1 v2 v3 x := ⟨(set_else (by decide)).trans h.1, (set_else (by decide)).trans h.2.1, (set_else (by decide)).trans h.2.2.1, set_same h.2.2.2⟩
theorem there_new4 (w : World) (v1 v2 v3 v4 : Value) (ty : Nat) : (w.alloc (.cells #[v1, v2, v3, v4] ty)).there w.heap.size 0 4 := fun j hj => by
  refine ⟨?_, by simp⟩
  rw [Nat.zero_add, World.cell?_alloc_new, Array.getElem?_eq_getElem (by simpa using hj)]; rfl
theorem free_at {w : World} {b k : Nat} (h : w.there b 0 4) (hk : k < 4) : w.frozen? ⟨b, k, none⟩ = false := by have := (h k hk).2; rwa [Nat.zero_add] at this
theorem there_at {w : World} {b n : Nat} {p : Addr} {v : Value} (h : w.there b 0 n) : (w.setCell p v).there b 0 n := fun j hj => by
  refine ⟨?_, by rw [World.frozen?_setCell]; exact (h j hj).2⟩
  obtain ⟨u, hu⟩ := Option.isSome_iff_exists.1 (h j hj).1
  obtain ⟨u', hu'⟩ := cell?_setCell_some (p := p) (x := v) hu
  rw [hu']; rfl
/-- A copy of a net: its row, its lists, in memory of one's own between two bounds. -/
def OwT (W : World) (lo hi g1 g2 g3 : Nat) (ms : List Rm) (qs : List Pl) (cs : List Int) (fs : List Fm.R) : Prop :=
  ∃ p, lo ≤ g1 ∧ g1 < p ∧ p ≤ g2 ∧ g2 < g3 ∧ g3 < hi ∧ hi ≤ W.heap.size ∧ (qs.length = ms.length ∧ ∀ i, i < ms.length → Ad (qs.getD i Pl.zero)) ∧ UpN W g1 ms.length ms.length ms qs ∧ OwN W (g1 + 1) p ms.length ms qs ∧ In.Upto W g2 cs.length cs.length cs ∧ Fm.Upto W g3 fs.length fs.length fs
theorem OwT.nr {W : World} {lo hi g1 g2 g3 : Nat} {ms : List Rm} {qs : List Pl} {cs : List Int} {fs : List Fm.R} (h : OwT W lo hi g1 g2 g3 ms qs cs fs) : NR W (some ⟨g1, 0, none⟩) ms qs := by
  obtain ⟨p, _, _, _, _, _, _, _, h1, h2, _, _⟩ := h
  exact nr_of rfl h1 h2
theorem OwT.ad {W : World} {lo hi g1 g2 g3 : Nat} {ms : List Rm} {qs : List Pl} {cs : List Int} {fs : List Fm.R} (h : OwT W lo hi g1 g2 g3 ms qs cs fs) : ∀ i, i < ms.length → Ad (qs.getD i Pl.zero) := by
  obtain ⟨p, _, _, _, _, _, _, ⟨_, h0⟩, _⟩ := h
  exact h0
theorem OwT.ri {W : World} {lo hi g1 g2 g3 : Nat} {ms : List Rm} {qs : List Pl} {cs : List Int} {fs : List Fm.R} (h : OwT W lo hi g1 g2 g3 ms qs cs fs) : In.RM W (some ⟨g2, 0, none⟩) cs := by
  obtain ⟨p, _, _, _, _, _, _, _, _, _, h3, _⟩ := h
  exact In.rm_of h3
theorem OwT.rf {W : World} {lo hi g1 g2 g3 : Nat} {ms : List Rm} {qs : List Pl} {cs : List Int} {fs : List Fm.R} (h : OwT W lo hi g1 g2 g3 ms qs cs fs) : Fm.RM W (some ⟨g3, 0, none⟩) fs := by
  obtain ⟨p, _, _, _, _, _, _, _, _, _, _, h4⟩ := h
  exact Fm.rm_of h4
theorem OwT.below {W W' : World} {lo hi g1 g2 g3 : Nat} {ms : List Rm} {qs : List Pl} {cs : List Int} {fs : List Fm.R} (h : OwT W lo hi g1 g2 g3 ms qs cs fs) (hb : Below W.heap.size W W') : OwT W' lo hi g1 g2 g3 ms qs cs fs := by
  obtain ⟨p, e1, e2, e3, e4, e5, e6, e7, h1, h2, h3, h4⟩ := h
  exact ⟨p, e1, e2, e3, e4, e5, Nat.le_trans e6 hb.size, e7, h1.under hb (by omega), h2.below hb, h3.below hb (by omega), h4.below hb (by omega)⟩
theorem UpN.block {w w' : World} {g n j : Nat} {ms : List Rm} {qs : List Pl} (h : UpN w g n j ms qs) (hb : w'.heap[g]? = w.heap[g]?) : UpN w' g n j ms qs :=
  ⟨fun i hi j u hu => (World.cell?_of_block (a := ⟨g, i * 13 + j, none⟩) hb).trans (h.1 i hi j u hu), fun j hj => ⟨by rw [World.cell?_of_block (a := ⟨g, 0 + j, none⟩) hb]; exact (h.2 j hj).1, by rw [World.frozen?_of_block (a := ⟨g, 0 + j, none⟩) hb]; exact (h.2 j hj).2⟩⟩
theorem OwN.set {w : World} {lo hi j : Nat} {ms : List Rm} {qs : List Pl} (h : OwN w lo hi j ms qs) {p : Addr} {v : Value} (hp : p.block < lo ∨ hi ≤ p.block) : OwN (w.setCell p v) lo hi j ms qs :=
  h.but (Lo := p.block) (Hi := p.block + 1) (by simp [World.setCell]) (fun k _ hk => Below.heap_setCell _ _ _ _ (by omega)) (by omega)
theorem infoN : Tryz.prog.underlying 32 = some (Tryz.prog.underlying 32).get! ∧ ((Tryz.prog.underlying 32).get!).isRow = true ∧ (Tryz.prog.info? 32).map (·.size) = some 4 := ⟨by kernel_rfl, by kernel_rfl, by kernel_rfl⟩
theorem nb_range {w : World} {b : Nat} {v1 v2 v3 : Value} {t : Int} (h : NB w b v1 v2 v3 t) : w.rangeAt b 0 [v1, v2, v3, .int .i64 t] := fun j u hu => by
  obtain ⟨h0, h1, h2, h3⟩ := h
  rw [Nat.zero_add]
  match j, hu with
  | 0, hu => simp at hu; subst hu; exact h0
  | 1, hu => simp at hu; subst hu; exact h1
  | 2, hu => simp at hu; subst hu; exact h2
  | 3, hu => simp at hu; subst hu; exact h3
  | j + 4, hu => simp at hu
theorem range_nb {w : World} {b : Nat} {v1 v2 v3 : Value} {t : Int} (h : w.rangeAt b 0 [v1, v2, v3, .int .i64 t]) : NB w b v1 v2 v3 t := ⟨h 0 _ rfl, h 1 _ rfl, h 2 _ rfl, h 3 _ rfl⟩
/-- A net is written whole. -/
theorem storeNB {ops : Array Oper} {rest : List Oper} {op : Oper} {a : Act} {w : World} {Q : Exit → Act → World → Prop} (x y : Operand) (hgd : op.guard = none) (ho : op.op = .store 32 x y) {b : Nat} {v1 v2 v3 : Value} {t : Int} (h1 : v1.oneCell' = true) (h2 : v2.oneCell' = true) (h3 : v3.oneCell' = true) (ht : w.there b 0 4) (hx : a.eval x = .pointer (some ⟨b, 0, none⟩)) (hy : a.eval y = .agg #[v1, v2, v3, .int .i64 t])
    (hk : ∀ w', NB w' b v1 v2 v3 t → w'.there b 0 4 → (∀ B w0, Below B w0 w → B ≤ b → Below B w0 w') → w'.heap.size = w.heap.size → (∀ k, k ≠ b → w'.heap[k]? = w.heap[k]?) → wpList Tryz.prog ops Q rest (a.put op.dst undef) w') : wpList Tryz.prog ops Q (op :: rest) a w :=
  wpList_store_mid hgd 32 x y ho b 0 #[v1, v2, v3, .int .i64 t] hx hy ht infoN.2.2 (all_oneCell_toArray (cs := [v1, v2, v3, .int .i64 t]) (by intro v hv; simp only [List.mem_cons, List.not_mem_nil, or_false] at hv; rcases hv with rfl | rfl | rfl | rfl <;> first | rfl | assumption)) (hk _ (range_nb (World.rangeAt_setCells_same w b 0 _ ht)) (World.there_setCells ht _ _ _) (fun B w0 h hb => below_cells hb _ _ _ h) (size_cells _ _ _) (fun k hk => heap_cells hk _ _ _))
/-- A net handed back. -/
theorem resultsN {fn : Func} {p : Tmp} (h : fn.results = #[.cell p 32]) (tmps : Array Value) (w : World) {b : Nat} {v1 v2 v3 : Value} {t : Int} (hp : tmps.getD p undef = .pointer (some ⟨b, 0, none⟩)) (hg : NB w b v1 v2 v3 t) : (results fn tmps).run Tryz.prog w = .ok (.agg #[v1, v2, v3, .int .i64 t]) w := by
  have hp' : tmps[p]?.getD undef = .pointer (some ⟨b, 0, none⟩) := by simpa using hp
  simp only [results, h]
  simp [Sem.run_bind, hp', asAddr, run_loadVar_mid w b 0 32 [v1, v2, v3, .int .i64 t] _ (nb_range hg) infoN.1 infoN.2.1 infoN.2.2, Result.andThen]
set_option maxHeartbeats 16000000 in
theorem toNt (a b d : Option Addr) (ca cb cd : Nat) (t : Int) (ms : List Rm) (ps : List Pl) (cs : List Int) (fs : List Fm.R) (w : World) (hm : ms.length ≤ 1048576) (hc : cs.length ≤ 1048576) (hf : fs.length ≤ 1048576) (hs : ∀ i, i < ms.length → Sm (ms.getD i Rm.zero)) (hr : NR w a ms ps) (hi : In.RM w b cs) (hz : Fm.RM w d fs) :
    Calls Tryz.prog 6 #[.agg #[.slice a ms.length ca, .slice b cs.length cb, .slice d fs.length cd, .int .i64 t]] w fun e w' => ∃ g1 g2 g3 qs, e = .returned (.agg #[.slice (some ⟨g1, 0, none⟩) ms.length ms.length, .slice (some ⟨g2, 0, none⟩) cs.length cs.length, .slice (some ⟨g3, 0, none⟩) fs.length fs.length, .int .i64 t]) ∧ Below w.heap.size w w' ∧ OwT w' w.heap.size w'.heap.size g1 g2 g3 ms qs cs fs := by
  have b0 : Below w.heap.size w (((w.alloc (.cells #[.slice a ms.length ca, .slice b cs.length cb, .slice d fs.length cd, .int .i64 t] 26)).alloc (.cells #[.slice none 0 0, .slice none 0 0, .slice none 0 0, .int .i64 0] 32)).alloc (.cells #[.slice none 0 0, .slice none 0 0, .slice none 0 0, .int .i64 0] 32)) := (((Below.refl _ _).alloc (Nat.le_refl _) _).alloc (by simp) _).alloc (by simp; omega) _
  have z1 : (w.alloc (.cells #[.slice a ms.length ca, .slice b cs.length cb, .slice d fs.length cd, .int .i64 t] 26)).heap.size = w.heap.size + 1 := by simp
  have z2 : ((w.alloc (.cells #[.slice a ms.length ca, .slice b cs.length cb, .slice d fs.length cd, .int .i64 t] 26)).alloc (.cells #[.slice none 0 0, .slice none 0 0, .slice none 0 0, .int .i64 0] 32)).heap.size = w.heap.size + 1 + 1 := by simp
  have z3 : (((w.alloc (.cells #[.slice a ms.length ca, .slice b cs.length cb, .slice d fs.length cd, .int .i64 t] 26)).alloc (.cells #[.slice none 0 0, .slice none 0 0, .slice none 0 0, .int .i64 0] 32)).alloc (.cells #[.slice none 0 0, .slice none 0 0, .slice none 0 0, .int .i64 0] 32)).heap.size = w.heap.size + 3 := by simp
  have c1 : Below (w.alloc (.cells #[.slice a ms.length ca, .slice b cs.length cb, .slice d fs.length cd, .int .i64 t] 26)).heap.size (w.alloc (.cells #[.slice a ms.length ca, .slice b cs.length cb, .slice d fs.length cd, .int .i64 t] 26)) ((w.alloc (.cells #[.slice a ms.length ca, .slice b cs.length cb, .slice d fs.length cd, .int .i64 t] 26)).alloc (.cells #[.slice none 0 0, .slice none 0 0, .slice none 0 0, .int .i64 0] 32)) := bel_new _ _
  have c2 : Below ((w.alloc (.cells #[.slice a ms.length ca, .slice b cs.length cb, .slice d fs.length cd, .int .i64 t] 26)).alloc (.cells #[.slice none 0 0, .slice none 0 0, .slice none 0 0, .int .i64 0] 32)).heap.size ((w.alloc (.cells #[.slice a ms.length ca, .slice b cs.length cb, .slice d fs.length cd, .int .i64 t] 26)).alloc (.cells #[.slice none 0 0, .slice none 0 0, .slice none 0 0, .int .i64 0] 32)) (((w.alloc (.cells #[.slice a ms.length ca, .slice b cs.length cb, .slice d fs.length cd, .int .i64 t] 26)).alloc (.cells #[.slice none 0 0, .slice none 0 0, .slice none 0 0, .int .i64 0] 32)).alloc (.cells #[.slice none 0 0, .slice none 0 0, .slice none 0 0, .int .i64 0] 32)) := bel_new _ _
  have HX0 : Hid (NB (((w.alloc (.cells #[.slice a ms.length ca, .slice b cs.length cb, .slice d fs.length cd, .int .i64 t] 26)).alloc (.cells #[.slice none 0 0, .slice none 0 0, .slice none 0 0, .int .i64 0] 32)).alloc (.cells #[.slice none 0 0, .slice none 0 0, .slice none 0 0, .int .i64 0] 32)) w.heap.size (.slice a ms.length ca) (.slice b cs.length cb) (.slice d fs.length cd) t) := hide (((nb_new w (.slice a ms.length ca) (.slice b cs.length cb) (.slice d fs.length cd) t 26).below c1).below c2)
  have HZ0 : Hid (NB (((w.alloc (.cells #[.slice a ms.length ca, .slice b cs.length cb, .slice d fs.length cd, .int .i64 t] 26)).alloc (.cells #[.slice none 0 0, .slice none 0 0, .slice none 0 0, .int .i64 0] 32)).alloc (.cells #[.slice none 0 0, .slice none 0 0, .slice none 0 0, .int .i64 0] 32)) (w.heap.size + 1) (.slice none 0 0) (.slice none 0 0) (.slice none 0 0) 0) := hide (by have h := (nb_new (w.alloc (.cells #[.slice a ms.length ca, .slice b cs.length cb, .slice d fs.length cd, .int .i64 t] 26)) (.slice none 0 0) (.slice none 0 0) (.slice none 0 0) 0 32).below c2; rw [z1] at h; exact h)
  have TZ0 : Hid ((((w.alloc (.cells #[.slice a ms.length ca, .slice b cs.length cb, .slice d fs.length cd, .int .i64 t] 26)).alloc (.cells #[.slice none 0 0, .slice none 0 0, .slice none 0 0, .int .i64 0] 32)).alloc (.cells #[.slice none 0 0, .slice none 0 0, .slice none 0 0, .int .i64 0] 32)).there (w.heap.size + 1) 0 4) := hide (by have h := there_under (there_new4 (w.alloc (.cells #[.slice a ms.length ca, .slice b cs.length cb, .slice d fs.length cd, .int .i64 t] 26)) (.slice none 0 0) (.slice none 0 0) (.slice none 0 0) (.int .i64 0) 32) c2 (by rw [z1, z2]; omega); rw [z1] at h; exact h)
  have HO0 : Hid (NB (((w.alloc (.cells #[.slice a ms.length ca, .slice b cs.length cb, .slice d fs.length cd, .int .i64 t] 26)).alloc (.cells #[.slice none 0 0, .slice none 0 0, .slice none 0 0, .int .i64 0] 32)).alloc (.cells #[.slice none 0 0, .slice none 0 0, .slice none 0 0, .int .i64 0] 32)) (w.heap.size + 1 + 1) (.slice none 0 0) (.slice none 0 0) (.slice none 0 0) 0) := hide (by have h := nb_new ((w.alloc (.cells #[.slice a ms.length ca, .slice b cs.length cb, .slice d fs.length cd, .int .i64 t] 26)).alloc (.cells #[.slice none 0 0, .slice none 0 0, .slice none 0 0, .int .i64 0] 32)) (.slice none 0 0) (.slice none 0 0) (.slice none 0 0) 0 32; rw [z2] at h; exact h)
  have TO0 : Hid ((((w.alloc (.cells #[.slice a ms.length ca, .slice b cs.length cb, .slice d fs.length cd, .int .i64 t] 26)).alloc (.cells #[.slice none 0 0, .slice none 0 0, .slice none 0 0, .int .i64 0] 32)).alloc (.cells #[.slice none 0 0, .slice none 0 0, .slice none 0 0, .int .i64 0] 32)).there (w.heap.size + 1 + 1) 0 4) := hide (by have h := there_new4 ((w.alloc (.cells #[.slice a ms.length ca, .slice b cs.length cb, .slice d fs.length cd, .int .i64 t] 26)).alloc (.cells #[.slice none 0 0, .slice none 0 0, .slice none 0 0, .int .i64 0] 32)) (.slice none 0 0) (.slice none 0 0) (.slice none 0 0) (.int .i64 0) 32; rw [z2] at h; exact h)
  have HB0 := hide b0
  have hq0 := Nat.le_of_eq z3.symm
  have HR := hide hr
  have HI := hide hi
  have HF := hide hz
  have HS := hide hs
  clear b0 z1 z2 z3 c1 c2 hr hi hz hs
  go_enter Tryz.func6, Tryz.ntmps6
  go_wp2_with fail
  generalize hW : (((w.alloc (.cells #[.slice a ms.length ca, .slice b cs.length cb, .slice d fs.length cd, .int .i64 t] 26)).alloc (.cells #[.slice none 0 0, .slice none 0 0, .slice none 0 0, .int .i64 0] 32)).alloc (.cells #[.slice none 0 0, .slice none 0 0, .slice none 0 0, .int .i64 0] 32)) = V0 at *
  clear hW
  refine (toNS _ ms ps _ _ hm (unhide HS) ((unhide HR).below (unhide HB0))).mono ?_
  rintro e V1 ⟨rfl, d1, l1, qs, hql, had, u1, ow⟩
  have HB1 := hide ((unhide HB0).trans (d1.mono (unhide HB0).size))
  have hq1 := d1.size
  have HX1 := hide ((unhide HX0).below d1)
  have HZ1 := hide ((unhide HZ0).below d1)
  have HO1 := hide ((unhide HO0).below d1)
  have TZ1 := hide (there_under (unhide TZ0) d1 (unhide HZ0).lt)
  have TO1 := hide (there_under (unhide TO0) d1 (unhide HO0).lt)
  clear HX0 HZ0 HO0 TZ0 TO0
  have HQL := hide hql
  have HAD := hide had
  have UR1 := hide u1
  have OR1 := hide ow
  have hr1 : V0.heap.size < V1.heap.size := l1
  clear hql had u1 ow l1 d1
  obtain ⟨V2, hV2⟩ : ∃ V, (V1.setCell ⟨w.heap.size + 1 + 1, 0, none⟩ (.slice (some ⟨V0.heap.size, 0, none⟩) ms.length ms.length)) = V := ⟨_, rfl⟩
  have HB2 : Hid (Below w.heap.size w V2) := hide (by rw [← hV2]; exact (unhide HB1).setCell (p := ⟨w.heap.size + 1 + 1, 0, none⟩) (by show w.heap.size ≤ w.heap.size + 1 + 1; omega) _)
  have HX2 : Hid (NB V2 w.heap.size (.slice a ms.length ca) (.slice b cs.length cb) (.slice d fs.length cd) t) := hide (by rw [← hV2]; exact (unhide HX1).other (by show w.heap.size ≠ w.heap.size + 1 + 1; omega) _)
  have HZ2 : Hid (NB V2 (w.heap.size + 1) (.slice none 0 0) (.slice none 0 0) (.slice none 0 0) 0) := hide (by rw [← hV2]; exact (unhide HZ1).other (by show (w.heap.size + 1) ≠ w.heap.size + 1 + 1; omega) _)
  have HO2 : Hid (NB V2 (w.heap.size + 1 + 1) (.slice (some ⟨V0.heap.size, 0, none⟩) ms.length ms.length) (.slice none 0 0) (.slice none 0 0) 0) := hide (by rw [← hV2]; exact (unhide HO1).set0 _)
  have TZ2 : Hid (V2.there (w.heap.size + 1) 0 4) := hide (by rw [← hV2]; exact there_at (unhide TZ1))
  have TO2 : Hid (V2.there (w.heap.size + 1 + 1) 0 4) := hide (by rw [← hV2]; exact there_at (unhide TO1))
  have hq2 : V2.heap.size = V1.heap.size := by rw [← hV2]; simp [World.setCell]
  have UR2 : Hid (UpN V2 V0.heap.size ms.length ms.length ms qs) := hide (by rw [← hV2]; exact (unhide UR1).block (Below.heap_setCell _ _ _ _ (by show V0.heap.size ≠ w.heap.size + 1 + 1; omega)))
  have OR2 : Hid (OwN V2 (V0.heap.size + 1) V1.heap.size ms.length ms qs) := hide (by rw [← hV2]; exact (unhide OR1).set (.inl (by show w.heap.size + 1 + 1 < V0.heap.size + 1; omega)))
  have HV2 := hide hV2
  clear hV2
  have f0 := free_at (unhide TO1) (k := 0) (by omega)
  obtain ⟨o0, o1, o2, o3⟩ := unhide HO1
  obtain ⟨x0, x1, x2, x3⟩ := unhide HX1
  have hne : ¬ w.heap.size = w.heap.size + 1 + 1 := by omega
  go_wp2_with fail
  rw [unhide HV2]
  clear hne f0 o0 o1 o2 o3 x0 x1 x2 x3 HX1 HZ1 HO1 TZ1 TO1 UR1 OR1
  refine (In.toS _ cs _ _ hc ((unhide HI).below (unhide HB2))).mono ?_
  rintro e V3 ⟨g2, rfl, d3, lg, l3, u3⟩
  have HB3 := hide ((unhide HB2).trans (d3.mono (unhide HB2).size))
  have hq3 := d3.size
  have HX3 := hide ((unhide HX2).below d3)
  have HZ3 := hide ((unhide HZ2).below d3)
  have HO3 := hide ((unhide HO2).below d3)
  have TZ3 := hide (there_under (unhide TZ2) d3 (unhide HZ2).lt)
  have TO3 := hide (there_under (unhide TO2) d3 (unhide HO2).lt)
  have UR3 := hide ((unhide UR2).under d3 (by omega))
  have OR3 := hide ((unhide OR2).below d3)
  clear HX2 HZ2 HO2 TZ2 TO2 UR2 OR2
  have UI3 := hide u3
  clear u3 d3
  obtain ⟨V4, hV4⟩ : ∃ V, (V3.setCell ⟨w.heap.size + 1 + 1, 1, none⟩ (.slice (some ⟨g2, 0, none⟩) cs.length cs.length)) = V := ⟨_, rfl⟩
  have HB4 : Hid (Below w.heap.size w V4) := hide (by rw [← hV4]; exact (unhide HB3).setCell (p := ⟨w.heap.size + 1 + 1, 1, none⟩) (by show w.heap.size ≤ w.heap.size + 1 + 1; omega) _)
  have HX4 : Hid (NB V4 w.heap.size (.slice a ms.length ca) (.slice b cs.length cb) (.slice d fs.length cd) t) := hide (by rw [← hV4]; exact (unhide HX3).other (by show w.heap.size ≠ w.heap.size + 1 + 1; omega) _)
  have HZ4 : Hid (NB V4 (w.heap.size + 1) (.slice none 0 0) (.slice none 0 0) (.slice none 0 0) 0) := hide (by rw [← hV4]; exact (unhide HZ3).other (by show (w.heap.size + 1) ≠ w.heap.size + 1 + 1; omega) _)
  have HO4 : Hid (NB V4 (w.heap.size + 1 + 1) (.slice (some ⟨V0.heap.size, 0, none⟩) ms.length ms.length) (.slice (some ⟨g2, 0, none⟩) cs.length cs.length) (.slice none 0 0) 0) := hide (by rw [← hV4]; exact (unhide HO3).set1 _)
  have TZ4 : Hid (V4.there (w.heap.size + 1) 0 4) := hide (by rw [← hV4]; exact there_at (unhide TZ3))
  have TO4 : Hid (V4.there (w.heap.size + 1 + 1) 0 4) := hide (by rw [← hV4]; exact there_at (unhide TO3))
  have hq4 : V4.heap.size = V3.heap.size := by rw [← hV4]; simp [World.setCell]
  have UR4 : Hid (UpN V4 V0.heap.size ms.length ms.length ms qs) := hide (by rw [← hV4]; exact (unhide UR3).block (Below.heap_setCell _ _ _ _ (by show V0.heap.size ≠ w.heap.size + 1 + 1; omega)))
  have OR4 : Hid (OwN V4 (V0.heap.size + 1) V1.heap.size ms.length ms qs) := hide (by rw [← hV4]; exact (unhide OR3).set (.inl (by show w.heap.size + 1 + 1 < V0.heap.size + 1; omega)))
  have UI4 : Hid (In.Upto V4 g2 cs.length cs.length cs) := hide (by rw [← hV4]; exact (unhide UI3).of_block (Below.heap_setCell _ _ _ _ (by show g2 ≠ w.heap.size + 1 + 1; omega)))
  have HV4 := hide hV4
  clear hV4
  have f1 := free_at (unhide TO3) (k := 1) (by omega)
  obtain ⟨o0, o1, o2, o3⟩ := unhide HO3
  obtain ⟨x0, x1, x2, x3⟩ := unhide HX3
  have hne : ¬ w.heap.size = w.heap.size + 1 + 1 := by omega
  go_wp2_with fail
  rw [unhide HV4]
  clear hne f1 o0 o1 o2 o3 x0 x1 x2 x3 HX3 HZ3 HO3 TZ3 TO3 UR3 OR3 UI3
  refine (Fm.toS _ fs _ _ hf ((unhide HF).below (unhide HB4))).mono ?_
  rintro e V5 ⟨g3, rfl, d5, lg5, l5, u5⟩
  have HB5 := hide ((unhide HB4).trans (d5.mono (unhide HB4).size))
  have hq5 := d5.size
  have HX5 := hide ((unhide HX4).below d5)
  have HZ5 := hide ((unhide HZ4).below d5)
  have HO5 := hide ((unhide HO4).below d5)
  have TZ5 := hide (there_under (unhide TZ4) d5 (unhide HZ4).lt)
  have TO5 := hide (there_under (unhide TO4) d5 (unhide HO4).lt)
  have UR5 := hide ((unhide UR4).under d5 (by omega))
  have OR5 := hide ((unhide OR4).below d5)
  have UI5 := hide ((unhide UI4).below d5 (by omega))
  clear HX4 HZ4 HO4 TZ4 TO4 UR4 OR4 UI4
  have UF5 := hide u5
  clear u5 d5
  obtain ⟨V6, hV6⟩ : ∃ V, (V5.setCell ⟨w.heap.size + 1 + 1, 2, none⟩ (.slice (some ⟨g3, 0, none⟩) fs.length fs.length)) = V := ⟨_, rfl⟩
  have HB6 : Hid (Below w.heap.size w V6) := hide (by rw [← hV6]; exact (unhide HB5).setCell (p := ⟨w.heap.size + 1 + 1, 2, none⟩) (by show w.heap.size ≤ w.heap.size + 1 + 1; omega) _)
  have HX6 : Hid (NB V6 w.heap.size (.slice a ms.length ca) (.slice b cs.length cb) (.slice d fs.length cd) t) := hide (by rw [← hV6]; exact (unhide HX5).other (by show w.heap.size ≠ w.heap.size + 1 + 1; omega) _)
  have HZ6 : Hid (NB V6 (w.heap.size + 1) (.slice none 0 0) (.slice none 0 0) (.slice none 0 0) 0) := hide (by rw [← hV6]; exact (unhide HZ5).other (by show (w.heap.size + 1) ≠ w.heap.size + 1 + 1; omega) _)
  have HO6 : Hid (NB V6 (w.heap.size + 1 + 1) (.slice (some ⟨V0.heap.size, 0, none⟩) ms.length ms.length) (.slice (some ⟨g2, 0, none⟩) cs.length cs.length) (.slice (some ⟨g3, 0, none⟩) fs.length fs.length) 0) := hide (by rw [← hV6]; exact (unhide HO5).set2 _)
  have TZ6 : Hid (V6.there (w.heap.size + 1) 0 4) := hide (by rw [← hV6]; exact there_at (unhide TZ5))
  have TO6 : Hid (V6.there (w.heap.size + 1 + 1) 0 4) := hide (by rw [← hV6]; exact there_at (unhide TO5))
  have hq6 : V6.heap.size = V5.heap.size := by rw [← hV6]; simp [World.setCell]
  have UR6 : Hid (UpN V6 V0.heap.size ms.length ms.length ms qs) := hide (by rw [← hV6]; exact (unhide UR5).block (Below.heap_setCell _ _ _ _ (by show V0.heap.size ≠ w.heap.size + 1 + 1; omega)))
  have OR6 : Hid (OwN V6 (V0.heap.size + 1) V1.heap.size ms.length ms qs) := hide (by rw [← hV6]; exact (unhide OR5).set (.inl (by show w.heap.size + 1 + 1 < V0.heap.size + 1; omega)))
  have UI6 : Hid (In.Upto V6 g2 cs.length cs.length cs) := hide (by rw [← hV6]; exact (unhide UI5).of_block (Below.heap_setCell _ _ _ _ (by show g2 ≠ w.heap.size + 1 + 1; omega)))
  have UF6 : Hid (Fm.Upto V6 g3 fs.length fs.length fs) := hide (by rw [← hV6]; exact (unhide UF5).of_block (Below.heap_setCell _ _ _ _ (by show g3 ≠ w.heap.size + 1 + 1; omega)))
  have HV6 := hide hV6
  clear hV6
  have f2 := free_at (unhide TO5) (k := 2) (by omega)
  obtain ⟨o0, o1, o2, o3⟩ := unhide HO5
  obtain ⟨x0, x1, x2, x3⟩ := unhide HX5
  have hne : ¬ w.heap.size = w.heap.size + 1 + 1 := by omega
  have f3 := free_at (unhide TO5) (k := 3) (by omega)
  have TZ7 := hide (there_at (p := ⟨w.heap.size + 1 + 1, 3, none⟩) (v := .int .i64 t) (unhide TZ6))
  have HO7 := hide ((unhide HO6).set3 t)
  have HB7 := hide ((unhide HB6).setCell (p := ⟨w.heap.size + 1 + 1, 3, none⟩) (by show w.heap.size ≤ w.heap.size + 1 + 1; omega) (.int .i64 t))
  have UR7 := hide ((unhide UR6).block (Below.heap_setCell V6 ⟨w.heap.size + 1 + 1, 3, none⟩ (.int .i64 t) _ (by show V0.heap.size ≠ w.heap.size + 1 + 1; omega)))
  have OR7 := hide ((unhide OR6).set (p := ⟨w.heap.size + 1 + 1, 3, none⟩) (v := .int .i64 t) (.inl (by show w.heap.size + 1 + 1 < V0.heap.size + 1; omega)))
  have UI7 := hide ((unhide UI6).of_block (Below.heap_setCell V6 ⟨w.heap.size + 1 + 1, 3, none⟩ (.int .i64 t) _ (by show g2 ≠ w.heap.size + 1 + 1; omega)))
  have UF7 := hide ((unhide UF6).of_block (Below.heap_setCell V6 ⟨w.heap.size + 1 + 1, 3, none⟩ (.int .i64 t) _ (by show g3 ≠ w.heap.size + 1 + 1; omega)))
  have hq7 : (V6.setCell ⟨w.heap.size + 1 + 1, 3, none⟩ (.int .i64 t)).heap.size = V6.heap.size := by simp [World.setCell]
  obtain ⟨V7, hV7⟩ : ∃ V, V6.setCell ⟨w.heap.size + 1 + 1, 3, none⟩ (.int .i64 t) = V := ⟨_, rfl⟩
  rw [hV7] at TZ7 HO7 HB7 UR7 OR7 UI7 UF7 hq7
  have HV7 := hide hV7
  clear hV7 f3
  go_upto_region 5 with fail
  rw [unhide HV6]
  clear f2 o0 o1 o2 o3 x0 x1 x2 x3
  obtain ⟨o0, o1, o2, o3⟩ := unhide HO6
  obtain ⟨x0, x1, x2, x3⟩ := unhide HX6
  have f3 := free_at (unhide TO6) (k := 3) (by omega)
  go_upto_region 6 with fail
  rw [unhide HV7]
  clear f3 o0 o1 o2 o3 x0 x1 x2 x3 hne
  obtain ⟨o0, o1, o2, o3⟩ := unhide HO7
  go_wp2_with (refine storeNB _ _ rfl rfl rfl rfl rfl (unhide TZ7) rfl rfl ?_; intro V8 n8 t8 bb8 s8 k8)
  clear o0 o1 o2 o3 t8
  refine bodyPost_ret (v := .agg #[.slice (some ⟨V0.heap.size, 0, none⟩) ms.length ms.length, .slice (some ⟨g2, 0, none⟩) cs.length cs.length, .slice (some ⟨g3, 0, none⟩) fs.length fs.length, .int .i64 t]) (resultsN rfl _ _ rfl n8) rfl ⟨V0.heap.size, g2, g3, qs, rfl, bb8 _ _ (unhide HB7) (by omega), V1.heap.size, by omega, hr1, by omega, by omega, by omega, Nat.le_refl _, ⟨unhide HQL, unhide HAD⟩, (unhide UR7).block (k8 _ (by omega)), (unhide OR7).but (Lo := w.heap.size + 1) (Hi := w.heap.size + 1 + 1) (Nat.le_of_eq s8.symm) (fun k _ hk => k8 k (by omega)) (.inr (by omega)), (unhide UI7).of_block (k8 _ (by omega)), (unhide UF7).of_block (k8 _ (by omega))⟩
end Nt
end Go.Proofs.YthfcigfgpimimaaGreat
namespace Go.Proofs.YthfcigfgpimimaaGreat
open Go.ChangeShapes Go.WideShapes Go.ChangeAt Go.RowKit
set_option linter.unusedVariables false
set_option linter.unusedSimpArgs false
set_option maxRecDepth 100000
attribute [local go_sem ↓] Go.wp_at_zero Go.wp_at_succ
namespace Nt
open W1 Rt
/-- How many bytes the frames have. -/
def totF : List Fm.R → Int
  | [] => 0
  | m :: r => (m.bs.size : Int) + totF r
theorem totF_nonneg : ∀ fs : List Fm.R, 0 ≤ totF fs
  | [] => Int.le_refl _
  | m :: r => by have := totF_nonneg r; unfold totF; omega
theorem totF_append (a b : List Fm.R) : totF (a ++ b) = totF a + totF b := by
  induction a with
  | nil => simp [totF]
  | cons m r ih => simp only [List.cons_append, totF, ih]; omega
theorem totF_take {fs : List Fm.R} {j : Nat} (h : j < fs.length) : totF (fs.take (j + 1)) = totF (fs.take j) + ((fs.getD j Fm.R.zero).bs.size : Int) := by
  rw [take_snoc Fm.R.zero h, totF_append]; simp [totF]
set_option maxHeartbeats 8000000 in
theorem szNS (a : Option Addr) (ms : List Rm) (ps : List Pl) (cap : Nat) (L : Int) (w : World) (hL : 0 ≤ L) (hL1 : L ≤ 1048576) (hm : ms.length ≤ maxLen) (hs : ∀ i, i < ms.length → Sx (ms.getD i Rm.zero)) (hr : NR w a ms ps) :
    Calls Tryz.prog 14 #[.slice a ms.length cap, .int .i64 L] w fun e w' => ∃ r : Int, e = .returned (.int .i64 r) ∧ Below w.heap.size w w' ∧ (r < 0 ∨ (0 ≤ r ∧ r = L - ms.length - tot ms)) := by
  unfold maxLen at hm
  have HR := hide hr
  have HS := hide hs
  clear hr hs
  obtain ⟨n, hN⟩ : ∃ n, ms.length = n := ⟨_, rfl⟩
  rw [hN] at hm ⊢
  have HN := hide hN
  have HTT := hide (show tot (ms.take ms.length) = tot ms by rw [List.take_length])
  rw [hN] at HTT
  clear hN
  obtain ⟨T, hT⟩ : ∃ T, tot ms = T := ⟨_, rfl⟩
  rw [hT] at HTT ⊢
  have HT := hide hT
  clear hT
  by_cases h0 : L - n < 0
  · go_enter Tryz.func14, Tryz.ntmps14
    go_wp2
    go_ret
    exact ⟨_, rfl, Below.refl _ _, .inl (by omega)⟩
  obtain ⟨M, hM⟩ : ∃ M, L - (n : Int) = M := ⟨_, rfl⟩
  have HM := hide hM
  have hM0 : 0 ≤ M := by omega
  have hM1 : M ≤ 1048576 := by omega
  have h0' : ¬ M < 0 := by omega
  clear h0
  go_enter Tryz.func14, Tryz.ntmps14
  go_wp2_with fail
  try rw [hM]
  go_wp2_with fail
  clear hM h0'
  go_loopw [1, 5] (fun r i wr => ∃ j : Nat, j ≤ n ∧ i = .int .i64 j ∧ ∃ q : Int, r = .int .i64 q ∧ 0 ≤ q ∧ q ≤ 1048576 ∧ Hid (q = M - tot (ms.take j)) ∧ Hid (Below w.heap.size w wr)) (fun _ i _ => n - (intOf i).toNat)
  case atStart => exact ⟨0, by omega, rfl, M, rfl, hM0, hM1, hide (by simp [tot]), hide (Below.refl _ _)⟩
  case round =>
    obtain ⟨j, hj, rfl, q, rfl, hq0, hq1, hq, hbl⟩ := hrel
    by_cases hlt : (j : Int) < (n : Int)
    · have k0 : (0 : Int) ≤ (j : Int) := by omega
      have hlen : j < ms.length := by rw [unhide HN]; omega
      obtain ⟨g, off, rfl, hA, hD⟩ := ((unhide HR).below (unhide hbl)).at hlen
      have HA := hide hA
      have HX := hide ((unhide HS) j hlen)
      have HTK := hide (tot_take hlen)
      clear hlen hA hD
      generalize ms.getD j Rm.zero = m at *
      generalize ps.getD j Pl.zero = p at *
      go_wp2_with (refine loadW _ rfl rfl (unhide HA) rfl ?_)
      refine (szN m p q _ hq0 hq1 (unhide HX)).mono ?_
      rintro e w1 ⟨r, rfl, b1, hr⟩
      have HB1 := hide ((unhide hbl).trans (b1.mono (unhide hbl).size))
      have hc := cnt_nonneg m
      rcases hr with hr | ⟨hr0, hr1⟩
      · clear b1 HA HX HTK hc
        go_wp2_with fail
        go_ret
        exact ⟨_, rfl, unhide HB1, .inl (by omega)⟩
      · have HQ : Hid (r = M - tot (ms.take (j + 1))) := hide (by have := unhide hq; have := unhide HTK; omega)
        have hrn : ¬ r < 0 := by omega
        have hrm : r ≤ 1048576 := by omega
        clear b1 HA HX HTK hc hr1 hq
        go_wp2_with fail
        go_roundw
        case rel => exact ⟨j + 1, by omega, by go_num, r, rfl, hr0, hrm, HQ, HB1⟩
        case measure => simp [intOf]; omega
    · obtain rfl : j = n := by omega
      go_wp2_with fail
      go_ret
      exact ⟨_, rfl, unhide hbl, .inr ⟨hq0, by have := unhide hq; have := unhide HTT; have := unhide HM; omega⟩⟩
set_option maxHeartbeats 1000000 in
theorem szF (fr tt ti : Int) (bs : ByteArray) (L : Int) (w : World) (hL : 0 ≤ L) (hL1 : L ≤ 1048576) (hz : bs.size ≤ maxLen) :
    Calls Tryz.prog 35 #[.agg #[.int .i64 fr, .int .i64 tt, .int .i64 ti, .string bs], .int .i64 L] w fun e w' => ∃ r : Int, e = .returned (.int .i64 r) ∧ Below w.heap.size w w' ∧ (r < 0 ∨ (0 ≤ r ∧ r = L - bs.size)) := by
  unfold maxLen at hz
  by_cases h0 : L - bs.size < 0
  all_goals
    go_enter Tryz.func35, Tryz.ntmps35
    go_wp2
    go_ret
  · exact ⟨_, rfl, (Below.refl _ _).alloc (Nat.le_refl _) _, .inl (by omega)⟩
  · exact ⟨_, rfl, (Below.refl _ _).alloc (Nat.le_refl _) _, .inr ⟨by omega, rfl⟩⟩
set_option maxHeartbeats 8000000 in
theorem szFS (a : Option Addr) (fs : List Fm.R) (cap : Nat) (L : Int) (w : World) (hL : 0 ≤ L) (hL1 : L ≤ 1048576) (hm : fs.length ≤ maxLen) (hs : ∀ i, i < fs.length → (fs.getD i Fm.R.zero).bs.size ≤ maxLen) (hr : Fm.RM w a fs) :
    Calls Tryz.prog 16 #[.slice a fs.length cap, .int .i64 L] w fun e w' => ∃ r : Int, e = .returned (.int .i64 r) ∧ Below w.heap.size w w' ∧ (r < 0 ∨ (0 ≤ r ∧ r = L - fs.length - totF fs)) := by
  unfold maxLen at hm
  have HR := hide hr
  have HS := hide hs
  clear hr hs
  obtain ⟨n, hN⟩ : ∃ n, fs.length = n := ⟨_, rfl⟩
  rw [hN] at hm ⊢
  have HN := hide hN
  have HTT := hide (show totF (fs.take fs.length) = totF fs by rw [List.take_length])
  rw [hN] at HTT
  clear hN
  obtain ⟨T, hT⟩ : ∃ T, totF fs = T := ⟨_, rfl⟩
  rw [hT] at HTT ⊢
  have HT := hide hT
  clear hT
  by_cases h0 : L - n < 0
  · go_enter Tryz.func16, Tryz.ntmps16
    go_wp2
    go_ret
    exact ⟨_, rfl, Below.refl _ _, .inl (by omega)⟩
  obtain ⟨M, hM⟩ : ∃ M, L - (n : Int) = M := ⟨_, rfl⟩
  have HM := hide hM
  have hM0 : 0 ≤ M := by omega
  have hM1 : M ≤ 1048576 := by omega
  have h0' : ¬ M < 0 := by omega
  clear h0
  go_enter Tryz.func16, Tryz.ntmps16
  go_wp2_with fail
  try rw [hM]
  go_wp2_with fail
  clear hM h0'
  go_loopw [1, 5] (fun r i wr => ∃ j : Nat, j ≤ n ∧ i = .int .i64 j ∧ ∃ q : Int, r = .int .i64 q ∧ 0 ≤ q ∧ q ≤ 1048576 ∧ Hid (q = M - totF (fs.take j)) ∧ Hid (Below w.heap.size w wr)) (fun _ i _ => n - (intOf i).toNat)
  case atStart => exact ⟨0, by omega, rfl, M, rfl, hM0, hM1, hide (by simp [totF]), hide (Below.refl _ _)⟩
  case round =>
    obtain ⟨j, hj, rfl, q, rfl, hq0, hq1, hq, hbl⟩ := hrel
    by_cases hlt : (j : Int) < (n : Int)
    · have k0 : (0 : Int) ≤ (j : Int) := by omega
      have hlen : j < fs.length := by rw [unhide HN]; omega
      rcases (unhide HR).below (by exact (unhide hbl)) with e0 | ⟨g, off, rfl, hc⟩
      · exfalso; rw [e0] at hlen; simp at hlen
      have hA := hc j hlen
      have HX := hide ((unhide HS) j hlen)
      have HTK := hide (totF_take hlen)
      clear hlen hc
      generalize fs.getD j Fm.R.zero = m at *
      obtain ⟨fr, tt, ti, bs⟩ := m
      obtain ⟨c0, c1, c2, c3⟩ := hA
      dsimp only at c0 c1 c2 c3 HX HTK
      go_wp2_with fail
      refine (szF fr tt ti bs q _ hq0 hq1 (unhide HX)).mono ?_
      rintro e w1 ⟨r, rfl, b1, hr⟩
      clear c0 c1 c2 c3
      have HB1 := hide ((unhide hbl).trans (b1.mono (unhide hbl).size))
      rcases hr with hr | ⟨hr0, hr1⟩
      · clear b1 HX HTK
        go_wp2_with fail
        go_ret
        exact ⟨_, rfl, unhide HB1, .inl (by omega)⟩
      · have HQ : Hid (r = M - totF (fs.take (j + 1))) := hide (by have := unhide hq; have := unhide HTK; omega)
        have hrn : ¬ r < 0 := by omega
        have hrm : r ≤ 1048576 := by omega
        clear b1 HX HTK hr1 hq
        go_wp2_with fail
        go_roundw
        case rel => exact ⟨j + 1, by omega, by go_num, r, rfl, hr0, hrm, HQ, HB1⟩
        case measure => simp [intOf]; omega
    · obtain rfl : j = n := by omega
      go_wp2_with fail
      go_ret
      exact ⟨_, rfl, unhide hbl, .inr ⟨hq0, by have := unhide hq; have := unhide HTT; have := unhide HM; omega⟩⟩
set_option maxHeartbeats 1000000 in
theorem szI (a : Option Addr) (n cap : Nat) (L : Int) (w : World) (hL : 0 ≤ L) (hL1 : L ≤ 1048576) (hm : n ≤ maxLen) :
    Calls Tryz.prog 15 #[.slice a n cap, .int .i64 L] w fun e w' => ∃ r : Int, e = .returned (.int .i64 r) ∧ w' = w ∧ (r < 0 ∨ (0 ≤ r ∧ r = L - n)) := by
  unfold maxLen at hm
  by_cases h0 : L - n < 0
  all_goals
    go_enter Tryz.func15, Tryz.ntmps15
    go_wp2
    go_ret
  · exact ⟨_, rfl, rfl, .inl (by omega)⟩
  · exact ⟨_, rfl, rfl, .inr ⟨by omega, rfl⟩⟩
set_option maxHeartbeats 8000000 in
theorem szNt (a b d : Option Addr) (ca cb cd : Nat) (t : Int) (ms : List Rm) (ps : List Pl) (cs : List Int) (fs : List Fm.R) (L : Int) (w : World) (hL : 0 ≤ L) (hL1 : L ≤ 1048576) (hm : ms.length ≤ maxLen) (hc : cs.length ≤ maxLen) (hf : fs.length ≤ maxLen) (hs : ∀ i, i < ms.length → Sx (ms.getD i Rm.zero)) (hg : ∀ i, i < fs.length → (fs.getD i Fm.R.zero).bs.size ≤ maxLen) (hr : NR w a ms ps) (hz : Fm.RM w d fs) :
    Calls Tryz.prog 4 #[.agg #[.slice a ms.length ca, .slice b cs.length cb, .slice d fs.length cd, .int .i64 t], .int .i64 L] w fun e w' => ∃ r : Int, e = .returned (.int .i64 r) ∧ Below w.heap.size w w' ∧ (r < 0 ∨ (0 ≤ r ∧ r = L - ms.length - tot ms - cs.length - fs.length - totF fs)) := by
  have b0 := bel_new w (.cells #[.slice a ms.length ca, .slice b cs.length cb, .slice d fs.length cd, .int .i64 t] 26)
  have HX0 := hide (nb_new w (.slice a ms.length ca) (.slice b cs.length cb) (.slice d fs.length cd) t 26)
  have HR := hide (hr.below b0)
  have HZ := hide (hz.below b0)
  have HB0 := hide b0
  have HS := hide hs
  have HG := hide hg
  have t0 := tot_nonneg ms
  clear b0 hr hz hs hg
  go_enter Tryz.func4, Tryz.ntmps4
  go_wp2_with fail
  generalize w.alloc (.cells #[.slice a ms.length ca, .slice b cs.length cb, .slice d fs.length cd, .int .i64 t] 26) = w0 at *
  refine (szNS _ ms ps _ L _ hL hL1 hm (unhide HS) (unhide HR)).mono ?_
  rintro e w1 ⟨r1, rfl, b1, h1⟩
  have HB1 := hide ((unhide HB0).trans (b1.mono (unhide HB0).size))
  have HX1 := hide ((unhide HX0).below b1)
  have HZ1 := hide ((unhide HZ).below b1)
  clear HB0 HX0 HZ HR b1
  rcases h1 with h1 | ⟨h1, h1'⟩
  · go_wp2_with fail
    go_ret
    exact ⟨_, rfl, unhide HB1, .inl (by omega)⟩
  have hn1 : ¬ r1 < 0 := by omega
  have hu1 : r1 ≤ 1048576 := by omega
  have HE1 := hide h1'
  clear h1'
  obtain ⟨p0, p1, p2, p3⟩ := unhide HX1
  go_wp2_with fail
  clear p0 p1 p2 p3
  refine (szI _ _ _ r1 _ h1 hu1 hc).mono ?_
  rintro e w2 ⟨r2, rfl, hw2, h2⟩
  subst hw2
  rcases h2 with h2 | ⟨h2, h2'⟩
  · go_wp2_with fail
    go_ret
    exact ⟨_, rfl, unhide HB1, .inl (by omega)⟩
  have hn2 : ¬ r2 < 0 := by omega
  have hu2 : r2 ≤ 1048576 := by omega
  have HE2 := hide h2'
  clear h2'
  obtain ⟨p0, p1, p2, p3⟩ := unhide HX1
  go_wp2_with fail
  clear p0 p1 p2 p3
  refine (szFS _ fs _ r2 _ h2 hu2 hf (unhide HG) (unhide HZ1)).mono ?_
  rintro e w3 ⟨r3, rfl, b3, h3⟩
  have HB3 := hide ((unhide HB1).trans (b3.mono (unhide HB1).size))
  clear HB1 HX1 HZ1 b3
  rcases h3 with h3 | ⟨h3, h3'⟩
  · go_wp2_with fail
    go_ret
    exact ⟨_, rfl, unhide HB3, .inl (by omega)⟩
  have hn3 : ¬ r3 < 0 := by omega
  have HE3 := hide h3'
  clear h3'
  go_wp2_with fail
  go_ret
  exact ⟨_, rfl, unhide HB3, .inr ⟨h3, by have := unhide HE1; have := unhide HE2; have := unhide HE3; omega⟩⟩
end Nt
end Go.Proofs.YthfcigfgpimimaaGreat
namespace Go.Proofs.YthfcigfgpimimaaGreat
open Go.ChangeShapes Go.WideShapes Go.ChangeAt Go.RowKit
set_option linter.unusedVariables false
set_option linter.unusedSimpArgs false
set_option maxRecDepth 100000
attribute [local go_sem ↓] Go.wp_at_zero Go.wp_at_succ
namespace Nt
open W1 Rt
def mkK (m : Rm) : Int := 6 + (6 * (m.ls.length : Int) + 3 * (m.tw.length : Int) + 3 * (m.se.length : Int) + 3 * (m.du.length : Int) + 3 * (m.ss.length : Int) + 3 * (m.es.length : Int) + 2 * (m.la.length : Int))
/-- A router's marks: its first number is q, its lists' marks begin at r0 to r6, its last number is r7. -/
def mkR (m : Rm) (q r0 r1 r2 r3 r4 r5 r6 r7 : Int) : Rm := ⟨q, q + 1, q + 1 + 1, q + 1 + 1 + 1, q + 1 + 1 + 1 + 1, r7, Lk.marks r0 m.ls.length, Tu.marks r1 m.tw.length, Tu.marks r2 m.se.length, Tu.marks r3 m.du.length, So.marks r4 m.ss.length, Tu.marks r5 m.es.length, Ed.marks r6 m.la.length⟩
def mk5 (m : Rm) (q : Int) : Rm := ⟨q, q + 1, q + 1 + 1, q + 1 + 1 + 1, q + 1 + 1 + 1 + 1, m.x6, m.ls, m.tw, m.se, m.du, m.ss, m.es, m.la⟩
def mkM (m : Rm) (q : Int) : Rm := mkR m q (q + 1 + 1 + 1 + 1 + 1) ((q + 1 + 1 + 1 + 1 + 1) + 6 * (m.ls.length : Int)) (((q + 1 + 1 + 1 + 1 + 1) + 6 * (m.ls.length : Int)) + 3 * (m.tw.length : Int)) ((((q + 1 + 1 + 1 + 1 + 1) + 6 * (m.ls.length : Int)) + 3 * (m.tw.length : Int)) + 3 * (m.se.length : Int)) (((((q + 1 + 1 + 1 + 1 + 1) + 6 * (m.ls.length : Int)) + 3 * (m.tw.length : Int)) + 3 * (m.se.length : Int)) + 3 * (m.du.length : Int)) ((((((q + 1 + 1 + 1 + 1 + 1) + 6 * (m.ls.length : Int)) + 3 * (m.tw.length : Int)) + 3 * (m.se.length : Int)) + 3 * (m.du.length : Int)) + 3 * (m.ss.length : Int)) (((((((q + 1 + 1 + 1 + 1 + 1) + 6 * (m.ls.length : Int)) + 3 * (m.tw.length : Int)) + 3 * (m.se.length : Int)) + 3 * (m.du.length : Int)) + 3 * (m.ss.length : Int)) + 3 * (m.es.length : Int)) ((((((((q + 1 + 1 + 1 + 1 + 1) + 6 * (m.ls.length : Int)) + 3 * (m.tw.length : Int)) + 3 * (m.se.length : Int)) + 3 * (m.du.length : Int)) + 3 * (m.ss.length : Int)) + 3 * (m.es.length : Int)) + 2 * (m.la.length : Int))
theorem rA_end (m : Rm) (q : Int) : ((((((((q + 1 + 1 + 1 + 1 + 1) + 6 * (m.ls.length : Int)) + 3 * (m.tw.length : Int)) + 3 * (m.se.length : Int)) + 3 * (m.du.length : Int)) + 3 * (m.ss.length : Int)) + 3 * (m.es.length : Int)) + 2 * (m.la.length : Int)) + 1 = q + mkK m := by unfold mkK; omega
theorem mkK_pos (m : Rm) : 6 ≤ mkK m := by unfold mkK; omega
def sumK (ms : List Rm) : Nat → Int
  | 0 => 0
  | j + 1 => sumK ms j + mkK (ms.getD j Rm.zero)
theorem sumK_pos (ms : List Rm) : ∀ j, 0 ≤ sumK ms j
  | 0 => Int.le_refl _
  | j + 1 => by have := sumK_pos ms j; have := mkK_pos (ms.getD j Rm.zero); simp only [sumK]; omega
theorem sumK_le (ms : List Rm) (j : Nat) : ∀ k, sumK ms j ≤ sumK ms (j + k)
  | 0 => Int.le_refl _
  | k + 1 => by have := sumK_le ms j k; have := mkK_pos (ms.getD (j + k) Rm.zero); rw [show j + (k + 1) = (j + k) + 1 by omega]; simp only [sumK]; omega
/-- The heap but an interval is as it was. -/
def Kp (v w : World) (p q : Nat) : Prop := v.heap.size ≤ w.heap.size ∧ ∀ k, k < v.heap.size → (k < p ∨ q ≤ k) → w.heap[k]? = v.heap[k]?
/-- The routers when j of them are marked. -/
def mkA (ms : List Rm) (K : Int) (j i : Nat) : Rm := if i < j then mkM (ms.getD i Rm.zero) (K + sumK ms i) else ms.getD i Rm.zero
theorem mkA_here (ms : List Rm) (K : Int) (j : Nat) : mkA ms K j j = ms.getD j Rm.zero := by unfold mkA; rw [if_neg (by omega)]
theorem mkA_else (ms : List Rm) (K : Int) {j i : Nat} (h : i ≠ j) : mkA ms K (j + 1) i = mkA ms K j i := by
  unfold mkA
  by_cases e : i < j
  · rw [if_pos e, if_pos (by omega)]
  · rw [if_neg e, if_neg (by omega)]
theorem mkA_next (ms : List Rm) (K : Int) (j : Nat) : mkA ms K (j + 1) j = mkM (ms.getD j Rm.zero) (K + sumK ms j) := by unfold mkA; rw [if_pos (by omega)]
/-- Routers in a row at block g, their lists between f i and f (i + 1). -/
def MkS (w : World) (g n : Nat) (f : Nat → Nat) (M : Nat → Rm) (Q : Nat → Pl) : Prop := (∀ i, i < n → w.rangeAt g (i * 13) (cl (M i) (Q i))) ∧ w.there g 0 (n * 13) ∧ ∀ i, i < n → Ow w (f i) (f (i + 1)) (M i) (Q i)
theorem rng_set {w : World} {g o c : Nat} {cs : List Value} {v : Value} (h : w.rangeAt g o cs) (hc : c < cs.length) : (w.setCell ⟨g, o + c, none⟩ v).rangeAt g o (cs.set c v) := fun j u hu => by
  by_cases e : j = c
  · subst e
    have h1 : (cs.set j v)[j]? = some v := by simp [hc]
    rw [h1] at hu; cases hu
    have := h j (cs[j]) (by simp [hc])
    exact World.cell?_setCell_same _ _ _ this
  · rw [World.cell?_setCell_other _ _ _ _ (by intro h; injection h with _ h2 _; omega)]
    exact h j u (by rw [List.getElem?_set_ne (fun h => e h.symm)] at hu; exact hu)
theorem rng_off {w : World} {g o p : Nat} {cs : List Value} {v : Value} (h : w.rangeAt g o cs) (hp : p < o ∨ o + cs.length ≤ p) : (w.setCell ⟨g, p, none⟩ v).rangeAt g o cs := fun j u hu => by
  have hj : j < cs.length := (List.getElem?_eq_some_iff.1 hu).1
  rw [World.cell?_setCell_other _ _ _ _ (by intro h; injection h with _ h2 _; omega)]
  exact h j u hu
theorem ow_same {w : World} {lo hi : Nat} {m m' : Rm} {p : Pl} (h : Ow w lo hi m p) (e : m'.ls = m.ls ∧ m'.tw = m.tw ∧ m'.se = m.se ∧ m'.du = m.du ∧ m'.ss = m.ss ∧ m'.es = m.es ∧ m'.la = m.la) : Ow w lo hi m' p := by
  obtain ⟨e1, e2, e3, e4, e5, e6, e7⟩ := e
  unfold Ow at h ⊢
  rw [e1, e2, e3, e4, e5, e6, e7]; exact h
/-- A cell of one router's row is written that isn't a list's. -/
theorem MkS.put {w : World} {g n j c : Nat} {f : Nat → Nat} {M : Nat → Rm} {Q : Nat → Pl} (h : MkS w g n f M Q) (hj : j < n) (hc : c < 13) {v : Value} {m' : Rm} (e : (cl (M j) (Q j)).set c v = cl m' (Q j)) (el : m'.ls = (M j).ls ∧ m'.tw = (M j).tw ∧ m'.se = (M j).se ∧ m'.du = (M j).du ∧ m'.ss = (M j).ss ∧ m'.es = (M j).es ∧ m'.la = (M j).la) (hg : ∀ i, i < n → g < f i ∨ f (i + 1) ≤ g) : MkS (w.setCell ⟨g, j * 13 + c, none⟩ v) g n f (fun i => if i = j then m' else M i) Q := by
  refine ⟨fun i hi => ?_, there_at h.2.1, fun i hi => ?_⟩
  · by_cases ei : i = j
    · subst ei
      simp only [if_true]
      rw [← e]
      exact rng_set (h.1 i hi) (by rw [cl_len]; exact hc)
    · simp only [if_neg ei]
      exact rng_off (h.1 i hi) (by rw [cl_len]; omega)
  · have ho : Ow (w.setCell ⟨g, j * 13 + c, none⟩ v) (f i) (f (i + 1)) (M i) (Q i) := (h.2.2 i hi).but (Lo := g) (Hi := g + 1) (by simp [World.setCell]) (fun k _ hk => Below.heap_setCell _ _ _ _ (by show k ≠ g; omega)) (by have := hg i hi; omega)
    by_cases ei : i = j
    · subst ei
      simp only [if_true]
      exact ow_same ho el
    · simp only [if_neg ei]; exact ho
theorem MkS.ext {w : World} {g n : Nat} {f : Nat → Nat} {M M' : Nat → Rm} {Q : Nat → Pl} (h : MkS w g n f M Q) (e : ∀ i, i < n → M' i = M i) : MkS w g n f M' Q :=
  ⟨fun i hi => by rw [e i hi]; exact h.1 i hi, h.2.1, fun i hi => by rw [e i hi]; exact h.2.2 i hi⟩
/-- One router's lists were marked, and nothing else happened. -/
theorem MkS.lists {w w' : World} {g n j : Nat} {f : Nat → Nat} {M : Nat → Rm} {Q : Nat → Pl} {m' : Rm} (h : MkS w g n f M Q) (hj : j < n) (hf : ∀ i, i < n → f i ≤ f (i + 1)) (hg : ∀ i, i < n → g < f i ∨ f (i + 1) ≤ g) (hgs : g < w.heap.size) (hs : w.heap.size ≤ w'.heap.size) (hk : ∀ k, k < w.heap.size → (k < f j ∨ f (j + 1) ≤ k) → w'.heap[k]? = w.heap[k]?) (ho : Ow w' (f j) (f (j + 1)) m' (Q j)) (e : cl m' (Q j) = cl (M j) (Q j)) : MkS w' g n f (fun i => if i = j then m' else M i) Q := by
  have hb : w'.heap[g]? = w.heap[g]? := hk g hgs (by have := hg j hj; omega)
  have cb : ∀ q, w'.cell? ⟨g, q, none⟩ = w.cell? ⟨g, q, none⟩ := fun q => World.cell?_of_block (a := ⟨g, q, none⟩) hb
  have fb : ∀ q, w'.frozen? ⟨g, q, none⟩ = w.frozen? ⟨g, q, none⟩ := fun q => World.frozen?_of_block (a := ⟨g, q, none⟩) hb
  refine ⟨fun i hi => ?_, fun k hk => by rw [cb, fb]; exact h.2.1 k hk, fun i hi => ?_⟩
  · have h1 : w'.rangeAt g (i * 13) (cl (M i) (Q i)) := fun k u hu => (cb _).trans (h.1 i hi k u hu)
    by_cases ei : i = j
    · subst ei; simp only [if_true]; rw [e]; exact h1
    · simp only [if_neg ei]; exact h1
  · by_cases ei : i = j
    · subst ei; simp only [if_true]; exact ho
    · simp only [if_neg ei]
      have up : ∀ i k, i + k ≤ n → f i ≤ f (i + k) := fun i k => by
        induction k with
        | zero => intro _; exact Nat.le_refl _
        | succ k ih => intro hk; exact Nat.le_trans (ih (by omega)) (hf (i + k) (by omega))
      refine (h.2.2 i hi).but hs hk ?_
      rcases Nat.lt_or_gt_of_ne ei with h1 | h1
      · have := up (i + 1) (j - (i + 1)) (by omega)
        rw [show i + 1 + (j - (i + 1)) = j by omega] at this
        exact .inl this
      · have := up (j + 1) (i - (j + 1)) (by omega)
        rw [show j + 1 + (i - (j + 1)) = i by omega] at this
        exact .inr this
set_option maxHeartbeats 32000000 in
theorem markNS (g n c lo hi : Nat) (f : Nat → Nat) (K : Int) (ms : List Rm) (Q : Nat → Pl) (w : World) (hn : ms.length = n) (hn8 : n ≤ 1048576) (hK : 0 ≤ K) (hK1 : K + sumK ms n ≤ 900000000) (hs : ∀ i, i < ms.length → Sm (ms.getD i Rm.zero)) (hgs : g < w.heap.size) (hlg : lo ≤ g) (hgh : g < hi) (hg : ∀ i, i < n → g < f i ∨ f (i + 1) ≤ g) (hf : ∀ i, i < n → f i ≤ f (i + 1)) (hfl : ∀ i, i < n → lo ≤ f i ∧ f (i + 1) ≤ hi ∧ f (i + 1) ≤ w.heap.size) (h : MkS w g n f (fun i => ms.getD i Rm.zero) Q) :
    Calls Tryz.prog 28 #[.slice (some ⟨g, 0, none⟩) n c, .int .i64 K] w fun e w' => e = .returned (.int .i64 (K + sumK ms n)) ∧ w.heap.size ≤ w'.heap.size ∧ Below (min lo w.heap.size) w w' ∧ MkS w' g n f (fun i => mkM (ms.getD i Rm.zero) (K + sumK ms i)) Q ∧ ∀ k, k < w.heap.size → (k < lo ∨ hi ≤ k) → w'.heap[k]? = w.heap[k]? := by
  have HM0 : Hid (MkS w g n f (mkA ms K 0) Q) := hide (h.ext (fun i _ => by unfold mkA; rw [if_neg (by omega)]))
  have HSM := hide hs
  have HN := hide hn
  have HG := hide hg
  have HF := hide hf
  have HFL := hide hfl
  clear h hs hn hg hf hfl
  go_enter Tryz.func28, Tryz.ntmps28
  go_wp2
  go_loopw [1, 5] (fun q i wr => ∃ j : Nat, j ≤ n ∧ i = .int .i64 j ∧ q = .int .i64 (K + sumK ms j) ∧ Hid (w.heap.size ≤ wr.heap.size) ∧ Hid (Below (min lo w.heap.size) w wr) ∧ Hid (MkS wr g n f (mkA ms K j) Q) ∧ Hid (∀ k, k < w.heap.size → (k < lo ∨ hi ≤ k) → wr.heap[k]? = w.heap[k]?)) (fun _ i _ => n - (intOf i).toNat)
  case atStart => exact ⟨0, by omega, rfl, by simp [sumK], hide (Nat.le_refl _), hide (Below.refl _ _), HM0, hide (fun _ _ _ => rfl)⟩
  case round =>
    clear HM0
    obtain ⟨j, hj, rfl, rfl, hsz, hbl, hmk, hot⟩ := hrel
    by_cases hlt : (j : Int) < (n : Int)
    · have k0 : (0 : Int) ≤ (j : Int) := by omega
      have hjn : j < n := by omega
      have hjl : j < ms.length := by rw [unhide HN]; exact hjn
      have HSJ := hide (unhide HSM j hjl)
      have hq0 : 0 ≤ K + sumK ms j := by have := sumK_pos ms j; omega
      have hq1 : K + sumK ms j ≤ 900000000 := by
        have := sumK_le ms j (n - j)
        rw [show j + (n - j) = n by omega] at this; omega
      have HSN : Hid (sumK ms (j + 1) = sumK ms j + mkK (ms.getD j Rm.zero)) := hide rfl
      have HHE := hide (mkA_here ms K j)
      have HNX := hide (mkA_next ms K j)
      have HEL := hide (fun i (h : i ≠ j) => mkA_else ms K (j := j) h)
      obtain ⟨qq, hqq⟩ : ∃ q, K + sumK ms j = q := ⟨_, rfl⟩
      have HQQ := hide hqq
      rw [hqq] at hq0 hq1 HNX ⊢
      have hrow := (unhide hmk).1 j hjn
      have hth := (unhide hmk).2.1
      rw [unhide HHE] at hrow
      generalize hM : mkA ms K j = M at *
      have HJ0 : Hid (M j = ms.getD j Rm.zero) := HHE
      generalize hP : Q j = p at *
      have HP := hide hP
      generalize hm : ms.getD j Rm.zero = m at *
      have hgr : g < wr.heap.size := Nat.lt_of_lt_of_le hgs (unhide hsz)
      clear hM HHE hqq hjl hP hm
      obtain ⟨x0, x1, x2, x3, x4⟩ := (⟨hrow 0 _ rfl, hrow 1 _ rfl, hrow 2 _ rfl, hrow 3 _ rfl, hrow 4 _ rfl⟩ : _ ∧ _ ∧ _ ∧ _ ∧ _)
      rw [Nat.add_zero] at x0
      obtain ⟨y0, y1, y2, y3, y4⟩ := (⟨(hth (j * 13) (by omega)).2, (hth (j * 13 + 1) (by omega)).2, (hth (j * 13 + 2) (by omega)).2, (hth (j * 13 + 3) (by omega)).2, (hth (j * 13 + 4) (by omega)).2⟩ : _ ∧ _ ∧ _ ∧ _ ∧ _)
      rw [Nat.zero_add] at y0 y1 y2 y3 y4
      have M1 := (unhide hmk).put hjn (show 0 < 13 by omega) (v := .int .i64 qq) (m' := { M j with x1 := qq }) rfl ⟨rfl, rfl, rfl, rfl, rfl, rfl, rfl⟩ (unhide HG)
      rw [Nat.add_zero] at M1
      have M2 := M1.put hjn (show 1 < 13 by omega) (v := .int .i64 (qq + 1)) (m' := { M j with x1 := qq, x2 := qq + 1 }) (by simp only [if_true]; rfl) (by simp only [if_true, and_self]) (unhide HG)
      have M3 := M2.put hjn (show 2 < 13 by omega) (v := .int .i64 (qq + 1 + 1)) (m' := { M j with x1 := qq, x2 := qq + 1, x3 := qq + 1 + 1 }) (by simp only [if_true]; rfl) (by simp only [if_true, and_self]) (unhide HG)
      have M4 := M3.put hjn (show 3 < 13 by omega) (v := .int .i64 (qq + 1 + 1 + 1)) (m' := { M j with x1 := qq, x2 := qq + 1, x3 := qq + 1 + 1, x4 := qq + 1 + 1 + 1 }) (by simp only [if_true]; rfl) (by simp only [if_true, and_self]) (unhide HG)
      have M5 := M4.put hjn (show 4 < 13 by omega) (v := .int .i64 (qq + 1 + 1 + 1 + 1)) (m' := mk5 (M j) qq) (by simp only [if_true]; rfl) (by simp only [if_true]; exact ⟨rfl, rfl, rfl, rfl, rfl, rfl, rfl⟩) (unhide HG)
      have HM5 := hide (M5.ext (M' := fun i => if i = j then mk5 m qq else M i) (fun i _ => by by_cases e : i = j <;> simp [e, unhide HJ0]))
      have HB5 := hide ((((((unhide hbl).setCell (p := ⟨g, j * 13, none⟩) (by show min lo w.heap.size ≤ g; omega) (.int .i64 qq)).setCell (p := ⟨g, j * 13 + 1, none⟩) (by show min lo w.heap.size ≤ g; omega) (.int .i64 (qq + 1))).setCell (p := ⟨g, j * 13 + 2, none⟩) (by show min lo w.heap.size ≤ g; omega) (.int .i64 (qq + 1 + 1))).setCell (p := ⟨g, j * 13 + 3, none⟩) (by show min lo w.heap.size ≤ g; omega) (.int .i64 (qq + 1 + 1 + 1))).setCell (p := ⟨g, j * 13 + 4, none⟩) (by show min lo w.heap.size ≤ g; omega) (.int .i64 (qq + 1 + 1 + 1 + 1)))
      have HZ5 : Hid (w.heap.size ≤ (((((wr.setCell ⟨g, j * 13, none⟩ (.int .i64 qq)).setCell ⟨g, j * 13 + 1, none⟩ (.int .i64 (qq + 1))).setCell ⟨g, j * 13 + 2, none⟩ (.int .i64 (qq + 1 + 1))).setCell ⟨g, j * 13 + 3, none⟩ (.int .i64 (qq + 1 + 1 + 1))).setCell ⟨g, j * 13 + 4, none⟩ (.int .i64 (qq + 1 + 1 + 1 + 1))).heap.size) := hide (by simpa [World.setCell] using unhide hsz)
      have HO5 : Hid (∀ k, k < w.heap.size → (k < lo ∨ hi ≤ k) → (((((wr.setCell ⟨g, j * 13, none⟩ (.int .i64 qq)).setCell ⟨g, j * 13 + 1, none⟩ (.int .i64 (qq + 1))).setCell ⟨g, j * 13 + 2, none⟩ (.int .i64 (qq + 1 + 1))).setCell ⟨g, j * 13 + 3, none⟩ (.int .i64 (qq + 1 + 1 + 1))).setCell ⟨g, j * 13 + 4, none⟩ (.int .i64 (qq + 1 + 1 + 1 + 1))).heap[k]? = w.heap[k]?) := hide (fun k hk h => by
        have hne : k ≠ g := by omega
        exact (Below.heap_setCell _ _ _ _ hne).trans ((Below.heap_setCell _ _ _ _ hne).trans ((Below.heap_setCell _ _ _ _ hne).trans ((Below.heap_setCell _ _ _ _ hne).trans ((Below.heap_setCell _ _ _ _ hne).trans (unhide hot k hk h))))))
      clear hrow hth M1 M2 M3 M4 M5 hmk hbl hsz hot
      go_upto_region 14 with fail
      clear x0 x1 x2 x3 x4 y0 y1 y2 y3 y4
      generalize ((((wr.setCell ⟨g, j * 13, none⟩ (.int .i64 qq)).setCell ⟨g, j * 13 + 1, none⟩ (.int .i64 (qq + 1))).setCell ⟨g, j * 13 + 2, none⟩ (.int .i64 (qq + 1 + 1))).setCell ⟨g, j * 13 + 3, none⟩ (.int .i64 (qq + 1 + 1 + 1))).setCell ⟨g, j * 13 + 4, none⟩ (.int .i64 (qq + 1 + 1 + 1 + 1)) = v0 at *
      obtain ⟨r0, hr0⟩ : ∃ r, qq + 1 + 1 + 1 + 1 + 1 = r := ⟨_, rfl⟩
      rw [hr0]
      obtain ⟨r1, hr1⟩ : ∃ r, r0 + 6 * (m.ls.length : Int) = r := ⟨_, rfl⟩
      obtain ⟨r2, hr2⟩ : ∃ r, r1 + 3 * (m.tw.length : Int) = r := ⟨_, rfl⟩
      obtain ⟨r3, hr3⟩ : ∃ r, r2 + 3 * (m.se.length : Int) = r := ⟨_, rfl⟩
      obtain ⟨r4, hr4⟩ : ∃ r, r3 + 3 * (m.du.length : Int) = r := ⟨_, rfl⟩
      obtain ⟨r5, hr5⟩ : ∃ r, r4 + 3 * (m.ss.length : Int) = r := ⟨_, rfl⟩
      obtain ⟨r6, hr6⟩ : ∃ r, r5 + 3 * (m.es.length : Int) = r := ⟨_, rfl⟩
      obtain ⟨r7, hr7⟩ : ∃ r, r6 + 2 * (m.la.length : Int) = r := ⟨_, rfl⟩
      have HMM : Hid (mkM m qq = mkR m qq r0 r1 r2 r3 r4 r5 r6 r7) := hide (by unfold mkM; subst hr7; subst hr6; subst hr5; subst hr4; subst hr3; subst hr2; subst hr1; subst hr0; rfl)
      have HEN : Hid (r7 + 1 = qq + mkK m) := hide (by have := rA_end m qq; subst hr7; subst hr6; subst hr5; subst hr4; subst hr3; subst hr2; subst hr1; subst hr0; exact this)
      obtain ⟨s1, s2, s3, s4, s5, s6, s7⟩ := unhide HSJ
      have C1 := hide (fun lo hi W h => Lk.markF p.a1 p.c1 lo hi r0 m.ls W (by omega) (by omega) (by omega) h)
      rw [hr1] at C1
      have C2 := hide (fun lo hi W h => Tu.markF p.a2 p.c2 lo hi r1 m.tw W (by omega) (by omega) (by omega) h)
      rw [hr2] at C2
      have C3 := hide (fun lo hi W h => Tu.markF p.a3 p.c3 lo hi r2 m.se W (by omega) (by omega) (by omega) h)
      rw [hr3] at C3
      have C4 := hide (fun lo hi W h => Tu.markF p.a4 p.c4 lo hi r3 m.du W (by omega) (by omega) (by omega) h)
      rw [hr4] at C4
      have C5 := hide (fun lo hi W h => So.markF p.a5 p.c5 lo hi r4 m.ss W (by omega) (by omega) (by omega) h)
      rw [hr5] at C5
      have C6 := hide (fun lo hi W h => Tu.markF p.a6 p.c6 lo hi r5 m.es W (by omega) (by omega) (by omega) h)
      rw [hr6] at C6
      have C7 := hide (fun lo hi W h => Ed.markF p.a7 p.c7 lo hi r6 m.la W (by omega) (by omega) (by omega) h)
      rw [hr7] at C7
      have hr70 : 0 ≤ r7 := by omega
      have hr71 : r7 ≤ 990000000 := by omega
      clear hr0 hr1 hr2 hr3 hr4 hr5 hr6 hr7 s1 s2 s3 s4 s5 s6 s7 HSJ
      have hfl := unhide HFL j hjn
      have hgj := unhide HG j hjn
      have hrow := (unhide HM5).1 j hjn
      have how := (unhide HM5).2.2 j hjn
      simp only [if_true] at hrow how
      rw [unhide HP] at hrow how
      have HCE : Hid (∀ W : World, W.heap[g]? = v0.heap[g]? → (W.cell? ⟨g, j * 13 + 5, none⟩ = some (.slice p.a1 m.ls.length p.c1) ∧ W.cell? ⟨g, j * 13 + 6, none⟩ = some (.slice p.a2 m.tw.length p.c2) ∧ W.cell? ⟨g, j * 13 + 7, none⟩ = some (.slice p.a3 m.se.length p.c3) ∧ W.cell? ⟨g, j * 13 + 8, none⟩ = some (.slice p.a4 m.du.length p.c4) ∧ W.cell? ⟨g, j * 13 + 9, none⟩ = some (.slice p.a5 m.ss.length p.c5) ∧ W.cell? ⟨g, j * 13 + 10, none⟩ = some (.slice p.a6 m.es.length p.c6) ∧ W.cell? ⟨g, j * 13 + 11, none⟩ = some (.slice p.a7 m.la.length p.c7))) := hide (fun W hW => by
        have cb : ∀ q, W.cell? ⟨g, q, none⟩ = v0.cell? ⟨g, q, none⟩ := fun q => World.cell?_of_block (a := ⟨g, q, none⟩) hW
        exact ⟨(cb _).trans (hrow 5 _ rfl), (cb _).trans (hrow 6 _ rfl), (cb _).trans (hrow 7 _ rfl), (cb _).trans (hrow 8 _ rfl), (cb _).trans (hrow 9 _ rfl), (cb _).trans (hrow 10 _ rfl), (cb _).trans (hrow 11 _ rfl)⟩)
      obtain ⟨b0, hb0⟩ : ∃ b, f j = b := ⟨_, rfl⟩
      obtain ⟨b7, hb7⟩ : ∃ b, f (j + 1) = b := ⟨_, rfl⟩
      have HB07 := hide (And.intro hb0 hb7)
      rw [hb0, hb7] at hfl hgj how
      unfold Ow RL at how
      obtain ⟨b1, b2, b3, b4, b5, b6, ⟨o0, o1, o2, o3, o4, o5, o6⟩, u1, u2, u3, u4, u5, u6, u7⟩ := how
      dsimp only [mk5] at u1 u2 u3 u4 u5 u6 u7
      have hv0 := unhide HZ5
      have hz0 : b7 ≤ v0.heap.size := by omega
      have hgv : g < v0.heap.size := Nat.lt_of_lt_of_le hgs hv0
      have HK0 : Hid (Kp v0 v0 b0 b7) := hide ⟨Nat.le_refl _, fun _ _ _ => rfl⟩
      have HE0 : Hid (Below (min b0 v0.heap.size) v0 v0) := hide (Below.refl _ _)
      clear hb0 hb7 hrow
      have U1_0 := hide u1
      have U2_0 := hide u2
      have U3_0 := hide u3
      have U4_0 := hide u4
      have U5_0 := hide u5
      have U6_0 := hide u6
      have U7_0 := hide u7
      clear u1 u2 u3 u4 u5 u6 u7
      obtain ⟨e1, e2, e3, e4, e5, e6, e7⟩ := unhide HCE v0 ((unhide HK0).2 g hgv (by omega))
      go_wp2_with fail
      clear e1 e2 e3 e4 e5 e6 e7
      refine (unhide C1 b0 b1 _ (unhide U1_0)).mono ?_
      rintro e v1 ⟨rfl, hz_, be_, l_, k_⟩
      have hk_ := unhide HK0
      have HK1 : Hid (Kp v0 v1 b0 b7) := hide ⟨Nat.le_trans hk_.1 hz_, fun k hk h => (k_ k (Nat.lt_of_lt_of_le hk hk_.1) (by omega)).trans (hk_.2 k hk h)⟩
      have HE1 : Hid (Below (min b0 v0.heap.size) v0 v1) := hide ((unhide HE0).trans (be_.mono (by have := hk_.1; omega)))
      have U1_1 := hide l_
      have U2_1 := hide ((unhide U2_0).but (p := fun k => k < b0 ∨ b1 ≤ k) hz_ (fun k hk h => k_ k hk h) (fun k h1 h2 => by omega))
      have U3_1 := hide ((unhide U3_0).but (p := fun k => k < b0 ∨ b1 ≤ k) hz_ (fun k hk h => k_ k hk h) (fun k h1 h2 => by omega))
      have U4_1 := hide ((unhide U4_0).but (p := fun k => k < b0 ∨ b1 ≤ k) hz_ (fun k hk h => k_ k hk h) (fun k h1 h2 => by omega))
      have U5_1 := hide ((unhide U5_0).but (p := fun k => k < b0 ∨ b1 ≤ k) hz_ (fun k hk h => k_ k hk h) (fun k h1 h2 => by omega))
      have U6_1 := hide ((unhide U6_0).but (p := fun k => k < b0 ∨ b1 ≤ k) hz_ (fun k hk h => k_ k hk h) (fun k h1 h2 => by omega))
      have U7_1 := hide ((unhide U7_0).but (p := fun k => k < b0 ∨ b1 ≤ k) hz_ (fun k hk h => k_ k hk h) (fun k h1 h2 => by omega))
      clear hz_ be_ l_ k_ hk_ HK0 HE0 U1_0 U2_0 U3_0 U4_0 U5_0 U6_0 U7_0 C1
      obtain ⟨e1, e2, e3, e4, e5, e6, e7⟩ := unhide HCE v1 ((unhide HK1).2 g hgv (by omega))
      go_wp2_with fail
      clear e1 e2 e3 e4 e5 e6 e7
      refine (unhide C2 b1 b2 _ (unhide U2_1)).mono ?_
      rintro e v2 ⟨rfl, hz_, be_, l_, k_⟩
      have hk_ := unhide HK1
      have HK2 : Hid (Kp v0 v2 b0 b7) := hide ⟨Nat.le_trans hk_.1 hz_, fun k hk h => (k_ k (Nat.lt_of_lt_of_le hk hk_.1) (by omega)).trans (hk_.2 k hk h)⟩
      have HE2 : Hid (Below (min b0 v0.heap.size) v0 v2) := hide ((unhide HE1).trans (be_.mono (by have := hk_.1; omega)))
      have U2_2 := hide l_
      have U1_2 := hide ((unhide U1_1).but (p := fun k => k < b1 ∨ b2 ≤ k) hz_ (fun k hk h => k_ k hk h) (fun k h1 h2 => by omega))
      have U3_2 := hide ((unhide U3_1).but (p := fun k => k < b1 ∨ b2 ≤ k) hz_ (fun k hk h => k_ k hk h) (fun k h1 h2 => by omega))
      have U4_2 := hide ((unhide U4_1).but (p := fun k => k < b1 ∨ b2 ≤ k) hz_ (fun k hk h => k_ k hk h) (fun k h1 h2 => by omega))
      have U5_2 := hide ((unhide U5_1).but (p := fun k => k < b1 ∨ b2 ≤ k) hz_ (fun k hk h => k_ k hk h) (fun k h1 h2 => by omega))
      have U6_2 := hide ((unhide U6_1).but (p := fun k => k < b1 ∨ b2 ≤ k) hz_ (fun k hk h => k_ k hk h) (fun k h1 h2 => by omega))
      have U7_2 := hide ((unhide U7_1).but (p := fun k => k < b1 ∨ b2 ≤ k) hz_ (fun k hk h => k_ k hk h) (fun k h1 h2 => by omega))
      clear hz_ be_ l_ k_ hk_ HK1 HE1 U1_1 U2_1 U3_1 U4_1 U5_1 U6_1 U7_1 C2
      obtain ⟨e1, e2, e3, e4, e5, e6, e7⟩ := unhide HCE v2 ((unhide HK2).2 g hgv (by omega))
      go_wp2_with fail
      clear e1 e2 e3 e4 e5 e6 e7
      refine (unhide C3 b2 b3 _ (unhide U3_2)).mono ?_
      rintro e v3 ⟨rfl, hz_, be_, l_, k_⟩
      have hk_ := unhide HK2
      have HK3 : Hid (Kp v0 v3 b0 b7) := hide ⟨Nat.le_trans hk_.1 hz_, fun k hk h => (k_ k (Nat.lt_of_lt_of_le hk hk_.1) (by omega)).trans (hk_.2 k hk h)⟩
      have HE3 : Hid (Below (min b0 v0.heap.size) v0 v3) := hide ((unhide HE2).trans (be_.mono (by have := hk_.1; omega)))
      have U3_3 := hide l_
      have U1_3 := hide ((unhide U1_2).but (p := fun k => k < b2 ∨ b3 ≤ k) hz_ (fun k hk h => k_ k hk h) (fun k h1 h2 => by omega))
      have U2_3 := hide ((unhide U2_2).but (p := fun k => k < b2 ∨ b3 ≤ k) hz_ (fun k hk h => k_ k hk h) (fun k h1 h2 => by omega))
      have U4_3 := hide ((unhide U4_2).but (p := fun k => k < b2 ∨ b3 ≤ k) hz_ (fun k hk h => k_ k hk h) (fun k h1 h2 => by omega))
      have U5_3 := hide ((unhide U5_2).but (p := fun k => k < b2 ∨ b3 ≤ k) hz_ (fun k hk h => k_ k hk h) (fun k h1 h2 => by omega))
      have U6_3 := hide ((unhide U6_2).but (p := fun k => k < b2 ∨ b3 ≤ k) hz_ (fun k hk h => k_ k hk h) (fun k h1 h2 => by omega))
      have U7_3 := hide ((unhide U7_2).but (p := fun k => k < b2 ∨ b3 ≤ k) hz_ (fun k hk h => k_ k hk h) (fun k h1 h2 => by omega))
      clear hz_ be_ l_ k_ hk_ HK2 HE2 U1_2 U2_2 U3_2 U4_2 U5_2 U6_2 U7_2 C3
      obtain ⟨e1, e2, e3, e4, e5, e6, e7⟩ := unhide HCE v3 ((unhide HK3).2 g hgv (by omega))
      go_wp2_with fail
      clear e1 e2 e3 e4 e5 e6 e7
      refine (unhide C4 b3 b4 _ (unhide U4_3)).mono ?_
      rintro e v4 ⟨rfl, hz_, be_, l_, k_⟩
      have hk_ := unhide HK3
      have HK4 : Hid (Kp v0 v4 b0 b7) := hide ⟨Nat.le_trans hk_.1 hz_, fun k hk h => (k_ k (Nat.lt_of_lt_of_le hk hk_.1) (by omega)).trans (hk_.2 k hk h)⟩
      have HE4 : Hid (Below (min b0 v0.heap.size) v0 v4) := hide ((unhide HE3).trans (be_.mono (by have := hk_.1; omega)))
      have U4_4 := hide l_
      have U1_4 := hide ((unhide U1_3).but (p := fun k => k < b3 ∨ b4 ≤ k) hz_ (fun k hk h => k_ k hk h) (fun k h1 h2 => by omega))
      have U2_4 := hide ((unhide U2_3).but (p := fun k => k < b3 ∨ b4 ≤ k) hz_ (fun k hk h => k_ k hk h) (fun k h1 h2 => by omega))
      have U3_4 := hide ((unhide U3_3).but (p := fun k => k < b3 ∨ b4 ≤ k) hz_ (fun k hk h => k_ k hk h) (fun k h1 h2 => by omega))
      have U5_4 := hide ((unhide U5_3).but (p := fun k => k < b3 ∨ b4 ≤ k) hz_ (fun k hk h => k_ k hk h) (fun k h1 h2 => by omega))
      have U6_4 := hide ((unhide U6_3).but (p := fun k => k < b3 ∨ b4 ≤ k) hz_ (fun k hk h => k_ k hk h) (fun k h1 h2 => by omega))
      have U7_4 := hide ((unhide U7_3).but (p := fun k => k < b3 ∨ b4 ≤ k) hz_ (fun k hk h => k_ k hk h) (fun k h1 h2 => by omega))
      clear hz_ be_ l_ k_ hk_ HK3 HE3 U1_3 U2_3 U3_3 U4_3 U5_3 U6_3 U7_3 C4
      obtain ⟨e1, e2, e3, e4, e5, e6, e7⟩ := unhide HCE v4 ((unhide HK4).2 g hgv (by omega))
      go_wp2_with fail
      clear e1 e2 e3 e4 e5 e6 e7
      refine (unhide C5 b4 b5 _ (unhide U5_4)).mono ?_
      rintro e v5 ⟨rfl, hz_, be_, l_, k_⟩
      have hk_ := unhide HK4
      have HK5 : Hid (Kp v0 v5 b0 b7) := hide ⟨Nat.le_trans hk_.1 hz_, fun k hk h => (k_ k (Nat.lt_of_lt_of_le hk hk_.1) (by omega)).trans (hk_.2 k hk h)⟩
      have HE5 : Hid (Below (min b0 v0.heap.size) v0 v5) := hide ((unhide HE4).trans (be_.mono (by have := hk_.1; omega)))
      have U5_5 := hide l_
      have U1_5 := hide ((unhide U1_4).but (p := fun k => k < b4 ∨ b5 ≤ k) hz_ (fun k hk h => k_ k hk h) (fun k h1 h2 => by omega))
      have U2_5 := hide ((unhide U2_4).but (p := fun k => k < b4 ∨ b5 ≤ k) hz_ (fun k hk h => k_ k hk h) (fun k h1 h2 => by omega))
      have U3_5 := hide ((unhide U3_4).but (p := fun k => k < b4 ∨ b5 ≤ k) hz_ (fun k hk h => k_ k hk h) (fun k h1 h2 => by omega))
      have U4_5 := hide ((unhide U4_4).but (p := fun k => k < b4 ∨ b5 ≤ k) hz_ (fun k hk h => k_ k hk h) (fun k h1 h2 => by omega))
      have U6_5 := hide ((unhide U6_4).but (p := fun k => k < b4 ∨ b5 ≤ k) hz_ (fun k hk h => k_ k hk h) (fun k h1 h2 => by omega))
      have U7_5 := hide ((unhide U7_4).but (p := fun k => k < b4 ∨ b5 ≤ k) hz_ (fun k hk h => k_ k hk h) (fun k h1 h2 => by omega))
      clear hz_ be_ l_ k_ hk_ HK4 HE4 U1_4 U2_4 U3_4 U4_4 U5_4 U6_4 U7_4 C5
      obtain ⟨e1, e2, e3, e4, e5, e6, e7⟩ := unhide HCE v5 ((unhide HK5).2 g hgv (by omega))
      go_wp2_with fail
      clear e1 e2 e3 e4 e5 e6 e7
      refine (unhide C6 b5 b6 _ (unhide U6_5)).mono ?_
      rintro e v6 ⟨rfl, hz_, be_, l_, k_⟩
      have hk_ := unhide HK5
      have HK6 : Hid (Kp v0 v6 b0 b7) := hide ⟨Nat.le_trans hk_.1 hz_, fun k hk h => (k_ k (Nat.lt_of_lt_of_le hk hk_.1) (by omega)).trans (hk_.2 k hk h)⟩
      have HE6 : Hid (Below (min b0 v0.heap.size) v0 v6) := hide ((unhide HE5).trans (be_.mono (by have := hk_.1; omega)))
      have U6_6 := hide l_
      have U1_6 := hide ((unhide U1_5).but (p := fun k => k < b5 ∨ b6 ≤ k) hz_ (fun k hk h => k_ k hk h) (fun k h1 h2 => by omega))
      have U2_6 := hide ((unhide U2_5).but (p := fun k => k < b5 ∨ b6 ≤ k) hz_ (fun k hk h => k_ k hk h) (fun k h1 h2 => by omega))
      have U3_6 := hide ((unhide U3_5).but (p := fun k => k < b5 ∨ b6 ≤ k) hz_ (fun k hk h => k_ k hk h) (fun k h1 h2 => by omega))
      have U4_6 := hide ((unhide U4_5).but (p := fun k => k < b5 ∨ b6 ≤ k) hz_ (fun k hk h => k_ k hk h) (fun k h1 h2 => by omega))
      have U5_6 := hide ((unhide U5_5).but (p := fun k => k < b5 ∨ b6 ≤ k) hz_ (fun k hk h => k_ k hk h) (fun k h1 h2 => by omega))
      have U7_6 := hide ((unhide U7_5).but (p := fun k => k < b5 ∨ b6 ≤ k) hz_ (fun k hk h => k_ k hk h) (fun k h1 h2 => by omega))
      clear hz_ be_ l_ k_ hk_ HK5 HE5 U1_5 U2_5 U3_5 U4_5 U5_5 U6_5 U7_5 C6
      obtain ⟨e1, e2, e3, e4, e5, e6, e7⟩ := unhide HCE v6 ((unhide HK6).2 g hgv (by omega))
      go_wp2_with fail
      clear e1 e2 e3 e4 e5 e6 e7
      refine (unhide C7 b6 b7 _ (unhide U7_6)).mono ?_
      rintro e v7 ⟨rfl, hz_, be_, l_, k_⟩
      have hk_ := unhide HK6
      have HK7 : Hid (Kp v0 v7 b0 b7) := hide ⟨Nat.le_trans hk_.1 hz_, fun k hk h => (k_ k (Nat.lt_of_lt_of_le hk hk_.1) (by omega)).trans (hk_.2 k hk h)⟩
      have HE7 : Hid (Below (min b0 v0.heap.size) v0 v7) := hide ((unhide HE6).trans (be_.mono (by have := hk_.1; omega)))
      have U7_7 := hide l_
      have U1_7 := hide ((unhide U1_6).but (p := fun k => k < b6 ∨ b7 ≤ k) hz_ (fun k hk h => k_ k hk h) (fun k h1 h2 => by omega))
      have U2_7 := hide ((unhide U2_6).but (p := fun k => k < b6 ∨ b7 ≤ k) hz_ (fun k hk h => k_ k hk h) (fun k h1 h2 => by omega))
      have U3_7 := hide ((unhide U3_6).but (p := fun k => k < b6 ∨ b7 ≤ k) hz_ (fun k hk h => k_ k hk h) (fun k h1 h2 => by omega))
      have U4_7 := hide ((unhide U4_6).but (p := fun k => k < b6 ∨ b7 ≤ k) hz_ (fun k hk h => k_ k hk h) (fun k h1 h2 => by omega))
      have U5_7 := hide ((unhide U5_6).but (p := fun k => k < b6 ∨ b7 ≤ k) hz_ (fun k hk h => k_ k hk h) (fun k h1 h2 => by omega))
      have U6_7 := hide ((unhide U6_6).but (p := fun k => k < b6 ∨ b7 ≤ k) hz_ (fun k hk h => k_ k hk h) (fun k h1 h2 => by omega))
      clear hz_ be_ l_ k_ hk_ HK6 HE6 U1_6 U2_6 U3_6 U4_6 U5_6 U6_6 U7_6 C7
      have hk7 := unhide HK7
      have how : Ow v7 (f j) (f (j + 1)) { mkR m qq r0 r1 r2 r3 r4 r5 r6 r7 with x6 := m.x6 } (Q j) := by
        rw [(unhide HB07).1, (unhide HB07).2, unhide HP]
        exact ⟨b1, b2, b3, b4, b5, b6, ⟨o0, o1, o2, o3, o4, o5, o6⟩, unhide U1_7, unhide U2_7, unhide U3_7, unhide U4_7, unhide U5_7, unhide U6_7, unhide U7_7⟩
      have hb07 := unhide HB07
      have N7 := (unhide HM5).lists hjn (unhide HF) (unhide HG) hgv hk7.1 (fun k hk h => hk7.2 k hk (by rw [← hb07.1, ← hb07.2]; exact h)) how (by simp only [if_true]; unfold cl mkR mk5; simp only [Lk.marks_len, Tu.marks_len, So.marks_len, Ed.marks_len])
      have HN7 := hide (N7.ext (M' := fun i => if i = j then { mkR m qq r0 r1 r2 r3 r4 r5 r6 r7 with x6 := m.x6 } else M i) (fun i _ => by by_cases e : i = j <;> simp [e]))
      have hg7 : g < v7.heap.size := Nat.lt_of_lt_of_le hgv hk7.1
      have x12 := (unhide HN7).1 j hjn 12 (.int .i64 m.x6) (by simp only [if_true]; rfl)
      have y12 := ((unhide HN7).2.1 (j * 13 + 12) (by omega)).2
      rw [Nat.zero_add] at y12
      have N8 := (unhide HN7).put hjn (show 12 < 13 by omega) (v := .int .i64 r7) (m' := mkR m qq r0 r1 r2 r3 r4 r5 r6 r7) (by simp only [if_true]; rfl) (by simp) (unhide HG)
      have HN8 := hide (N8.ext (M' := mkA ms K (j + 1)) (fun i _ => by
        by_cases e : i = j
        · subst e; simp only [if_true]; rw [unhide HNX, unhide HMM]
        · simp only [if_neg e]; exact unhide HEL i e))
      have HB8 := hide ((((unhide HB5).trans ((unhide HE7).mono (by omega))).setCell (p := ⟨g, j * 13 + 12, none⟩) (by show min lo w.heap.size ≤ g; omega) (.int .i64 r7)))
      have HZ8 : Hid (w.heap.size ≤ (v7.setCell ⟨g, j * 13 + 12, none⟩ (.int .i64 r7)).heap.size) := hide (by have := hk7.1; simp [World.setCell]; omega)
      have HO8 : Hid (∀ k, k < w.heap.size → (k < lo ∨ hi ≤ k) → (v7.setCell ⟨g, j * 13 + 12, none⟩ (.int .i64 r7)).heap[k]? = w.heap[k]?) := hide (fun k hk h => (Below.heap_setCell _ _ _ _ (by show k ≠ g; omega)).trans ((hk7.2 k (by omega) (by omega)).trans (unhide HO5 k hk h)))
      clear N7 N8 HN7 how hk7 hb07 HK7 HE7 HM5 HB5 HZ5 HO5 HMM HNX HEL U1_7 U2_7 U3_7 U4_7 U5_7 U6_7 U7_7
      go_wp2_with fail
      go_roundw
      case rel => exact ⟨j + 1, by omega, by go_num, by have h1 := unhide HEN; have h2 := unhide HQQ; have h3 := unhide HSN; first | (congr 1; omega) | (simp; omega), HZ8, HB8, HN8, HO8⟩
      case measure => simp [intOf]; omega
    · obtain rfl : j = n := by omega
      go_wp2
      go_ret
      exact ⟨rfl, unhide hsz, unhide hbl, (unhide hmk).ext (fun i hi => by unfold mkA; rw [if_pos hi]; try simp), unhide hot⟩
set_option maxHeartbeats 32000000 in
theorem heldNS (g n c : Nat) (f : Nat → Nat) (K : Int) (ms : List Rm) (Q : Nat → Pl) (w : World) (hn : ms.length = n) (hn8 : n ≤ 1048576) (hK : 0 ≤ K) (hK1 : K + sumK ms n ≤ 900000000) (hs : ∀ i, i < ms.length → Sm (ms.getD i Rm.zero)) (h : MkS w g n f (fun i => mkM (ms.getD i Rm.zero) (K + sumK ms i)) Q) :
    Calls Tryz.prog 31 #[.slice (some ⟨g, 0, none⟩) n c, .int .i64 K] w fun e w' => e = .returned (.int .i64 (K + sumK ms n)) ∧ w' = w := by
  have HM0 := hide h
  have HSM := hide hs
  have HN := hide hn
  clear h hs hn
  go_enter Tryz.func31, Tryz.ntmps31
  go_wp2
  go_loopw [1, 5] (fun q i wr => wr = w ∧ ∃ j : Nat, j ≤ n ∧ i = .int .i64 j ∧ q = .int .i64 (K + sumK ms j)) (fun _ i _ => n - (intOf i).toNat)
  case atStart => exact ⟨rfl, 0, by omega, rfl, by simp [sumK]⟩
  case round =>
    obtain ⟨hwr, j, hj, rfl, rfl⟩ := hrel
    by_cases hlt : (j : Int) < (n : Int)
    · have k0 : (0 : Int) ≤ (j : Int) := by omega
      have hjn : j < n := by omega
      have hjl : j < ms.length := by rw [unhide HN]; exact hjn
      have HSJ := hide (unhide HSM j hjl)
      have hq0 : 0 ≤ K + sumK ms j := by have := sumK_pos ms j; omega
      have hq1 : K + sumK ms j ≤ 900000000 := by
        have := sumK_le ms j (n - j)
        rw [show j + (n - j) = n by omega] at this; omega
      have HSN : Hid (sumK ms (j + 1) = sumK ms j + mkK (ms.getD j Rm.zero)) := hide rfl
      have hrow := (unhide HM0).1 j hjn
      have how := (unhide HM0).2.2 j hjn
      dsimp only at hrow how
      obtain ⟨qq, hqq⟩ : ∃ q, K + sumK ms j = q := ⟨_, rfl⟩
      have HQQ := hide hqq
      rw [hqq] at hq0 hq1 hrow how ⊢
      generalize hP : Q j = p at *
      generalize hm : ms.getD j Rm.zero = m at *
      clear hqq hjl hP hm
      obtain ⟨r0, hr0⟩ : ∃ r, qq + 1 + 1 + 1 + 1 + 1 = r := ⟨_, rfl⟩
      obtain ⟨r1, hr1⟩ : ∃ r, r0 + 6 * (m.ls.length : Int) = r := ⟨_, rfl⟩
      obtain ⟨r2, hr2⟩ : ∃ r, r1 + 3 * (m.tw.length : Int) = r := ⟨_, rfl⟩
      obtain ⟨r3, hr3⟩ : ∃ r, r2 + 3 * (m.se.length : Int) = r := ⟨_, rfl⟩
      obtain ⟨r4, hr4⟩ : ∃ r, r3 + 3 * (m.du.length : Int) = r := ⟨_, rfl⟩
      obtain ⟨r5, hr5⟩ : ∃ r, r4 + 3 * (m.ss.length : Int) = r := ⟨_, rfl⟩
      obtain ⟨r6, hr6⟩ : ∃ r, r5 + 3 * (m.es.length : Int) = r := ⟨_, rfl⟩
      obtain ⟨r7, hr7⟩ : ∃ r, r6 + 2 * (m.la.length : Int) = r := ⟨_, rfl⟩
      have hmm : mkM m qq = mkR m qq r0 r1 r2 r3 r4 r5 r6 r7 := by unfold mkM; subst hr7; subst hr6; subst hr5; subst hr4; subst hr3; subst hr2; subst hr1; subst hr0; rfl
      have HEN : Hid (r7 + 1 = qq + mkK m) := hide (by have := rA_end m qq; subst hr7; subst hr6; subst hr5; subst hr4; subst hr3; subst hr2; subst hr1; subst hr0; exact this)
      rw [hmm] at hrow how
      unfold cl mkR at hrow
      simp only [Lk.marks_len, Tu.marks_len, So.marks_len, Ed.marks_len] at hrow
      unfold Ow RL mkR at how
      obtain ⟨b1, b2, b3, b4, b5, b6, _, u1, u2, u3, u4, u5, u6, u7⟩ := how
      dsimp only at u1 u2 u3 u4 u5 u6 u7
      obtain ⟨s1, s2, s3, s4, s5, s6, s7⟩ := unhide HSJ
      have C1 := hide (Lk.heldF p.a1 p.c1 m.ls.length _ _ r0 w (by omega) (by omega) (by omega) u1)
      rw [hr1] at C1
      have C2 := hide (Tu.heldF p.a2 p.c2 m.tw.length _ _ r1 w (by omega) (by omega) (by omega) u2)
      rw [hr2] at C2
      have C3 := hide (Tu.heldF p.a3 p.c3 m.se.length _ _ r2 w (by omega) (by omega) (by omega) u3)
      rw [hr3] at C3
      have C4 := hide (Tu.heldF p.a4 p.c4 m.du.length _ _ r3 w (by omega) (by omega) (by omega) u4)
      rw [hr4] at C4
      have C5 := hide (So.heldF p.a5 p.c5 m.ss.length _ _ r4 w (by omega) (by omega) (by omega) u5)
      rw [hr5] at C5
      have C6 := hide (Tu.heldF p.a6 p.c6 m.es.length _ _ r5 w (by omega) (by omega) (by omega) u6)
      rw [hr6] at C6
      have C7 := hide (Ed.heldF p.a7 p.c7 m.la.length _ _ r6 w (by omega) (by omega) (by omega) u7)
      rw [hr7] at C7
      have hn1 : ¬ r1 < 0 ∧ ¬ r2 < 0 ∧ ¬ r3 < 0 ∧ ¬ r4 < 0 ∧ ¬ r5 < 0 ∧ ¬ r6 < 0 ∧ ¬ r7 < 0 := by omega
      obtain ⟨hn1_, hn2_, hn3_, hn4_, hn5_, hn6_, hn7_⟩ := hn1
      have hr70 : 0 ≤ r7 := by omega
      have hr71 : r7 ≤ 990000000 := by omega
      have HR0 := hide hr0
      clear hmm hr0 hr1 hr2 hr3 hr4 hr5 hr6 hr7 s1 s2 s3 s4 s5 s6 s7 u1 u2 u3 u4 u5 u6 u7 HSJ
      have x0 := hrow 0 _ rfl
      rw [Nat.add_zero] at x0
      obtain ⟨x1, x2, x3, x4, x5, x6, x7, x8, x9, x10, x11, x12⟩ := (⟨hrow 1 _ rfl, hrow 2 _ rfl, hrow 3 _ rfl, hrow 4 _ rfl, hrow 5 _ rfl, hrow 6 _ rfl, hrow 7 _ rfl, hrow 8 _ rfl, hrow 9 _ rfl, hrow 10 _ rfl, hrow 11 _ rfl, hrow 12 _ rfl⟩ : _ ∧ _ ∧ _ ∧ _ ∧ _ ∧ _ ∧ _ ∧ _ ∧ _ ∧ _ ∧ _ ∧ _)
      clear hrow
      subst hwr
      have n0 : (qq != qq) = false := by simp
      have n1 : (qq + 1 != qq + 1) = false := by simp
      have n2 : (qq + 1 + 1 != qq + 1 + 1) = false := by simp
      have n3 : (qq + 1 + 1 + 1 != qq + 1 + 1 + 1) = false := by simp
      have n4 : (qq + 1 + 1 + 1 + 1 != qq + 1 + 1 + 1 + 1) = false := by simp
      have n5 : (r7 != r7) = false := by simp
      go_wp2_with fail
      rw [unhide HR0]
      refine (unhide C1).mono ?_
      rintro e v_ ⟨rfl, hv_⟩
      rw [hv_]
      clear hv_
      go_wp2_with fail
      refine (unhide C2).mono ?_
      rintro e v_ ⟨rfl, hv_⟩
      rw [hv_]
      clear hv_
      go_wp2_with fail
      refine (unhide C3).mono ?_
      rintro e v_ ⟨rfl, hv_⟩
      rw [hv_]
      clear hv_
      go_wp2_with fail
      refine (unhide C4).mono ?_
      rintro e v_ ⟨rfl, hv_⟩
      rw [hv_]
      clear hv_
      go_wp2_with fail
      refine (unhide C5).mono ?_
      rintro e v_ ⟨rfl, hv_⟩
      rw [hv_]
      clear hv_
      go_wp2_with fail
      refine (unhide C6).mono ?_
      rintro e v_ ⟨rfl, hv_⟩
      rw [hv_]
      clear hv_
      go_wp2_with fail
      refine (unhide C7).mono ?_
      rintro e v_ ⟨rfl, hv_⟩
      rw [hv_]
      clear hv_
      go_wp2_with fail
      go_roundw
      case rel => exact ⟨by first | trivial | rfl, j + 1, by omega, by go_num, by have h1 := unhide HEN; have h2 := unhide HQQ; have h3 := unhide HSN; first | (congr 1; omega) | (simp; omega)⟩
      case measure => simp [intOf]; omega
    · obtain rfl : j = n := by omega
      subst hwr
      go_wp2
      go_ret
      exact ⟨by first | trivial | rfl, rfl⟩
end Nt
end Go.Proofs.YthfcigfgpimimaaGreat
namespace Go.Proofs.YthfcigfgpimimaaGreat
open Go.ChangeShapes Go.WideShapes Go.ChangeAt Go.RowKit
set_option linter.unusedVariables false
attribute [local go_sem ↓] Go.wp_at_zero Go.wp_at_succ
attribute [local go_sem] Go.strOfNums_size ByteArray.size_append
namespace Di
open W1
/-- A number's digits, as a text. -/
def dig (k : Nat) : ByteArray := ⟨(Lib.decDigits k).toArray⟩
theorem dig_one {k : Nat} (h : k < 10) : strOfNums [48 + (k : Int)] = dig k := by
  unfold dig strOfNums; rw [Lib.decDigits_one h]
  have e : (48 + (k : Int)).toNat = 48 + k := by omega
  simp [e]
theorem dig_more {k : Nat} (h : ¬ k < 10) : dig (k / 10) ++ strOfNums [48 + (k : Int) % 10] = dig k := by
  unfold dig strOfNums
  rw [Lib.decDigits.eq_def k, dif_neg h]
  apply ByteArray.ext
  have e : (48 + (k : Int) % 10).toNat = 48 + k % 10 := by omega
  simp [ByteArray.data_append, e]
theorem dig_size8 (k : Nat) (h : k ≤ 99999999) : (dig k).size ≤ 8 := by
  have e : (dig k).size = Lib.nDigits k := by
    show (Lib.decDigits k).toArray.size = _
    simp [Lib.decDigits_length]
  rw [e]
  have h1 : ∀ u, u < 10 → Lib.nDigits u ≤ 1 := fun u hu => by rw [Lib.nDigits_small hu]; omega
  have up : ∀ n N, (∀ u, u < N → Lib.nDigits u ≤ n) → 0 < n → ∀ u, u < N * 10 → Lib.nDigits u ≤ n + 1 := fun n N hn h0 u hu => by
    by_cases c : u < 10
    · have := h1 u c; omega
    · rw [Lib.nDigits_big c]; have := hn (u / 10) (by omega); omega
  exact up 7 _ (up 6 _ (up 5 _ (up 4 _ (up 3 _ (up 2 _ (up 1 _ h1 (by omega)) (by omega)) (by omega)) (by omega)) (by omega)) (by omega)) (by omega) k (by omega)
theorem wrapS {x : Int} (h0 : 0 ≤ x) (h1 : x ≤ 1099511627776) : IntKind.i64.wrap x = x := by
  have e := IntWalk.i64_left x
  rw [e]; unfold wrap64; omega
theorem conv1 (W : World) (g : Nat) (n : Int) (h : W.cell? ⟨g, 0, none⟩ = some (.int .u8 n)) :
    (convert 27 9 (.slice (some ⟨g, 0, none⟩) 1 1)).run Tryz.prog W = .ok (.string (strOfNums [n])) W :=
  run_convert_bytes_arg (P := Tryz.prog) W 27 5 Tryz.underlying27 Tryz.underlying5 g 0 1 1 [n] rfl (fun | 0, _ => h) 9 Tryz.underlying9

end Di
end Go.Proofs.YthfcigfgpimimaaGreat
namespace Go.Proofs.YthfcigfgpimimaaGreat
open Go.ChangeShapes Go.WideShapes Go.ChangeAt Go.RowKit
set_option linter.unusedVariables false
set_option linter.unusedSimpArgs false
attribute [local go_sem ↓] Go.wp_at_zero Go.wp_at_succ
namespace Ss
open W1 Di
def flat (zs : List ByteArray) : List Value := zs.map Value.string
theorem flat_len (zs : List ByteArray) : (flat zs).length = zs.length * 1 := by simp [flat]
theorem flat_append (xs ys : List ByteArray) : flat (xs ++ ys) = flat xs ++ flat ys := by simp [flat]
theorem flat_one_cell {zs : List ByteArray} {u : Value} (h : u ∈ flat zs) : u.oneCell' = true := by
  obtain ⟨z, _, rfl⟩ := List.mem_map.1 h; rfl
theorem flat_get {zs : List ByteArray} {i : Nat} (h : i < zs.length) : (flat zs)[i]? = some (.string (zs.getD i ByteArray.empty)) := by
  unfold flat
  rw [List.getElem?_map, List.getElem?_eq_getElem h, List.getD_eq_getElem?_getD, List.getElem?_eq_getElem h]; rfl
/-- The slice at a reads as these. -/
def RM (w : World) (a : Option Addr) (zs : List ByteArray) : Prop :=
  zs = [] ∨ ∃ g off, a = some ⟨g, off, none⟩ ∧ ∀ i, i < zs.length → w.cell? ⟨g, off + i, none⟩ = some (.string (zs.getD i ByteArray.empty))
theorem RM.below {w w' : World} {a : Option Addr} {zs : List ByteArray} (h : RM w a zs) (hb : Below w.heap.size w w') : RM w' a zs := by
  rcases h with h | ⟨g, off, rfl, hc⟩
  · exact .inl h
  · exact .inr ⟨g, off, rfl, fun i hi => (hb.cell (p := ⟨g, off + i, none⟩) (World.block_lt_of_cell? _ _ (hc i hi))).trans (hc i hi)⟩
theorem RM.at {w : World} {g off : Nat} {zs : List ByteArray} {i : Nat} (h : RM w (some ⟨g, off, none⟩) zs) (hi : i < zs.length) : w.cell? ⟨g, off + i, none⟩ = some (.string (zs.getD i ByteArray.empty)) := by
  rcases h with rfl | ⟨g', off', e, hc⟩
  · simp at hi
  · cases e; exact hc i hi
theorem plain_add (b off k : Nat) : (⟨b, off, none⟩ : Addr).add k = ⟨b, off + k, none⟩ := by unfold Addr.add; split <;> simp_all
theorem RM.cells {w : World} {g off : Nat} {zs : List ByteArray} (h : RM w (some ⟨g, off, none⟩) zs) : ∀ j u, (flat zs)[j]? = some u → w.cell? ((⟨g, off, none⟩ : Addr).add j) = some u := by
  intro j u hj
  have hl : j < zs.length := by have := (List.getElem?_eq_some_iff.1 hj).1; rw [flat_len] at this; omega
  rw [flat_get hl] at hj
  rw [plain_add, ← hj]
  exact h.at hl
/-- The first j stand at the head of block g, whose n cells may be written. -/
def Upto (w : World) (g n j : Nat) (zs : List ByteArray) : Prop :=
  (∀ i, i < j → w.cell? ⟨g, i, none⟩ = some (.string (zs.getD i ByteArray.empty))) ∧ ∀ i, i < n → (w.cell? ⟨g, i, none⟩).isSome = true ∧ w.frozen? ⟨g, i, none⟩ = false
theorem Upto.step {w : World} {g n j : Nat} {zs : List ByteArray} (h : Upto w g n j zs) (hj : j < n) : Upto (w.setCell ⟨g, j, none⟩ (.string (zs.getD j ByteArray.empty))) g n (j + 1) zs := by
  refine ⟨fun i hi => ?_, fun i hi => ⟨?_, by rw [World.frozen?_setCell]; exact (h.2 i hi).2⟩⟩
  · by_cases e : i = j
    · subst e
      obtain ⟨v, hv⟩ := Option.isSome_iff_exists.1 (h.2 i hj).1
      rw [World.cell?_setCell_same _ _ _ hv]
    · rw [World.cell?_setCell_other _ _ _ _ (by intro e'; cases e'; exact e rfl)]
      exact h.1 i (by omega)
  · obtain ⟨v, hv⟩ := Option.isSome_iff_exists.1 (h.2 i hi).1
    obtain ⟨v', hv'⟩ := cell?_setCell_some (p := ⟨g, j, none⟩) (x := .string (zs.getD j ByteArray.empty)) hv
    rw [hv']; rfl
theorem Upto.below {w w' : World} {g n j : Nat} {zs : List ByteArray} (h : Upto w g n j zs) (hb : Below w.heap.size w w') (hg : g < w.heap.size) : Upto w' g n j zs :=
  ⟨fun i hi => (hb.cell (p := ⟨g, i, none⟩) hg).trans (h.1 i hi), fun i hi => ⟨by rw [hb.cell (p := ⟨g, i, none⟩) hg]; exact (h.2 i hi).1, by rw [hb.frozen (p := ⟨g, i, none⟩) hg]; exact (h.2 i hi).2⟩⟩
theorem Upto.of_block {w w' : World} {g n j : Nat} {zs : List ByteArray} (h : Upto w g n j zs) (hb : w'.heap[g]? = w.heap[g]?) : Upto w' g n j zs := by
  have c : ∀ q, w'.cell? ⟨g, q, none⟩ = w.cell? ⟨g, q, none⟩ := fun q => World.cell?_of_block (a := ⟨g, q, none⟩) hb
  have f : ∀ q, w'.frozen? ⟨g, q, none⟩ = w.frozen? ⟨g, q, none⟩ := fun q => World.frozen?_of_block (a := ⟨g, q, none⟩) hb
  exact ⟨fun i hi => (c _).trans (h.1 i hi), fun i hi => ⟨by rw [c]; exact (h.2 i hi).1, by rw [f]; exact (h.2 i hi).2⟩⟩
theorem rm_of {w : World} {g n : Nat} {zs : List ByteArray} (h : Upto w g n zs.length zs) : RM w (some ⟨g, 0, none⟩) zs := .inr ⟨g, 0, rfl, fun i hi => by rw [Nat.zero_add]; exact h.1 i hi⟩
/-- A list between two bounds of the heap, in memory that may be written. -/
def Lst (W : World) (a : Option Addr) (zs : List ByteArray) (lo hi : Nat) : Prop := zs = [] ∨ ∃ g, a = some ⟨g, 0, none⟩ ∧ lo ≤ g ∧ g < hi ∧ g < W.heap.size ∧ Upto W g zs.length zs.length zs
theorem Lst.rm {W : World} {a : Option Addr} {zs : List ByteArray} {lo hi : Nat} (h : Lst W a zs lo hi) : RM W a zs := by
  rcases h with rfl | ⟨g, rfl, _, _, _, hu⟩
  · exact .inl rfl
  · exact rm_of hu
theorem Lst.below {W W' : World} {a : Option Addr} {zs : List ByteArray} {lo hi : Nat} (h : Lst W a zs lo hi) (hb : Below W.heap.size W W') : Lst W' a zs lo hi := by
  rcases h with rfl | ⟨g, rfl, h1, h2, h3, hu⟩
  · exact .inl rfl
  · exact .inr ⟨g, rfl, h1, h2, Nat.lt_of_lt_of_le h3 hb.size, hu.below hb h3⟩
theorem Lst.mono {W : World} {a : Option Addr} {zs : List ByteArray} {lo hi lo' hi' : Nat} (h : Lst W a zs lo hi) (h1 : lo' ≤ lo) (h2 : hi ≤ hi') : Lst W a zs lo' hi' := by
  rcases h with rfl | ⟨g, rfl, h3, h4, h5, hu⟩
  · exact .inl rfl
  · exact .inr ⟨g, rfl, by omega, by omega, h5, hu⟩
theorem Lst.but {W W' : World} {a : Option Addr} {zs : List ByteArray} {lo hi : Nat} {p : Nat → Prop} (h : Lst W a zs lo hi) (hs : W.heap.size ≤ W'.heap.size) (hb : ∀ k, k < W.heap.size → p k → W'.heap[k]? = W.heap[k]?) (hp : ∀ k, lo ≤ k → k < hi → p k) : Lst W' a zs lo hi := by
  rcases h with rfl | ⟨g, rfl, h1, h2, h3, hu⟩
  · exact .inl rfl
  · exact .inr ⟨g, rfl, h1, h2, Nat.lt_of_lt_of_le h3 hs, hu.of_block (hb g h3 (hp g h1 h2))⟩
def LstV (W : World) (v : Value) (zs : List ByteArray) (lo hi : Nat) : Prop := ∃ a c, v = .slice a zs.length c ∧ Lst W a zs lo hi
theorem LstV.below {W W' : World} {v : Value} {zs : List ByteArray} {lo hi : Nat} (h : LstV W v zs lo hi) (hb : Below W.heap.size W W') : LstV W' v zs lo hi := by
  obtain ⟨a, c, e, hl⟩ := h; exact ⟨a, c, e, hl.below hb⟩
theorem LstV.mono {W : World} {v : Value} {zs : List ByteArray} {lo hi lo' hi' : Nat} (h : LstV W v zs lo hi) (h1 : lo' ≤ lo) (h2 : hi ≤ hi') : LstV W v zs lo' hi' := by
  obtain ⟨a, c, e, hl⟩ := h; exact ⟨a, c, e, hl.mono h1 h2⟩
theorem lstV_nil (W : World) (a : Option Addr) (c lo hi : Nat) : LstV W (.slice a 0 c) [] lo hi := ⟨a, c, rfl, .inl rfl⟩
theorem upto_own {w : World} {base g cap n : Nat} {zs : List ByteArray} (hn : n = zs.length) (h : w.ownsRow base 9 1 (.slice (some ⟨g, 0, none⟩) n cap) n (flat zs)) : Upto w g n n zs := by
  subst hn
  refine ⟨fun i hi => ?_, fun i hi => ?_⟩
  · have := h.cells (g := g) rfl i _ (flat_get hi)
    rw [plain_add, Nat.zero_add] at this
    exact this
  · obtain ⟨_, ⟨e, _⟩ | ⟨g', cap', cur, e, _, hg, h1, _, h3, _⟩⟩ := h
    · cases e
    · cases e
      have hlt : i < cur.size := by rw [h3]; omega
      exact ⟨by simp [World.cell?, hg, hlt], by simp [World.frozen?, hg]⟩
theorem lst_own {w : World} {base n : Nat} {v : Value} {zs : List ByteArray} (hn : n = zs.length) (h : w.ownsRow base 9 1 v n (flat zs)) : LstV w v zs base w.heap.size := by
  unfold LstV
  have h' := h
  obtain ⟨hl, ⟨rfl, h0⟩ | ⟨g, cap, cur, rfl, hb, hg, _, _, _, _⟩⟩ := h
  · exact ⟨none, 0, by rw [← hn, h0], .inl (List.eq_nil_of_length_eq_zero (by omega))⟩
  · have hlt : g < w.heap.size := by
      rcases Nat.lt_or_ge g w.heap.size with h | h
      · exact h
      · rw [Array.getElem?_eq_none h] at hg; cases hg
    refine ⟨_, cap, by rw [hn], .inr ⟨g, rfl, hb, hlt, hlt, ?_⟩⟩
    have := upto_own hn h'
    rw [hn] at this; exact this
theorem infoI : ∃ i, Tryz.prog.info? 9 = some i ∧ i.zero = some (.string ByteArray.empty) ∧ i.size = 1 ∧ i.bytes = 16 := by
  have h : (Tryz.prog.info? 9).map (fun i => (i.zero, i.size, i.bytes)) = some (some (.string ByteArray.empty), 1, 16) := by kernel_rfl
  obtain ⟨i, hi, he⟩ := Option.map_eq_some_iff.1 h
  simp only [Prod.mk.injEq] at he
  exact ⟨i, hi, he.1, he.2.1, he.2.2⟩
theorem rm_new (w : World) (z : ByteArray) : RM (w.alloc (.cells #[.string z] 9)) (some ⟨w.heap.size, 0, none⟩) [z] := by
  refine .inr ⟨_, _, rfl, fun i hi => ?_⟩
  obtain rfl : i = 0 := by simp at hi; omega
  simp [World.cell?_alloc_new]
theorem own_empty (w : World) (base : Nat) (hb : base ≤ w.heap.size) : (w.alloc (.cells #[] 9)).ownsRow base 9 1 (.slice (some ⟨w.heap.size, 0, none⟩) 0 0) ([] : List ByteArray).length (flat []) := World.ownsRow_made w #[] 0 hb (Nat.zero_le _) (by simp)
theorem own_nil (w : World) (base : Nat) : w.ownsRow base 9 1 (.slice none 0 0) ([] : List ByteArray).length (flat []) := World.ownsRow_nil w base _ _
theorem below_own {B : Nat} {w0 w w' : World} {base : Nat} {v : Value} {n : Nat} {xs : List Value} (h : Below B w0 w) (ho : w.ownsRow base 9 1 v n xs) (hg : w.grownBy w' v.ownBlock) (hb : B ≤ base) (hB : B ≤ w.heap.size) : Below B w0 w' :=
  h.grown hg hB (fun k hk => Nat.le_trans hb (ho.lt k hk).1)
/-- A mark's text. -/
def mtx (k : Nat) : ByteArray := ⟨#[109]⟩ ++ dig k
set_option maxRecDepth 100000 in
set_option maxHeartbeats 2000000 in
theorem markText (k : Nat) (h1 : 1 ≤ k) (h8 : k ≤ 99999999) (w : World) :
    Calls Tryz.prog 55 #[.int .i64 (k : Int)] w fun e w' => e = .returned (.string (mtx k)) ∧ Below w.heap.size w w' := by
  have hk0 : ¬ ((k : Int) ≤ 0) := by omega
  have hsz := dig_size8 k h8
  have HD : Hid (mtx k = ⟨#[109]⟩ ++ dig k) := hide rfl
  have H0 : Hid (dig k ++ (⟨#[]⟩ : ByteArray) = dig k) := hide (by apply ByteArray.ext; simp [ByteArray.data_append])
  generalize hdk : dig k = dk at *
  have HDK := hide hdk
  clear hdk
  go_enter Tryz.func55, Tryz.ntmps55
  go_wp2_with fail
  go_loopw [0, 3] (fun q o wr => ∃ (t : Nat) (u : ByteArray), q = .int .i64 (t : Int) ∧ o = .string u ∧ t ≤ k ∧ u.size ≤ 8 ∧ Hid (t = 0 → u = dk) ∧ Hid (1 ≤ t → dig t ++ u = dk) ∧ Hid (Below w.heap.size w wr)) (fun q _ _ => (intOf q).toNat)
  case atStart => exact ⟨k, ⟨#[]⟩, rfl, rfl, Nat.le_refl _, by decide, hide (fun h => by omega), hide (fun _ => by rw [unhide HDK]; have := unhide H0; exact this), hide (Below.refl _ _)⟩
  case round =>
    obtain ⟨t, u, rfl, rfl, htk, hu8, hz, hp, hbl⟩ := hrel
    by_cases h0 : 1 ≤ t
    · have hpos : (0 : Int) < (t : Int) := by omega
      have htm : (t : Int).tmod 10 = (t : Int) % 10 := Int.tmod_eq_emod_of_nonneg (by omega)
      have htd : (t : Int).tdiv 10 = (t : Int) / 10 := Int.tdiv_eq_ediv_of_nonneg (by omega)
      have hw1 : IntKind.i64.wrap ((t : Int) / 10) = (t : Int) / 10 := wrapS (by omega) (by omega)
      have hw2 : IntKind.i64.wrap (48 + (t : Int) % 10) = 48 + (t : Int) % 10 := wrapS (by omega) (by omega)
      have hw3 : IntKind.u8.wrap (48 + (t : Int) % 10) = 48 + (t : Int) % 10 := by rw [IntKind.wrap_u8]; omega
      have hc := conv1 (wr.alloc (Obj.cells #[Value.int IntKind.u8 (48 + (t : Int) % 10)] 5)) wr.heap.size (48 + (t : Int) % 10) (by simp [go_sem])
      have hnb : ∀ n : Int, ¬ (9223372036854775807 < (strOfNums [n]).size + u.size) := fun n => by rw [strOfNums_size]; simp; omega
      have hpp := unhide hp h0
      have HN : Hid ((t / 10 = 0 → strOfNums [48 + (t : Int) % 10] ++ u = dk) ∧ (1 ≤ t / 10 → dig (t / 10) ++ (strOfNums [48 + (t : Int) % 10] ++ u) = dk)) := hide (by
        constructor
        · intro hl
          have ht : t < 10 := by omega
          rw [← hpp, ← dig_one ht, show (48 + (t : Int) % 10) = 48 + (t : Int) by omega]
        · intro hl
          rw [← hpp, ← dig_more (k := t) (by omega)]
          apply ByteArray.ext
          simp [ByteArray.data_append, Array.append_assoc])
      have hsz2 : (strOfNums [48 + (t : Int) % 10] ++ u).size ≤ 8 := by
        have hs : (strOfNums [48 + (t : Int) % 10] ++ u).size ≤ dk.size := by
          by_cases hl : t / 10 = 0
          · rw [(unhide HN).1 hl]; exact Nat.le_refl _
          · rw [← (unhide HN).2 (by omega), ByteArray.size_append (a := dig (t / 10))]; omega
        omega
      have HB := hide ((unhide hbl).alloc (unhide hbl).size (.cells #[.int .u8 (48 + (t : Int) % 10)] 5))
      have hq10 : ((t / 10 : Nat) : Int) = (t : Int) / 10 := by omega
      clear hpp hp hz
      go_wp2_with fail
      generalize strOfNums [48 + (t : Int) % 10] ++ u = u' at *
      go_roundw
      case rel => exact ⟨t / 10, u', by first | rw [hq10] | (rw [hq10]; rfl) | simp, rfl, by omega, hsz2, hide (unhide HN).1, hide (unhide HN).2, HB⟩
      case measure => simp [intOf]; omega
    · obtain rfl : t = 0 := by omega
      have e : u = dk := unhide hz rfl
      subst e
      have hnb : ¬ (9223372036854775807 < (⟨#[109]⟩ : ByteArray).size + u.size) := by
        have : (⟨#[109]⟩ : ByteArray).size = 1 := rfl
        omega
      go_wp2_with fail
      go_ret
      exact ⟨by rw [unhide HD]; first | rfl | simp, unhide hbl⟩
/-- The marks from K on. -/
def marks (K : Int) (n : Nat) : List ByteArray := (List.range n).map fun t : Nat => mtx (K + 1 * (t : Int)).toNat
theorem marks_len (K : Int) (n : Nat) : (marks K n).length = n := by simp [marks]
theorem marks_at (K : Int) (n t : Nat) (h : t < n) : (marks K n).getD t ByteArray.empty = mtx (K + 1 * (t : Int)).toNat := by
  unfold marks
  rw [List.getD_eq_getElem?_getD, List.getElem?_map, List.getElem?_range h]; rfl
theorem grown_set {w w1 : World} {g o : Nat} {v : Value} (h : w.grownBy w1 (some g)) : w.grownBy (w1.setCell ⟨g, o, none⟩ v) (some g) :=
  ⟨h.os, h.tape, h.output, by have := h.size; simp [World.setCell]; exact this, fun k hk hne => (Below.heap_setCell _ _ _ _ (fun e => hne (by rw [e]))).trans (h.block k hk hne)⟩
end Ss
end Go.Proofs.YthfcigfgpimimaaGreat
