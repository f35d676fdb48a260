/-
  Of the texts Strs, NetB, NetHa, SetG, SetGc, TopG, Rl, RtrC, RtrCo, NetRw, NetOf, RtrD, LnkOw, TopC, TopW: what this claim needs of them. (put together by mkprune.py)
-/
import Derived.Test.YtpmlpojefelbbaaQf2
import Derived.Deep.RegionHeld3
import Derived.Deep.DrawnRows
import Derived.Deep.Slices
import Derived.Laws.AppendOwn
import Derived.Deep.Cut
import Derived.Lib.AppendZeros
import Derived.OrdersHeld
import Derived.Deep.MidRow
import Derived.Deep.DeepHandedRow
import Derived.Deep.DeepCutAuto
namespace Go.Proofs.Ytpmlpojefelbbaa
open Go.ChangeShapes Go.WideShapes Go.ChangeAt Go.RowKit
set_option linter.unusedVariables false
set_option linter.unusedSimpArgs false
attribute [local go_sem ↓] Go.wp_at_zero Go.wp_at_succ
namespace Ss
open W1 Di
def flat (zs : List ByteArray) : List Value := zs.map Value.string
theorem flat_len (zs : List ByteArray) : (flat zs).length = zs.length * 1 := by simp [flat]
theorem flat_append (xs ys : List ByteArray) : flat (xs ++ ys) = flat xs ++ flat ys := by simp [flat]
theorem flat_one_cell {zs : List ByteArray} {u : Value} (h : u ∈ flat zs) : u.oneCell' = true := by
  obtain ⟨z, _, rfl⟩ := List.mem_map.1 h; rfl
theorem flat_get {zs : List ByteArray} {i : Nat} (h : i < zs.length) : (flat zs)[i]? = some (.string (zs.getD i ByteArray.empty)) := by
  unfold flat
  rw [List.getElem?_map, List.getElem?_eq_getElem h, List.getD_eq_getElem?_getD, List.getElem?_eq_getElem h]; rfl
/-- The slice at a reads as these. -/
def RM (w : World) (a : Option Addr) (zs : List ByteArray) : Prop :=
  zs = [] ∨ ∃ g off, a = some ⟨g, off, none⟩ ∧ ∀ i, i < zs.length → w.cell? ⟨g, off + i, none⟩ = some (.string (zs.getD i ByteArray.empty))
theorem RM.below {w w' : World} {a : Option Addr} {zs : List ByteArray} (h : RM w a zs) (hb : Below w.heap.size w w') : RM w' a zs := by
  rcases h with h | ⟨g, off, rfl, hc⟩
  · exact .inl h
  · exact .inr ⟨g, off, rfl, fun i hi => (hb.cell (p := ⟨g, off + i, none⟩) (World.block_lt_of_cell? _ _ (hc i hi))).trans (hc i hi)⟩
theorem RM.at {w : World} {g off : Nat} {zs : List ByteArray} {i : Nat} (h : RM w (some ⟨g, off, none⟩) zs) (hi : i < zs.length) : w.cell? ⟨g, off + i, none⟩ = some (.string (zs.getD i ByteArray.empty)) := by
  rcases h with rfl | ⟨g', off', e, hc⟩
  · simp at hi
  · cases e; exact hc i hi
theorem plain_add (b off k : Nat) : (⟨b, off, none⟩ : Addr).add k = ⟨b, off + k, none⟩ := by unfold Addr.add; split <;> simp_all
theorem RM.cells {w : World} {g off : Nat} {zs : List ByteArray} (h : RM w (some ⟨g, off, none⟩) zs) : ∀ j u, (flat zs)[j]? = some u → w.cell? ((⟨g, off, none⟩ : Addr).add j) = some u := by
  intro j u hj
  have hl : j < zs.length := by have := (List.getElem?_eq_some_iff.1 hj).1; rw [flat_len] at this; omega
  rw [flat_get hl] at hj
  rw [plain_add, ← hj]
  exact h.at hl
/-- The first j stand at the head of block g, whose n cells may be written. -/
def Upto (w : World) (g n j : Nat) (zs : List ByteArray) : Prop :=
  (∀ i, i < j → w.cell? ⟨g, i, none⟩ = some (.string (zs.getD i ByteArray.empty))) ∧ ∀ i, i < n → (w.cell? ⟨g, i, none⟩).isSome = true ∧ w.frozen? ⟨g, i, none⟩ = false
theorem Upto.step {w : World} {g n j : Nat} {zs : List ByteArray} (h : Upto w g n j zs) (hj : j < n) : Upto (w.setCell ⟨g, j, none⟩ (.string (zs.getD j ByteArray.empty))) g n (j + 1) zs := by
  refine ⟨fun i hi => ?_, fun i hi => ⟨?_, by rw [World.frozen?_setCell]; exact (h.2 i hi).2⟩⟩
  · by_cases e : i = j
    · subst e
      obtain ⟨v, hv⟩ := Option.isSome_iff_exists.1 (h.2 i hj).1
      rw [World.cell?_setCell_same _ _ _ hv]
    · rw [World.cell?_setCell_other _ _ _ _ (by intro e'; cases e'; exact e rfl)]
      exact h.1 i (by omega)
  · obtain ⟨v, hv⟩ := Option.isSome_iff_exists.1 (h.2 i hi).1
    obtain ⟨v', hv'⟩ := cell?_setCell_some (p := ⟨g, j, none⟩) (x := .string (zs.getD j ByteArray.empty)) hv
    rw [hv']; rfl
theorem Upto.below {w w' : World} {g n j : Nat} {zs : List ByteArray} (h : Upto w g n j zs) (hb : Below w.heap.size w w') (hg : g < w.heap.size) : Upto w' g n j zs :=
  ⟨fun i hi => (hb.cell (p := ⟨g, i, none⟩) hg).trans (h.1 i hi), fun i hi => ⟨by rw [hb.cell (p := ⟨g, i, none⟩) hg]; exact (h.2 i hi).1, by rw [hb.frozen (p := ⟨g, i, none⟩) hg]; exact (h.2 i hi).2⟩⟩
theorem Upto.of_block {w w' : World} {g n j : Nat} {zs : List ByteArray} (h : Upto w g n j zs) (hb : w'.heap[g]? = w.heap[g]?) : Upto w' g n j zs := by
  have c : ∀ q, w'.cell? ⟨g, q, none⟩ = w.cell? ⟨g, q, none⟩ := fun q => World.cell?_of_block (a := ⟨g, q, none⟩) hb
  have f : ∀ q, w'.frozen? ⟨g, q, none⟩ = w.frozen? ⟨g, q, none⟩ := fun q => World.frozen?_of_block (a := ⟨g, q, none⟩) hb
  exact ⟨fun i hi => (c _).trans (h.1 i hi), fun i hi => ⟨by rw [c]; exact (h.2 i hi).1, by rw [f]; exact (h.2 i hi).2⟩⟩
theorem rm_of {w : World} {g n : Nat} {zs : List ByteArray} (h : Upto w g n zs.length zs) : RM w (some ⟨g, 0, none⟩) zs := .inr ⟨g, 0, rfl, fun i hi => by rw [Nat.zero_add]; exact h.1 i hi⟩
/-- A list between two bounds of the heap, in memory that may be written. -/
def Lst (W : World) (a : Option Addr) (zs : List ByteArray) (lo hi : Nat) : Prop := zs = [] ∨ ∃ g, a = some ⟨g, 0, none⟩ ∧ lo ≤ g ∧ g < hi ∧ g < W.heap.size ∧ Upto W g zs.length zs.length zs
theorem Lst.rm {W : World} {a : Option Addr} {zs : List ByteArray} {lo hi : Nat} (h : Lst W a zs lo hi) : RM W a zs := by
  rcases h with rfl | ⟨g, rfl, _, _, _, hu⟩
  · exact .inl rfl
  · exact rm_of hu
theorem Lst.below {W W' : World} {a : Option Addr} {zs : List ByteArray} {lo hi : Nat} (h : Lst W a zs lo hi) (hb : Below W.heap.size W W') : Lst W' a zs lo hi := by
  rcases h with rfl | ⟨g, rfl, h1, h2, h3, hu⟩
  · exact .inl rfl
  · exact .inr ⟨g, rfl, h1, h2, Nat.lt_of_lt_of_le h3 hb.size, hu.below hb h3⟩
theorem Lst.mono {W : World} {a : Option Addr} {zs : List ByteArray} {lo hi lo' hi' : Nat} (h : Lst W a zs lo hi) (h1 : lo' ≤ lo) (h2 : hi ≤ hi') : Lst W a zs lo' hi' := by
  rcases h with rfl | ⟨g, rfl, h3, h4, h5, hu⟩
  · exact .inl rfl
  · exact .inr ⟨g, rfl, by omega, by omega, h5, hu⟩
theorem Lst.but {W W' : World} {a : Option Addr} {zs : List ByteArray} {lo hi : Nat} {p : Nat → Prop} (h : Lst W a zs lo hi) (hs : W.heap.size ≤ W'.heap.size) (hb : ∀ k, k < W.heap.size → p k → W'.heap[k]? = W.heap[k]?) (hp : ∀ k, lo ≤ k → k < hi → p k) : Lst W' a zs lo hi := by
  rcases h with rfl | ⟨g, rfl, h1, h2, h3, hu⟩
  · exact .inl rfl
  · exact .inr ⟨g, rfl, h1, h2, Nat.lt_of_lt_of_le h3 hs, hu.of_block (hb g h3 (hp g h1 h2))⟩
def LstV (W : World) (v : Value) (zs : List ByteArray) (lo hi : Nat) : Prop := ∃ a c, v = .slice a zs.length c ∧ Lst W a zs lo hi
theorem LstV.below {W W' : World} {v : Value} {zs : List ByteArray} {lo hi : Nat} (h : LstV W v zs lo hi) (hb : Below W.heap.size W W') : LstV W' v zs lo hi := by
  obtain ⟨a, c, e, hl⟩ := h; exact ⟨a, c, e, hl.below hb⟩
theorem LstV.mono {W : World} {v : Value} {zs : List ByteArray} {lo hi lo' hi' : Nat} (h : LstV W v zs lo hi) (h1 : lo' ≤ lo) (h2 : hi ≤ hi') : LstV W v zs lo' hi' := by
  obtain ⟨a, c, e, hl⟩ := h; exact ⟨a, c, e, hl.mono h1 h2⟩
theorem lstV_nil (W : World) (a : Option Addr) (c lo hi : Nat) : LstV W (.slice a 0 c) [] lo hi := ⟨a, c, rfl, .inl rfl⟩
theorem upto_own {w : World} {base g cap n : Nat} {zs : List ByteArray} (hn : n = zs.length) (h : w.ownsRow base 9 1 (.slice (some ⟨g, 0, none⟩) n cap) n (flat zs)) : Upto w g n n zs := by
  subst hn
  refine ⟨fun i hi => ?_, fun i hi => ?_⟩
  · have := h.cells (g := g) rfl i _ (flat_get hi)
    rw [plain_add, Nat.zero_add] at this
    exact this
  · obtain ⟨_, ⟨e, _⟩ | ⟨g', cap', cur, e, _, hg, h1, _, h3, _⟩⟩ := h
    · cases e
    · cases e
      have hlt : i < cur.size := by rw [h3]; omega
      exact ⟨by simp [World.cell?, hg, hlt], by simp [World.frozen?, hg]⟩
theorem lst_own {w : World} {base n : Nat} {v : Value} {zs : List ByteArray} (hn : n = zs.length) (h : w.ownsRow base 9 1 v n (flat zs)) : LstV w v zs base w.heap.size := by
  unfold LstV
  have h' := h
  obtain ⟨hl, ⟨rfl, h0⟩ | ⟨g, cap, cur, rfl, hb, hg, _, _, _, _⟩⟩ := h
  · exact ⟨none, 0, by rw [← hn, h0], .inl (List.eq_nil_of_length_eq_zero (by omega))⟩
  · have hlt : g < w.heap.size := by
      rcases Nat.lt_or_ge g w.heap.size with h | h
      · exact h
      · rw [Array.getElem?_eq_none h] at hg; cases hg
    refine ⟨_, cap, by rw [hn], .inr ⟨g, rfl, hb, hlt, hlt, ?_⟩⟩
    have := upto_own hn h'
    rw [hn] at this; exact this
theorem infoI : ∃ i, Try.prog.info? 9 = some i ∧ i.zero = some (.string ByteArray.empty) ∧ i.size = 1 ∧ i.bytes = 16 := by
  have h : (Try.prog.info? 9).map (fun i => (i.zero, i.size, i.bytes)) = some (some (.string ByteArray.empty), 1, 16) := by kernel_rfl
  obtain ⟨i, hi, he⟩ := Option.map_eq_some_iff.1 h
  simp only [Prod.mk.injEq] at he
  exact ⟨i, hi, he.1, he.2.1, he.2.2⟩
theorem own_empty (w : World) (base : Nat) (hb : base ≤ w.heap.size) : (w.alloc (.cells #[] 9)).ownsRow base 9 1 (.slice (some ⟨w.heap.size, 0, none⟩) 0 0) ([] : List ByteArray).length (flat []) := World.ownsRow_made w #[] 0 hb (Nat.zero_le _) (by simp)
theorem own_nil (w : World) (base : Nat) : w.ownsRow base 9 1 (.slice none 0 0) ([] : List ByteArray).length (flat []) := World.ownsRow_nil w base _ _
theorem below_own {B : Nat} {w0 w w' : World} {base : Nat} {v : Value} {n : Nat} {xs : List Value} (h : Below B w0 w) (ho : w.ownsRow base 9 1 v n xs) (hg : w.grownBy w' v.ownBlock) (hb : B ≤ base) (hB : B ≤ w.heap.size) : Below B w0 w' :=
  h.grown hg hB (fun k hk => Nat.le_trans hb (ho.lt k hk).1)
/-- A mark's text. -/
def mtx (k : Nat) : ByteArray := ⟨#[109]⟩ ++ dig k
set_option maxRecDepth 100000 in
set_option maxHeartbeats 2000000 in
theorem markText (k : Nat) (h1 : 1 ≤ k) (h8 : k ≤ 99999999) (w : World) :
    Calls Try.prog 42 #[.int .i64 (k : Int)] w fun e w' => e = .returned (.string (mtx k)) ∧ Below w.heap.size w w' := by
  have hk0 : ¬ ((k : Int) ≤ 0) := by omega
  have hsz := dig_size8 k h8
  have HD : Hid (mtx k = ⟨#[109]⟩ ++ dig k) := hide rfl
  have H0 : Hid (dig k ++ (⟨#[]⟩ : ByteArray) = dig k) := hide (by apply ByteArray.ext; simp [ByteArray.data_append])
  generalize hdk : dig k = dk at *
  have HDK := hide hdk
  clear hdk
  go_enter Try.func42, Try.ntmps42
  go_wp2_with fail
  go_loopw [0, 3] (fun q o wr => ∃ (t : Nat) (u : ByteArray), q = .int .i64 (t : Int) ∧ o = .string u ∧ t ≤ k ∧ u.size ≤ 8 ∧ Hid (t = 0 → u = dk) ∧ Hid (1 ≤ t → dig t ++ u = dk) ∧ Hid (Below w.heap.size w wr)) (fun q _ _ => (intOf q).toNat)
  case atStart => exact ⟨k, ⟨#[]⟩, rfl, rfl, Nat.le_refl _, by decide, hide (fun h => by omega), hide (fun _ => by rw [unhide HDK]; have := unhide H0; exact this), hide (Below.refl _ _)⟩
  case round =>
    obtain ⟨t, u, rfl, rfl, htk, hu8, hz, hp, hbl⟩ := hrel
    by_cases h0 : 1 ≤ t
    · have hpos : (0 : Int) < (t : Int) := by omega
      have htm : (t : Int).tmod 10 = (t : Int) % 10 := Int.tmod_eq_emod_of_nonneg (by omega)
      have htd : (t : Int).tdiv 10 = (t : Int) / 10 := Int.tdiv_eq_ediv_of_nonneg (by omega)
      have hw1 : IntKind.i64.wrap ((t : Int) / 10) = (t : Int) / 10 := wrapS (by omega) (by omega)
      have hw2 : IntKind.i64.wrap (48 + (t : Int) % 10) = 48 + (t : Int) % 10 := wrapS (by omega) (by omega)
      have hw3 : IntKind.u8.wrap (48 + (t : Int) % 10) = 48 + (t : Int) % 10 := by rw [IntKind.wrap_u8]; omega
      have hc := conv1 (wr.alloc (Obj.cells #[Value.int IntKind.u8 (48 + (t : Int) % 10)] 5)) wr.heap.size (48 + (t : Int) % 10) (by simp [go_sem])
      have hnb : ∀ n : Int, ¬ (9223372036854775807 < (strOfNums [n]).size + u.size) := fun n => by rw [strOfNums_size]; simp; omega
      have hpp := unhide hp h0
      have HN : Hid ((t / 10 = 0 → strOfNums [48 + (t : Int) % 10] ++ u = dk) ∧ (1 ≤ t / 10 → dig (t / 10) ++ (strOfNums [48 + (t : Int) % 10] ++ u) = dk)) := hide (by
        constructor
        · intro hl
          have ht : t < 10 := by omega
          rw [← hpp, ← dig_one ht, show (48 + (t : Int) % 10) = 48 + (t : Int) by omega]
        · intro hl
          rw [← hpp, ← dig_more (k := t) (by omega)]
          apply ByteArray.ext
          simp [ByteArray.data_append, Array.append_assoc])
      have hsz2 : (strOfNums [48 + (t : Int) % 10] ++ u).size ≤ 8 := by
        have hs : (strOfNums [48 + (t : Int) % 10] ++ u).size ≤ dk.size := by
          by_cases hl : t / 10 = 0
          · rw [(unhide HN).1 hl]; exact Nat.le_refl _
          · rw [← (unhide HN).2 (by omega), ByteArray.size_append (a := dig (t / 10))]; omega
        omega
      have HB := hide ((unhide hbl).alloc (unhide hbl).size (.cells #[.int .u8 (48 + (t : Int) % 10)] 5))
      have hq10 : ((t / 10 : Nat) : Int) = (t : Int) / 10 := by omega
      clear hpp hp hz
      go_wp2_with fail
      generalize strOfNums [48 + (t : Int) % 10] ++ u = u' at *
      go_roundw
      case rel => exact ⟨t / 10, u', by first | rw [hq10] | (rw [hq10]; rfl) | simp, rfl, by omega, hsz2, hide (unhide HN).1, hide (unhide HN).2, HB⟩
      case measure => simp [intOf]; omega
    · obtain rfl : t = 0 := by omega
      have e : u = dk := unhide hz rfl
      subst e
      have hnb : ¬ (9223372036854775807 < (⟨#[109]⟩ : ByteArray).size + u.size) := by
        have : (⟨#[109]⟩ : ByteArray).size = 1 := rfl
        omega
      go_wp2_with fail
      go_ret
      exact ⟨by rw [unhide HD]; first | rfl | simp, unhide hbl⟩
/-- The marks from K on. -/
def marks (K : Int) (n : Nat) : List ByteArray := (List.range n).map fun t : Nat => mtx (K + 1 * (t : Int)).toNat
theorem marks_len (K : Int) (n : Nat) : (marks K n).length = n := by simp [marks]
theorem marks_at (K : Int) (n t : Nat) (h : t < n) : (marks K n).getD t ByteArray.empty = mtx (K + 1 * (t : Int)).toNat := by
  unfold marks
  rw [List.getD_eq_getElem?_getD, List.getElem?_map, List.getElem?_range h]; rfl
theorem grown_set {w w1 : World} {g o : Nat} {v : Value} (h : w.grownBy w1 (some g)) : w.grownBy (w1.setCell ⟨g, o, none⟩ v) (some g) :=
  ⟨h.os, h.tape, h.output, by have := h.size; simp [World.setCell]; exact this, fun k hk hne => (Below.heap_setCell _ _ _ _ (fun e => hne (by rw [e]))).trans (h.block k hk hne)⟩
end Ss
end Go.Proofs.Ytpmlpojefelbbaa
namespace Go.Proofs.Ytpmlpojefelbbaa
open Go.ChangeShapes Go.WideShapes Go.ChangeAt Go.RowKit
set_option linter.unusedVariables false
set_option linter.unusedSimpArgs false
set_option maxRecDepth 100000
attribute [local go_sem ↓] Go.wp_at_zero Go.wp_at_succ
namespace Fm
open W1
def mkF (K : Int) : R := ⟨K, K + 1, K + 1 + 1, Ss.mtx (K + 1 + 1 + 1).toNat⟩
def mksF (K : Int) (n : Nat) : List R := (List.range n).map fun t : Nat => mkF (K + 4 * (t : Int))
theorem mksF_len (K : Int) (n : Nat) : (mksF K n).length = n := by simp [mksF]
theorem mksF_at (K : Int) (n t : Nat) (h : t < n) : (mksF K n).getD t R.zero = mkF (K + 4 * (t : Int)) := by
  unfold mksF
  rw [List.getD_eq_getElem?_getD, List.getElem?_map, List.getElem?_range h]; rfl
theorem gset {w w1 : World} {g o : Nat} {v : Value} (h : w.grownBy w1 (some g)) : w.grownBy (w1.setCell ⟨g, o, none⟩ v) (some g) :=
  ⟨h.os, h.tape, h.output, by have := h.size; simp [World.setCell]; exact this, fun k hk hne => (Below.heap_setCell _ _ _ _ (fun e => hne (by rw [e]))).trans (h.block k hk hne)⟩
theorem gbel {w w1 w2 : World} {g : Nat} (h : w.grownBy w1 (some g)) (hb : Below w1.heap.size w1 w2) : w.grownBy w2 (some g) :=
  ⟨hb.os.trans h.os, hb.tape.trans h.tape, hb.output.trans h.output, Nat.le_trans h.size hb.size, fun k hk hne => (hb.block k (Nat.lt_of_lt_of_le hk h.size)).trans (h.block k hk hne)⟩
theorem Upto.far {w : World} {g n j o : Nat} {ms : List R} (h : Upto w g n j ms) (ho : j * 4 ≤ o) (v : Value) : Upto (w.setCell ⟨g, o, none⟩ v) g n j ms := by
  have e : ∀ q, q ≠ o → (w.setCell ⟨g, o, none⟩ v).cell? ⟨g, q, none⟩ = w.cell? ⟨g, q, none⟩ := fun q hq => World.cell?_setCell_other _ _ _ _ (by intro h; cases h; exact hq rfl)
  refine ⟨fun i hi => ?_, fun i hi => ⟨?_, by rw [World.frozen?_setCell]; exact (h.2 i hi).2⟩⟩
  · obtain ⟨h0, h1, h2, h3⟩ := h.1 i hi
    exact ⟨(e _ (by omega)).trans h0, (e _ (by omega)).trans h1, (e _ (by omega)).trans h2, (e _ (by omega)).trans h3⟩
  · obtain ⟨u, hu⟩ := Option.isSome_iff_exists.1 (h.2 i hi).1
    obtain ⟨u', hu'⟩ := cell?_setCell_some (p := ⟨g, o, none⟩) (x := v) hu
    rw [hu']; rfl
theorem Upto.close {w : World} {g n j : Nat} {ms : List R} (h : Upto w g n j ms) (ha : At w g (j * 4) (ms.getD j R.zero)) : Upto w g n (j + 1) ms := by
  refine ⟨fun i hi => ?_, h.2⟩
  by_cases e : i = j
  · subst e; exact ha
  · exact h.1 i (by omega)
/-- The first j frames and three numbers of the next one. -/
def Up3 (w : World) (g n j : Nat) (x y z : Int) (ms : List R) : Prop := Upto w g n j ms ∧ w.cell? ⟨g, j * 4, none⟩ = some (.int .i64 x) ∧ w.cell? ⟨g, j * 4 + 1, none⟩ = some (.int .i64 y) ∧ w.cell? ⟨g, j * 4 + 2, none⟩ = some (.int .i64 z)
theorem Up3.of {w : World} {g n j : Nat} {ms : List R} (h : Upto w g n j ms) (hj : j < n) (x y z : Int) : Up3 (((w.setCell ⟨g, j * 4, none⟩ (.int .i64 x)).setCell ⟨g, j * 4 + 1, none⟩ (.int .i64 y)).setCell ⟨g, j * 4 + 2, none⟩ (.int .i64 z)) g n j x y z ms := by
  obtain ⟨v0, h0⟩ := Option.isSome_iff_exists.1 (h.2 (j * 4) (by omega)).1
  obtain ⟨v1, h1⟩ := Option.isSome_iff_exists.1 (h.2 (j * 4 + 1) (by omega)).1
  obtain ⟨v2, h2⟩ := Option.isSome_iff_exists.1 (h.2 (j * 4 + 2) (by omega)).1
  have n : ∀ {w : World} {v : Value} {a b : Nat}, a ≠ b → (w.setCell ⟨g, a, none⟩ v).cell? ⟨g, b, none⟩ = w.cell? ⟨g, b, none⟩ := fun {w v a b} e => World.cell?_setCell_other _ _ _ _ (by intro h; cases h; exact e rfl)
  refine ⟨((h.far (by omega) _).far (by omega) _).far (by omega) _, ?_, ?_, ?_⟩
  · rw [n (by omega), n (by omega), World.cell?_setCell_same _ _ _ h0]
  · rw [n (by omega), World.cell?_setCell_same _ _ _ ((n (by omega)).trans h1)]
  · rw [World.cell?_setCell_same _ _ _ ((n (by omega)).trans ((n (by omega)).trans h2))]
theorem Up3.below {w w' : World} {g n j : Nat} {x y z : Int} {ms : List R} (h : Up3 w g n j x y z ms) (hb : Below w.heap.size w w') (hg : g < w.heap.size) : Up3 w' g n j x y z ms :=
  ⟨h.1.below hb hg, (hb.cell (p := ⟨g, j * 4, none⟩) hg).trans h.2.1, (hb.cell (p := ⟨g, j * 4 + 1, none⟩) hg).trans h.2.2.1, (hb.cell (p := ⟨g, j * 4 + 2, none⟩) hg).trans h.2.2.2⟩
theorem Up3.put {w : World} {g n j : Nat} {x y z : Int} {bs : ByteArray} {ms : List R} (h : Up3 w g n j x y z ms) (hj : j < n) (e : ms.getD j R.zero = ⟨x, y, z, bs⟩) : Upto (w.setCell ⟨g, j * 4 + 3, none⟩ (.string bs)) g n (j + 1) ms := by
  obtain ⟨v3, h3⟩ := Option.isSome_iff_exists.1 (h.1.2 (j * 4 + 3) (by omega)).1
  have n : ∀ {w : World} {v : Value} {a b : Nat}, a ≠ b → (w.setCell ⟨g, a, none⟩ v).cell? ⟨g, b, none⟩ = w.cell? ⟨g, b, none⟩ := fun {w v a b} e => World.cell?_setCell_other _ _ _ _ (by intro h; cases h; exact e rfl)
  refine (h.1.far (by omega) _).close ?_
  rw [e]
  exact ⟨(n (by omega)).trans h.2.1, (n (by omega)).trans h.2.2.1, (n (by omega)).trans h.2.2.2, World.cell?_setCell_same _ _ _ h3⟩
set_option maxHeartbeats 8000000 in
theorem mkFS (g n c : Nat) (K : Int) (ms : List R) (w : World) (hK : 0 ≤ K) (hK1 : K + 4 * n ≤ 99999990) (hn : n ≤ 1048576) (hg : g < w.heap.size) (hU : Upto w g n n ms) :
    Calls Try.prog 25 #[.slice (some ⟨g, 0, none⟩) n c, .int .i64 K] w fun e w' => e = .returned (.int .i64 (K + 4 * (n : Int))) ∧ w.grownBy w' (some g) ∧ Upto w' g n n (mksF K n) := by
  have hU0 : Hid (Upto w g n 0 (mksF K n)) := hide ⟨fun i hi => by omega, hU.2⟩
  clear hU
  go_enter Try.func25, Try.ntmps25
  go_wp2
  go_loopw [1, 5] (fun q i wr => ∃ j : Nat, j ≤ n ∧ i = .int .i64 j ∧ q = .int .i64 (K + 4 * (j : Int)) ∧ Hid (w.grownBy wr (some g)) ∧ Hid (Upto wr g n j (mksF K n))) (fun _ i _ => n - (intOf i).toNat)
  case atStart => exact ⟨0, by omega, rfl, by simp, hide ⟨rfl, rfl, rfl, Nat.le_refl _, fun _ _ _ => rfl⟩, hU0⟩
  case round =>
    obtain ⟨j, hj, rfl, rfl, hgr, hu⟩ := hrel
    by_cases hlt : (j : Int) < (n : Int)
    · have k0 : (0 : Int) ≤ (j : Int) := by omega
      have hma := mksF_at K n j (by omega)
      obtain ⟨q, hq⟩ : ∃ q, K + 4 * (j : Int) = q := ⟨_, rfl⟩
      rw [hq] at hma ⊢
      obtain ⟨t, ht⟩ : ∃ t : Nat, q + 1 + 1 + 1 = (t : Int) := ⟨(q + 1 + 1 + 1).toNat, by omega⟩
      unfold mkF at hma
      rw [ht, Int.toNat_natCast] at hma
      have HMA := hide hma
      have hgs : g < wr.heap.size := Nat.lt_of_lt_of_le hg (unhide hgr).size
      have HQ := hide hq
      have HT := hide ht
      have hq0 : 0 ≤ q := by omega
      have hq1 : q ≤ 99999990 := by omega
      have ht1 : 1 ≤ t := by omega
      have ht8 : t ≤ 99999999 := by omega
      obtain ⟨v0, x0⟩ := Option.isSome_iff_exists.1 ((unhide hu).2 (j * 4) (by omega)).1
      obtain ⟨v1, x1⟩ := Option.isSome_iff_exists.1 ((unhide hu).2 (j * 4 + 1) (by omega)).1
      obtain ⟨v2, x2⟩ := Option.isSome_iff_exists.1 ((unhide hu).2 (j * 4 + 2) (by omega)).1
      have y0 := ((unhide hu).2 (j * 4) (by omega)).2
      have y1 := ((unhide hu).2 (j * 4 + 1) (by omega)).2
      have y2 := ((unhide hu).2 (j * 4 + 2) (by omega)).2
      have HU3 := hide (Up3.of (unhide hu) (show j < n by omega) q (q + 1) (q + 1 + 1))
      have HG3 := hide (gset (o := j * 4 + 2) (v := .int .i64 (q + 1 + 1)) (gset (o := j * 4 + 1) (v := .int .i64 (q + 1)) (gset (o := j * 4) (v := .int .i64 q) (unhide hgr))))
      have HS3 := hide (show g < (((wr.setCell ⟨g, j * 4, none⟩ (.int .i64 q)).setCell ⟨g, j * 4 + 1, none⟩ (.int .i64 (q + 1))).setCell ⟨g, j * 4 + 2, none⟩ (.int .i64 (q + 1 + 1))).heap.size by simpa [World.setCell] using hgs)
      clear hq hma hgs hu hgr
      go_wp2_with fail
      clear x0 x1 x2 y0 y1 y2
      try rw [unhide HT]
      generalize ((wr.setCell ⟨g, j * 4, none⟩ (.int .i64 q)).setCell ⟨g, j * 4 + 1, none⟩ (.int .i64 (q + 1))).setCell ⟨g, j * 4 + 2, none⟩ (.int .i64 (q + 1 + 1)) = w3 at *
      refine (Ss.markText t ht1 ht8 _).mono ?_
      rintro e w4 ⟨rfl, b4⟩
      have HU4 := hide ((unhide HU3).below b4 (unhide HS3))
      have HG4 := hide (gbel (unhide HG3) b4)
      clear b4 HU3 HG3
      obtain ⟨v3, x3⟩ := Option.isSome_iff_exists.1 ((unhide HU4).1.2 (j * 4 + 3) (by omega)).1
      have y3 := ((unhide HU4).1.2 (j * 4 + 3) (by omega)).2
      have HST := hide ((unhide HU4).put (by omega) (unhide HMA))
      have HGN := hide (gset (o := j * 4 + 3) (v := .string (Ss.mtx t)) (unhide HG4))
      clear HU4 HG4 HMA
      generalize Ss.mtx t = mt at *
      clear ht
      go_wp2_with fail
      exact ⟨⟨j + 1, by omega, by go_num, by have h1 := unhide HT; have h2 := unhide HQ; first | (congr 1; omega) | (simp; omega), HGN, HST⟩, by simp [intOf]; omega⟩
    · obtain rfl : j = n := by omega
      go_wp2
      go_ret
      exact ⟨rfl, unhide hgr, unhide hu⟩
theorem mkFS0 (a : Option Addr) (c : Nat) (K : Int) (w : World) :
    Calls Try.prog 25 #[.slice a 0 c, .int .i64 K] w fun e w' => e = .returned (.int .i64 K) ∧ w' = w := by
  go_enter Try.func25, Try.ntmps25
  go_wp2
  go_loop [1, 5] (fun q i => q = .int .i64 K ∧ i = .int .i64 0) (fun _ i => 0)
  case atStart => exact ⟨rfl, rfl⟩
  case round =>
    obtain ⟨rfl, rfl⟩ := hrel
    go_wp2
    go_ret
    exact ⟨rfl, rfl⟩
/-- Marks on a list that may be written, whether it has any or not. -/
theorem mkFF (a : Option Addr) (c lo hi : Nat) (K : Int) (ms : List R) (w : World) (hK : 0 ≤ K) (hK1 : K + 4 * ms.length ≤ 99999990) (hn : ms.length ≤ 1048576) (h : Lst w a ms lo hi) :
    Calls Try.prog 25 #[.slice a ms.length c, .int .i64 K] w fun e w' => e = .returned (.int .i64 (K + 4 * (ms.length : Int))) ∧ w.heap.size ≤ w'.heap.size ∧ Below (min lo w.heap.size) w w' ∧ Lst w' a (mksF K ms.length) lo hi ∧ ∀ k, k < w.heap.size → (k < lo ∨ hi ≤ k) → w'.heap[k]? = w.heap[k]? := by
  have hnil : ∀ w', w' = w → w.heap.size ≤ w'.heap.size ∧ Below (min lo w.heap.size) w w' ∧ ∀ k, k < w.heap.size → (k < lo ∨ hi ≤ k) → w'.heap[k]? = w.heap[k]? := by
    rintro w' rfl
    exact ⟨Nat.le_refl _, Below.refl _ _, fun _ _ _ => rfl⟩
  by_cases h0 : ms.length = 0
  · obtain rfl : ms = [] := List.eq_nil_of_length_eq_zero h0
    refine (mkFS0 a c K w).mono ?_
    rintro e w' ⟨rfl, hw⟩
    obtain ⟨q1, q2, q3⟩ := hnil w' hw
    exact ⟨by simp, q1, q2, .inl rfl, q3⟩
  rcases h with rfl | ⟨g, rfl, h1, h2, h3, hu⟩
  · simp at h0
  refine (mkFS g ms.length c K ms w hK hK1 hn h3 hu).mono ?_
  rintro e w' ⟨rfl, gr, hu'⟩
  exact ⟨rfl, gr.size, ⟨gr.os, gr.tape, gr.output, gr.size, fun k hk => gr.block k (by omega) (fun e => by cases e; omega)⟩, .inr ⟨g, rfl, h1, h2, Nat.lt_of_lt_of_le h3 gr.size, by rw [mksF_len]; exact hu'⟩, fun k hk hne => gr.block k hk (fun e => by cases e; omega)⟩
theorem hdFS0 (a : Option Addr) (c : Nat) (K : Int) (w : World) :
    Calls Try.prog 28 #[.slice a 0 c, .int .i64 K] w fun e w' => e = .returned (.int .i64 K) ∧ w' = w := by
  go_enter Try.func28, Try.ntmps28
  go_wp2
  go_loop [1, 5] (fun q i => q = .int .i64 K ∧ i = .int .i64 0) (fun _ i => 0)
  case atStart => exact ⟨rfl, rfl⟩
  case round =>
    obtain ⟨rfl, rfl⟩ := hrel
    go_wp2
    go_ret
    exact ⟨rfl, rfl⟩
set_option maxHeartbeats 8000000 in
theorem hdFS (g n c : Nat) (K : Int) (w : World) (hK : 0 ≤ K) (hK1 : K + 4 * n ≤ 99999990) (hn : n ≤ 1048576) (hg : g < w.heap.size) (hU : Upto w g n n (mksF K n)) :
    Calls Try.prog 28 #[.slice (some ⟨g, 0, none⟩) n c, .int .i64 K] w fun e w' => e = .returned (.int .i64 (K + 4 * (n : Int))) ∧ Below w.heap.size w w' := by
  have HU := hide hU
  clear hU
  go_enter Try.func28, Try.ntmps28
  go_wp2
  go_loopw [1, 5] (fun q i wr => ∃ j : Nat, j ≤ n ∧ i = .int .i64 j ∧ q = .int .i64 (K + 4 * (j : Int)) ∧ Hid (Below w.heap.size w wr)) (fun _ i _ => n - (intOf i).toNat)
  case atStart => exact ⟨0, by omega, rfl, by simp, hide (Below.refl _ _)⟩
  case round =>
    obtain ⟨j, hj, rfl, rfl, hbl⟩ := hrel
    by_cases hlt : (j : Int) < (n : Int)
    · have k0 : (0 : Int) ≤ (j : Int) := by omega
      have hA := ((unhide HU).below (unhide hbl) hg).1 j (by omega)
      rw [mksF_at K n j (by omega)] at hA
      obtain ⟨q, hq⟩ : ∃ q, K + 4 * (j : Int) = q := ⟨_, rfl⟩
      rw [hq] at hA ⊢
      obtain ⟨t, ht⟩ : ∃ t : Nat, q + 1 + 1 + 1 = (t : Int) := ⟨(q + 1 + 1 + 1).toNat, by omega⟩
      unfold mkF at hA
      rw [ht, Int.toNat_natCast] at hA
      obtain ⟨c0, c1, c2, c3⟩ := hA
      dsimp only at c0 c1 c2 c3
      have HQ := hide hq
      have HT := hide ht
      have hq0 : 0 ≤ q := by omega
      have hq1 : q ≤ 99999990 := by omega
      have ht1 : 1 ≤ t := by omega
      have ht8 : t ≤ 99999999 := by omega
      obtain ⟨mt, hmt⟩ : ∃ mt, Ss.mtx t = mt := ⟨_, rfl⟩
      rw [hmt] at c3
      have HMT := hide hmt
      have HC3 := hide c3
      clear hmt c3 hq ht
      go_wp2_with fail
      clear c0 c1 c2
      refine wp_region_noPanic ?_
      refine wp_region_held_drew (S := fun w' => w'.cell? ⟨g, j * 4 + 3, none⟩ = some (.string mt)) (by kernel_rfl) (show wr.drew.cell? ⟨g, j * 4 + 3, none⟩ = some (.string mt) from unhide HC3) (fun hHeld => ?_)
      refine Rg.t 0 39 ?_
      refine Rg.t 1 40 ?_
      refine Rg.t 2 41 ?_
      refine Rg.t 3 42 ?_
      refine Rg.t 4 43 ?_
      refine Rg.t 5 44 ?_
      (refine Rg.o 6 (fun K hK => ?_); go_simp)
      rw [unhide HT]
      refine (Ss.markText t ht1 ht8 _).mono ?_
      rintro e w1 ⟨rfl, b1⟩
      rw [unhide HMT]
      have hc1 : w1.cell? ⟨g, j * 4 + 3, none⟩ = some (.string mt) := (b1.cell (p := ⟨g, j * 4 + 3, none⟩) (World.block_lt_of_cell? _ _ hHeld)).trans hHeld
      have HB1 := hide ((unhide hbl).drew.trans (b1.mono (by show w.heap.size ≤ wr.heap.size; exact (unhide hbl).size)))
      clear b1 hHeld
      refine hK.out _ _ hc1 (fun hHeld => ?_)
      clear hK K
      (try simp only [Act.put, List.setIfInBounds_toArray, List.set_cons_zero, List.set_cons_succ])
      refine Rg.t 7 46 ?_
      refine wpAnyH_done (by kernel_rfl) (NoPanic.normal ?_) _
      clear hHeld hc1
      go_wp2_with fail
      go_roundw
      case rel => exact ⟨j + 1, by omega, by go_num, by have h1 := unhide HT; have h2 := unhide HQ; first | (congr 1; omega) | (simp; omega), HB1⟩
      case measure => simp [intOf]; omega
    · obtain rfl : j = n := by omega
      go_wp2
      go_ret
      exact ⟨by first | trivial | rfl | simp, unhide hbl⟩
theorem hdFF (a : Option Addr) (c n lo hi : Nat) (K : Int) (w : World) (hK : 0 ≤ K) (hK1 : K + 4 * n ≤ 99999990) (hn : n ≤ 1048576) (h : Lst w a (mksF K n) lo hi) :
    Calls Try.prog 28 #[.slice a n c, .int .i64 K] w fun e w' => e = .returned (.int .i64 (K + 4 * (n : Int))) ∧ Below w.heap.size w w' := by
  by_cases h0 : n = 0
  · subst h0
    refine (hdFS0 a c K w).mono ?_
    rintro e w' ⟨rfl, rfl⟩
    exact ⟨by simp, Below.refl _ _⟩
  rcases h with h | ⟨g, rfl, _, _, h3, hu⟩
  · have := mksF_len K n; rw [h] at this; simp at this; omega
  · rw [mksF_len] at hu
    exact hdFS g n c K w hK hK1 hn h3 hu
end Fm
end Go.Proofs.Ytpmlpojefelbbaa
namespace Go.Proofs.Ytpmlpojefelbbaa
open Go.ChangeShapes Go.WideShapes Go.ChangeAt Go.RowKit
set_option linter.unusedVariables false
set_option linter.unusedSimpArgs false
set_option maxRecDepth 100000
attribute [local go_sem ↓] Go.wp_at_zero Go.wp_at_succ
namespace Nt
open W1 Rt
/-- Routers that may be written, whether there are any or not. -/
def NL (W : World) (a : Option Addr) (lo hi n : Nat) (f : Nat → Nat) (M : Nat → Rm) (Q : Nat → Pl) : Prop := n = 0 ∨ ∃ g, a = some ⟨g, 0, none⟩ ∧ lo ≤ g ∧ g < hi ∧ g < W.heap.size ∧ (∀ i, i < n → g < f i ∨ f (i + 1) ≤ g) ∧ (∀ i, i < n → f i ≤ f (i + 1)) ∧ (∀ i, i < n → lo ≤ f i ∧ f (i + 1) ≤ hi ∧ f (i + 1) ≤ W.heap.size) ∧ MkS W g n f M Q
theorem MkS.but {w w' : World} {g n lo hi L H : Nat} {f : Nat → Nat} {M : Nat → Rm} {Q : Nat → Pl} (h : MkS w g n f M Q) (hs : w.heap.size ≤ w'.heap.size) (hgs : g < w.heap.size) (hg : lo ≤ g ∧ g < hi) (hfl : ∀ i, i < n → lo ≤ f i ∧ f (i + 1) ≤ hi) (hb : ∀ k, k < w.heap.size → (k < L ∨ H ≤ k) → w'.heap[k]? = w.heap[k]?) (hd : hi ≤ L ∨ H ≤ lo) : MkS w' g n f M Q := by
  have e : w'.heap[g]? = w.heap[g]? := hb g hgs (by omega)
  have cb : ∀ q, w'.cell? ⟨g, q, none⟩ = w.cell? ⟨g, q, none⟩ := fun q => World.cell?_of_block (a := ⟨g, q, none⟩) e
  have fb : ∀ q, w'.frozen? ⟨g, q, none⟩ = w.frozen? ⟨g, q, none⟩ := fun q => World.frozen?_of_block (a := ⟨g, q, none⟩) e
  exact ⟨fun i hi k u hu => (cb _).trans (h.1 i hi k u hu), fun k hk => by rw [cb, fb]; exact h.2.1 k hk, fun i hi => (h.2.2 i hi).but hs hb (by have := hfl i hi; omega)⟩
theorem NL.but {w w' : World} {a : Option Addr} {lo hi n L H : Nat} {f : Nat → Nat} {M : Nat → Rm} {Q : Nat → Pl} (h : NL w a lo hi n f M Q) (hs : w.heap.size ≤ w'.heap.size) (hb : ∀ k, k < w.heap.size → (k < L ∨ H ≤ k) → w'.heap[k]? = w.heap[k]?) (hd : hi ≤ L ∨ H ≤ lo) : NL w' a lo hi n f M Q := by
  rcases h with h | ⟨g, rfl, h1, h2, h3, h4, h5, h6, h7⟩
  · exact .inl h
  · exact .inr ⟨g, rfl, h1, h2, Nat.lt_of_lt_of_le h3 hs, h4, h5, fun i hi => ⟨(h6 i hi).1, (h6 i hi).2.1, Nat.le_trans (h6 i hi).2.2 hs⟩, h7.but hs h3 ⟨h1, h2⟩ (fun i hi => ⟨(h6 i hi).1, (h6 i hi).2.1⟩) hb hd⟩
theorem NL.below {w w' : World} {a : Option Addr} {lo hi n : Nat} {f : Nat → Nat} {M : Nat → Rm} {Q : Nat → Pl} (h : NL w a lo hi n f M Q) (hb : Below w.heap.size w w') : NL w' a lo hi n f M Q := by
  rcases h with h | ⟨g, rfl, h1, h2, h3, h4, h5, h6, h7⟩
  · exact .inl h
  · refine .inr ⟨g, rfl, h1, h2, Nat.lt_of_lt_of_le h3 hb.size, h4, h5, fun i hi => ⟨(h6 i hi).1, (h6 i hi).2.1, Nat.le_trans (h6 i hi).2.2 hb.size⟩, ?_⟩
    exact ⟨fun i hi => rng_under (h7.1 i hi) hb h3, there_under h7.2.1 hb h3, fun i hi => (h7.2.2 i hi).below hb⟩
theorem NL.nr {w : World} {a : Option Addr} {lo hi n : Nat} {f : Nat → Nat} {ms : List Rm} {qs : List Pl} (hn : ms.length = n) (h : NL w a lo hi n f (fun i => ms.getD i Rm.zero) (fun i => qs.getD i Pl.zero)) : NR w a ms qs := by
  rcases h with h | ⟨g, rfl, h1, h2, h3, h4, h5, h6, h7⟩
  · exact .inl (List.eq_nil_of_length_eq_zero (by omega))
  · exact .inr ⟨g, 0, rfl, fun i hi => ⟨by rw [Nat.zero_add]; exact h7.1 i (by omega), (h7.2.2 i (by omega)).rd⟩⟩
/-- A net in memory of its own: its rows, its costs, its frames, each in an interval. -/
def MT (W : World) (lo hi : Nat) (a b d : Option Addr) (ms : List Rm) (qs : List Pl) (cs : List Int) (fs : List Fm.R) : Prop :=
  ∃ f p1 q1 p2 q2 p3 q3, (lo ≤ p1 ∧ q1 ≤ hi) ∧ (lo ≤ p2 ∧ q2 ≤ hi) ∧ (lo ≤ p3 ∧ q3 ≤ hi) ∧ (q1 ≤ p2 ∨ q2 ≤ p1) ∧ (q1 ≤ p3 ∨ q3 ≤ p1) ∧ (q2 ≤ p3 ∨ q3 ≤ p2) ∧ NL W a p1 q1 ms.length f (fun i => ms.getD i Rm.zero) (fun i => qs.getD i Pl.zero) ∧ In.Lst W b cs p2 q2 ∧ Fm.Lst W d fs p3 q3
theorem MT.below {W W' : World} {lo hi : Nat} {a b d : Option Addr} {ms : List Rm} {qs : List Pl} {cs : List Int} {fs : List Fm.R} (h : MT W lo hi a b d ms qs cs fs) (hb : Below W.heap.size W W') : MT W' lo hi a b d ms qs cs fs := by
  obtain ⟨f, p1, q1, p2, q2, p3, q3, e1, e2, e3, e4, e5, e6, h1, h2, h3⟩ := h
  exact ⟨f, p1, q1, p2, q2, p3, q3, e1, e2, e3, e4, e5, e6, h1.below hb, h2.below hb, h3.below hb⟩
theorem MT.but {W W' : World} {lo hi L H : Nat} {a b d : Option Addr} {ms : List Rm} {qs : List Pl} {cs : List Int} {fs : List Fm.R} (h : MT W lo hi a b d ms qs cs fs) (hs : W.heap.size ≤ W'.heap.size) (hb : ∀ k, k < W.heap.size → (k < L ∨ H ≤ k) → W'.heap[k]? = W.heap[k]?) (hd : hi ≤ L ∨ H ≤ lo) : MT W' lo hi a b d ms qs cs fs := by
  obtain ⟨f, p1, q1, p2, q2, p3, q3, e1, e2, e3, e4, e5, e6, h1, h2, h3⟩ := h
  exact ⟨f, p1, q1, p2, q2, p3, q3, e1, e2, e3, e4, e5, e6, h1.but hs hb (by omega), h2.but (p := fun k => k < L ∨ H ≤ k) hs (fun k hk h => hb k hk h) (fun k h1 h2 => by omega), h3.but (p := fun k => k < L ∨ H ≤ k) hs (fun k hk h => hb k hk h) (fun k h1 h2 => by omega)⟩
theorem MT.nr {W : World} {lo hi : Nat} {a b d : Option Addr} {ms : List Rm} {qs : List Pl} {cs : List Int} {fs : List Fm.R} (h : MT W lo hi a b d ms qs cs fs) : NR W a ms qs := by
  obtain ⟨f, p1, q1, p2, q2, p3, q3, e1, e2, e3, e4, e5, e6, h1, h2, h3⟩ := h; exact h1.nr rfl
theorem MT.ri {W : World} {lo hi : Nat} {a b d : Option Addr} {ms : List Rm} {qs : List Pl} {cs : List Int} {fs : List Fm.R} (h : MT W lo hi a b d ms qs cs fs) : In.RM W b cs := by
  obtain ⟨f, p1, q1, p2, q2, p3, q3, e1, e2, e3, e4, e5, e6, h1, h2, h3⟩ := h; exact h2.rm
theorem MT.rf {W : World} {lo hi : Nat} {a b d : Option Addr} {ms : List Rm} {qs : List Pl} {cs : List Int} {fs : List Fm.R} (h : MT W lo hi a b d ms qs cs fs) : Fm.RM W d fs := by
  obtain ⟨f, p1, q1, p2, q2, p3, q3, e1, e2, e3, e4, e5, e6, h1, h2, h3⟩ := h; exact h3.rm
theorem OwT.mt {W : World} {lo hi g1 g2 g3 : Nat} {ms : List Rm} {qs : List Pl} {cs : List Int} {fs : List Fm.R} (h : OwT W lo hi g1 g2 g3 ms qs cs fs) : MT W lo hi (some ⟨g1, 0, none⟩) (some ⟨g2, 0, none⟩) (some ⟨g3, 0, none⟩) ms qs cs fs := by
  obtain ⟨p, e1, e2, e3, e4, e5, e6, _, h1, ⟨f, f0, f1, f2, f3⟩, h3, h4⟩ := h
  have up : ∀ i k, i + k ≤ ms.length → f i ≤ f (i + k) := fun i k => by
    induction k with
    | zero => intro _; exact Nat.le_refl _
    | succ k ih => intro hk; exact Nat.le_trans (ih (by omega)) (f1 (i + k) (by omega))
  have fb : ∀ i, i < ms.length → g1 + 1 ≤ f i ∧ f (i + 1) ≤ p := fun i hi => by
    have h0 := up 0 i (by omega)
    have h9 := up (i + 1) (ms.length - (i + 1)) (by omega)
    rw [Nat.zero_add] at h0
    rw [show i + 1 + (ms.length - (i + 1)) = ms.length by omega] at h9
    omega
  refine ⟨f, g1, p, g2, g2 + 1, g3, g3 + 1, by omega, by omega, by omega, by omega, by omega, by omega, ?_, ?_, ?_⟩
  · exact .inr ⟨g1, rfl, Nat.le_refl _, e2, by omega, fun i hi => .inl (by have := fb i hi; omega), f1, fun i hi => by have := fb i hi; omega, h1.1, h1.2, f3⟩
  · exact .inr ⟨g2, rfl, Nat.le_refl _, by omega, by omega, h3⟩
  · exact .inr ⟨g3, rfl, Nat.le_refl _, by omega, by omega, h4⟩
/-- A net's marks from K on. -/
def MM (W : World) (a b d : Option Addr) (K : Int) (ms : List Rm) (qs : List Pl) (cs : List Int) (fs : List Fm.R) (lo hi : Nat) : Prop :=
  ∃ f p1 q1 p2 q2 p3 q3, ((lo ≤ p1 ∧ q1 ≤ hi) ∧ (lo ≤ p2 ∧ q2 ≤ hi) ∧ (lo ≤ p3 ∧ q3 ≤ hi)) ∧ NL W a p1 q1 ms.length f (fun i => mkM (ms.getD i Rm.zero) (K + sumK ms i)) (fun i => qs.getD i Pl.zero) ∧ In.Lst W b (In.marks (K + sumK ms ms.length) cs.length) p2 q2 ∧ Fm.Lst W d (Fm.mksF (K + sumK ms ms.length + cs.length) fs.length) p3 q3
theorem MM.below {W W' : World} {a b d : Option Addr} {K : Int} {ms : List Rm} {qs : List Pl} {cs : List Int} {fs : List Fm.R} {lo hi : Nat} (h : MM W a b d K ms qs cs fs lo hi) (hb : Below W.heap.size W W') : MM W' a b d K ms qs cs fs lo hi := by
  obtain ⟨f, p1, q1, p2, q2, p3, q3, e, h1, h2, h3⟩ := h
  exact ⟨f, p1, q1, p2, q2, p3, q3, e, h1.below hb, h2.below hb, h3.below hb⟩
def totK (ms : List Rm) (cs : List Int) (fs : List Fm.R) : Int := sumK ms ms.length + cs.length + 4 * fs.length
theorem totK_pos (ms : List Rm) (cs : List Int) (fs : List Fm.R) : 0 ≤ totK ms cs fs := by have := sumK_pos ms ms.length; unfold totK; omega
theorem markNS0 (a : Option Addr) (c : Nat) (K : Int) (w : World) :
    Calls Try.prog 24 #[.slice a 0 c, .int .i64 K] w fun e w' => e = .returned (.int .i64 K) ∧ w' = w := by
  go_enter Try.func24, Try.ntmps24
  go_wp2
  go_loop [1, 5] (fun q i => q = .int .i64 K ∧ i = .int .i64 0) (fun _ i => 0)
  case atStart => exact ⟨rfl, rfl⟩
  case round =>
    obtain ⟨rfl, rfl⟩ := hrel
    go_wp2
    go_ret
    exact ⟨rfl, rfl⟩
theorem markNF (a : Option Addr) (c lo hi n : Nat) (f : Nat → Nat) (K : Int) (ms : List Rm) (Q : Nat → Pl) (w : World) (hn : ms.length = n) (hn8 : n ≤ 1048576) (hK : 0 ≤ K) (hK1 : K + sumK ms n ≤ 900000000) (hs : ∀ i, i < ms.length → Sm (ms.getD i Rm.zero)) (h : NL w a lo hi n f (fun i => ms.getD i Rm.zero) Q) :
    Calls Try.prog 24 #[.slice a n c, .int .i64 K] w fun e w' => e = .returned (.int .i64 (K + sumK ms n)) ∧ w.heap.size ≤ w'.heap.size ∧ Below (min lo w.heap.size) w w' ∧ NL w' a lo hi n f (fun i => mkM (ms.getD i Rm.zero) (K + sumK ms i)) Q ∧ ∀ k, k < w.heap.size → (k < lo ∨ hi ≤ k) → w'.heap[k]? = w.heap[k]? := by
  by_cases h0 : n = 0
  · subst h0
    refine (markNS0 a c K w).mono ?_
    rintro e w' ⟨rfl, rfl⟩
    exact ⟨by simp [sumK], Nat.le_refl _, Below.refl _ _, .inl rfl, fun _ _ _ => rfl⟩
  rcases h with h | ⟨g, rfl, h1, h2, h3, h4, h5, h6, h7⟩
  · exact absurd h h0
  refine (markNS g n c lo hi f K ms Q w hn hn8 hK hK1 hs h3 h1 h2 h4 h5 h6 h7).mono ?_
  rintro e w' ⟨rfl, hz, hb, hm, hk⟩
  exact ⟨rfl, hz, hb, .inr ⟨g, rfl, h1, h2, Nat.lt_of_lt_of_le h3 hz, h4, h5, fun i hi => ⟨(h6 i hi).1, (h6 i hi).2.1, Nat.le_trans (h6 i hi).2.2 hz⟩, hm⟩, hk⟩
theorem heldNS0 (a : Option Addr) (c : Nat) (K : Int) (w : World) :
    Calls Try.prog 26 #[.slice a 0 c, .int .i64 K] w fun e w' => e = .returned (.int .i64 K) ∧ w' = w := by
  go_enter Try.func26, Try.ntmps26
  go_wp2
  go_loop [1, 5] (fun q i => q = .int .i64 K ∧ i = .int .i64 0) (fun _ i => 0)
  case atStart => exact ⟨rfl, rfl⟩
  case round =>
    obtain ⟨rfl, rfl⟩ := hrel
    go_wp2
    go_ret
    exact ⟨rfl, rfl⟩
theorem heldNF (a : Option Addr) (c lo hi n : Nat) (f : Nat → Nat) (K : Int) (ms : List Rm) (Q : Nat → Pl) (w : World) (hn : ms.length = n) (hn8 : n ≤ 1048576) (hK : 0 ≤ K) (hK1 : K + sumK ms n ≤ 900000000) (hs : ∀ i, i < ms.length → Sm (ms.getD i Rm.zero)) (h : NL w a lo hi n f (fun i => mkM (ms.getD i Rm.zero) (K + sumK ms i)) Q) :
    Calls Try.prog 26 #[.slice a n c, .int .i64 K] w fun e w' => e = .returned (.int .i64 (K + sumK ms n)) ∧ w' = w := by
  by_cases h0 : n = 0
  · subst h0
    refine (heldNS0 a c K w).mono ?_
    rintro e w' ⟨rfl, rfl⟩
    exact ⟨by simp [sumK], rfl⟩
  rcases h with h | ⟨g, rfl, h1, h2, h3, h4, h5, h6, h7⟩
  · exact absurd h h0
  exact heldNS g n c f K ms Q w hn hn8 hK hK1 hs h7
end Nt
end Go.Proofs.Ytpmlpojefelbbaa
namespace Go.Proofs.Ytpmlpojefelbbaa
open Go.ChangeShapes Go.WideShapes Go.ChangeAt Go.RowKit
set_option linter.unusedVariables false
set_option linter.unusedSimpArgs false
attribute [local go_sem ↓] Go.wp_at_zero Go.wp_at_succ
namespace St
open W1 Tu
theorem l03Own (g off : Nat) (ms : List R) (cap n : Nat) (w : World) (hn : ms.length = n) (hm : ms.length ≤ 4096) (hr : RM w (some ⟨g, off, none⟩) ms) :
    Calls Try.prog 53 #[.slice (some ⟨g, off, none⟩) n cap] w fun e w' => ∃ v, e = .returned v ∧ Below w.heap.size w w' ∧ LstV w' v ms w.heap.size w'.heap.size := by
  have HR := hide (hr.below ((Below.refl _ _).alloc (Nat.le_refl _) (.cells #[] 75)))
  have O0 := hide (own_empty w w.heap.size (Nat.le_refl _))
  clear hr
  go_enter Try.func53, Try.ntmps53
  go_wp2_with (at_builtin; refine wpList_apS (unhide O0) g off n cap ms hn (unhide HR) (by simp; omega) (by simp) rfl _ _ rfl rfl rfl ?_; intro v' w' ho hg; have HL := hide (lst_own rfl ho); have HB := hide (below_own ((Below.refl _ _).alloc (Nat.le_refl _) _) (unhide O0) hg (Nat.le_refl _) (by simp)); clear ho hg)
  go_ret
  exact ⟨_, rfl, unhide HB, unhide HL⟩
end St
end Go.Proofs.Ytpmlpojefelbbaa
namespace Go.Proofs.Ytpmlpojefelbbaa
open Go.ChangeShapes Go.WideShapes Go.ChangeAt Go.RowKit
set_option linter.unusedVariables false
set_option linter.unusedSimpArgs false
attribute [local go_sem ↓] Go.wp_at_zero Go.wp_at_succ
namespace St
open W1 Tu
/-- What a slice of one's own looks like: its capacity, and where it lies. -/
def Shp (v : Value) : Prop := ∃ a n c, v = .slice a n c ∧ n ≤ c ∧ c ≤ maxLen ∧ (a = none ∨ ∃ g, a = some ⟨g, 0, none⟩)
theorem Shp.at {a : Option Addr} {n c : Nat} (h : Shp (.slice a n c)) : n ≤ c ∧ c ≤ maxLen ∧ (a = none ∨ ∃ g, a = some ⟨g, 0, none⟩) := by
  obtain ⟨a', n', c', e, h⟩ := h
  cases e
  exact h
end St
end Go.Proofs.Ytpmlpojefelbbaa
namespace Go.Proofs.Ytpmlpojefelbbaa
open Go.ChangeShapes Go.WideShapes Go.ChangeAt Go.RowKit
set_option linter.unusedVariables false
set_option linter.unusedSimpArgs false
set_option maxRecDepth 100000
attribute [local go_sem ↓] Go.wp_at_zero Go.wp_at_succ
namespace Tp
open W1 So
end Tp
end Go.Proofs.Ytpmlpojefelbbaa
namespace Go.Proofs.Ytpmlpojefelbbaa
namespace Rl
variable {P : Program} {ops : Array Oper} {Q : Exit → Act → World → Prop} {md : Region.Mode} {S T : World → Prop} {k : Nat}
/-- Whatever order is picked from here on, S holds behind every operation that is carried out, and T as long as k has not come up. -/
def wpAnyL (P : Program) (md : Region.Mode) (ops : Array Oper) (Q : Exit → Act → World → Prop) (S T : World → Prop) (k : Nat) : Nat → Array Bool → Act → World → Prop
  | 0, listed, a, w => Region.ready md ops listed = [] ∧ Q .normal a w
  | fuel + 1, listed, a, w =>
    (Region.ready md ops listed = [] → Q .normal a w) ∧
    ∀ i ∈ Region.ready md ops listed, wpOp P ops Q i (fun a' w' => (S w' ∧ ((listed.setIfInBounds i true).getD k true = false → T w')) ∧ wpAnyL P md ops Q S T k fuel (listed.setIfInBounds i true) a' w') a w
theorem wpAny_of : ∀ (fuel : Nat) (listed : Array Bool) (a : Act) (w : World), wpAnyL P md ops Q S T k fuel listed a w → wpAny P md ops Q fuel listed a w
  | 0, _, _, _, h => h
  | fuel + 1, _, _, _, h => ⟨h.1, fun i hi => wpOp_mono (fun a' w' h' => wpAny_of fuel _ a' w' h'.2) (h.2 i hi)⟩
theorem first {i : Nat} {oi ok : Oper} {v : Value} (hi : ops[i]? = some oi) (hk : ops[k]? = some ok) (hki : k ≠ i) (hsel : ∀ (j : Nat) (o : Oper) cs b, ops[j]? = some o → o.op ≠ .select cs b)
    (hwait : ∃ e ∈ ok.after, Region.binds md e = true ∧ e.on = i)
    (hQ : ∀ c a w, Q (.panic c) (a.put oi.dst v) w → Q (.panic c) a w) :
    ∀ (fuel : Nat) (listed : Array Bool) (a : Act) (w : World),
      (∀ j oj, ops[j]? = some oj → j ≠ i → listed.getD j true = false → (∀ e ∈ oj.after, Region.binds md e = true → e.on ≠ i) → oi.apart ops oj = true) →
      i ∈ Region.ready md ops listed → YieldsIf P ops (fun w => S w ∧ T w) oi v a → listed.getD k true = false → S w ∧ T w →
      wpAnyL P md ops Q S T k fuel (listed.setIfInBounds i true) (a.put oi.dst v) w → wpAnyL P md ops Q S T k (fuel + 1) listed a w := by
  intro fuel
  induction fuel with
  | zero =>
    intro listed a w _ hr hy hlk hS H
    refine ⟨fun h => (by rw [h] at hr; cases hr), fun j hj => ?_⟩
    by_cases hji : j = i
    · subst hji; exact hy.wpOp hi hS ⟨⟨hS.1, fun _ => hS.2⟩, H⟩
    · have := ready_mono hj hji
      rw [H.1] at this
      cases this
  | succ fuel ih =>
    intro listed a w hfree hr hy hlk hS H
    refine ⟨fun h => (by rw [h] at hr; cases hr), fun j hj => ?_⟩
    by_cases hji : j = i
    · subst hji; exact hy.wpOp hi hS ⟨⟨hS.1, fun _ => hS.2⟩, H⟩
    · have h1 := H.2 j (ready_mono hj hji)
      obtain ⟨hjun, oj, hoj, hall⟩ := mem_ready.1 hj
      have hnot : ∀ e ∈ oj.after, Region.binds md e = true → e.on ≠ i := fun e he hb heq => by
        have h1 := hall e he hb
        have h0 := (mem_ready.1 hr).1
        rw [heq] at h1
        rcases Nat.lt_or_ge i listed.size with h' | h'
        · simp [h'] at h0 h1; rw [h0] at h1; cases h1
        · simp [Array.getElem?_eq_none h'] at h1
      have hjk : j ≠ k := fun e => by
        subst e
        rw [hk] at hoj; cases hoj
        obtain ⟨e, he, hb, hon⟩ := hwait
        exact hnot e he hb hon
      have hlj : (listed.setIfInBounds j true).getD k true = false := by rw [getD_set_ne true hjk]; exact hlk
      have hlij : ((listed.setIfInBounds i true).setIfInBounds j true).getD k true = false := by rw [getD_set_ne true hjk, getD_set_ne true (Ne.symm hki)]; exact hlk
      have h2 := wpOp_putIf hoj (hfree j oj hoj hji hjun hnot) (fun cs b => hsel i oi cs b hi) (fun cs b => hsel j oj cs b hoj) hQ hy h1
      have hfree' : ∀ k ok, ops[k]? = some ok → k ≠ i → (listed.setIfInBounds j true).getD k true = false →
          (∀ e ∈ ok.after, Region.binds md e = true → e.on ≠ i) → oi.apart ops ok = true := fun k ok hk hki hun hno => by
        refine hfree k ok hk hki ?_ hno
        by_cases hjk : j = k
        · subst hjk; exact hjun
        · rw [getD_set_ne true hjk] at hun; exact hun
      refine wpOp_mono (fun a' w' h3 => ⟨⟨h3.2.1.1, fun _ => h3.2.1.2 hlij⟩, ih (listed.setIfInBounds j true) a' w' hfree' (ready_mono hr (Ne.symm hji)) h3.1 hlj ⟨h3.2.1.1, h3.2.1.2 hlij⟩ ?_⟩) h2
      rw [Array.setIfInBounds_comm _ _ hji]
      exact h3.2.2
/-- Whether operation k waits for i. -/
def waits (md : Region.Mode) (ops : Array Oper) (k i : Nat) : Bool := match ops[k]? with | some ok => ok.after.any (fun e => Region.binds md e && e.on == i) | none => false
theorem waits_spec {i : Nat} (h : waits md ops k i = true) : ∃ ok, ops[k]? = some ok ∧ ∃ e ∈ ok.after, Region.binds md e = true ∧ e.on = i := by
  unfold waits at h
  split at h
  · rename_i ok ho
    obtain ⟨e, he, hh⟩ := Array.any_eq_true'.1 h
    rw [Bool.and_eq_true] at hh
    exact ⟨ok, ho, e, he, hh.1, by simpa using hh.2⟩
  · cases h
/-- Take number i first, into slot d. -/
theorem tk {i d : Nat} {oi : Oper} {v : Value} {fuel : Nat} {listed : Array Bool} {a : Act} {w : World} (hi : ops[i]? = some oi) (hd : oi.dst = some d)
    (hs : Region.noSelect ops = true) (hf : Region.free md ops listed i = true) (hr : (Region.ready md ops listed).contains i = true) (hw : waits md ops k i = true) (hki : (k == i) = false) (hlk : listed.getD k true = false)
    (hQ : ∀ c a w, Q (.panic c) (a.put oi.dst v) w → Q (.panic c) a w) (hy : Region.wanted oi (yielded ops a.tmps) = true) (hv : ∀ w, S w ∧ T w → (execOp a.eval oi).run P w = .ok (.value v) w) (hS : S w ∧ T w)
    (h : wpAnyL P md ops Q S T k fuel (listed.setIfInBounds i true) (a.put (some d) v) w) : wpAnyL P md ops Q S T k (fuel + 1) listed a w := by
  obtain ⟨ok, hok, hwt⟩ := waits_spec hw
  exact first hi hok (fun e => by subst e; simp at hki) (Region.noSelect_spec hs) hwt hQ fuel listed a w (Region.free_spec hi hf) (by simpa using hr) (.inl ⟨hy, hv⟩) hlk hS (by rw [hd]; exact h)
/-- What yields under S alone may be taken first whether k waits for it or not. -/
theorem firstS {i : Nat} {oi : Oper} {v : Value} (hi : ops[i]? = some oi) (hki : k ≠ i) (hsel : ∀ (j : Nat) (o : Oper) cs b, ops[j]? = some o → o.op ≠ .select cs b)
    (hQ : ∀ c a w, Q (.panic c) (a.put oi.dst v) w → Q (.panic c) a w) :
    ∀ (fuel : Nat) (listed : Array Bool) (a : Act) (w : World),
      (∀ j oj, ops[j]? = some oj → j ≠ i → listed.getD j true = false → (∀ e ∈ oj.after, Region.binds md e = true → e.on ≠ i) → oi.apart ops oj = true) →
      i ∈ Region.ready md ops listed → YieldsIf P ops S oi v a → S w ∧ (listed.getD k true = false → T w) →
      wpAnyL P md ops Q S T k fuel (listed.setIfInBounds i true) (a.put oi.dst v) w → wpAnyL P md ops Q S T k (fuel + 1) listed a w := by
  intro fuel
  induction fuel with
  | zero =>
    intro listed a w _ hr hy hS H
    refine ⟨fun h => (by rw [h] at hr; cases hr), fun j hj => ?_⟩
    by_cases hji : j = i
    · subst hji; exact hy.wpOp hi hS.1 ⟨⟨hS.1, fun h => hS.2 (by rw [getD_set_ne true (Ne.symm hki)] at h; exact h)⟩, H⟩
    · have := ready_mono hj hji
      rw [H.1] at this
      cases this
  | succ fuel ih =>
    intro listed a w hfree hr hy hS H
    refine ⟨fun h => (by rw [h] at hr; cases hr), fun j hj => ?_⟩
    by_cases hji : j = i
    · subst hji; exact hy.wpOp hi hS.1 ⟨⟨hS.1, fun h => hS.2 (by rw [getD_set_ne true (Ne.symm hki)] at h; exact h)⟩, H⟩
    · have h1 := H.2 j (ready_mono hj hji)
      obtain ⟨hjun, oj, hoj, hall⟩ := mem_ready.1 hj
      have hnot : ∀ e ∈ oj.after, Region.binds md e = true → e.on ≠ i := fun e he hb heq => by
        have h1 := hall e he hb
        have h0 := (mem_ready.1 hr).1
        rw [heq] at h1
        rcases Nat.lt_or_ge i listed.size with h' | h'
        · simp [h'] at h0 h1; rw [h0] at h1; cases h1
        · simp [Array.getElem?_eq_none h'] at h1
      have hsame : ((listed.setIfInBounds i true).setIfInBounds j true).getD k true = (listed.setIfInBounds j true).getD k true := by rw [Array.setIfInBounds_comm _ _ (Ne.symm hji), getD_set_ne true (Ne.symm hki)]
      have h2 := wpOp_putIf hoj (hfree j oj hoj hji hjun hnot) (fun cs b => hsel i oi cs b hi) (fun cs b => hsel j oj cs b hoj) hQ hy h1
      have hfree' : ∀ k ok, ops[k]? = some ok → k ≠ i → (listed.setIfInBounds j true).getD k true = false →
          (∀ e ∈ ok.after, Region.binds md e = true → e.on ≠ i) → oi.apart ops ok = true := fun k ok hk hki hun hno => by
        refine hfree k ok hk hki ?_ hno
        by_cases hjk : j = k
        · subst hjk; exact hjun
        · rw [getD_set_ne true hjk] at hun; exact hun
      refine wpOp_mono (fun a' w' h3 => ⟨⟨h3.2.1.1, fun h => h3.2.1.2 (hsame.trans h)⟩, ih (listed.setIfInBounds j true) a' w' hfree' (ready_mono hr (Ne.symm hji)) h3.1 ⟨h3.2.1.1, fun h => h3.2.1.2 (hsame.trans h)⟩ ?_⟩) h2
      rw [Array.setIfInBounds_comm _ _ hji]
      exact h3.2.2
theorem tkS {i d : Nat} {oi : Oper} {v : Value} {fuel : Nat} {listed : Array Bool} {a : Act} {w : World} (hi : ops[i]? = some oi) (hd : oi.dst = some d)
    (hs : Region.noSelect ops = true) (hf : Region.free md ops listed i = true) (hr : (Region.ready md ops listed).contains i = true) (hki : (k == i) = false)
    (hQ : ∀ c a w, Q (.panic c) (a.put oi.dst v) w → Q (.panic c) a w) (hy : Region.wanted oi (yielded ops a.tmps) = true) (hv : ∀ w, S w → (execOp a.eval oi).run P w = .ok (.value v) w) (hS : S w ∧ T w)
    (h : wpAnyL P md ops Q S T k fuel (listed.setIfInBounds i true) (a.put (some d) v) w) : wpAnyL P md ops Q S T k (fuel + 1) listed a w :=
  firstS hi (fun e => by subst e; simp at hki) (Region.noSelect_spec hs) hQ fuel listed a w (Region.free_spec hi hf) (by simpa using hr) (.inl ⟨hy, hv⟩) ⟨hS.1, fun _ => hS.2⟩ (by rw [hd]; exact h)
/-- Each of the operations rs comes up next. -/
def AllReadyL (P : Program) (md : Region.Mode) (ops : Array Oper) (Q : Exit → Act → World → Prop) (S T : World → Prop) (k : Nat) (fuel : Nat) (listed : Array Bool) (a : Act) (w : World) (rs : List Nat) : Prop :=
  ∀ i ∈ rs, wpOp P ops Q i (fun a' w' => (S w' ∧ ((listed.setIfInBounds i true).getD k true = false → T w')) ∧ wpAnyL P md ops Q S T k fuel (listed.setIfInBounds i true) a' w') a w
theorem AllReadyL.nil {fuel : Nat} {listed : Array Bool} {a : Act} {w : World} : AllReadyL P md ops Q S T k fuel listed a w [] := fun _ h => by cases h
theorem AllReadyL.cons {fuel : Nat} {listed : Array Bool} {a : Act} {w : World} {i : Nat} {o : Oper} {rs : List Nat} (ho : ops[i]? = some o) (hik : (i == k) = false)
    (h : ∀ K' : Act → World → Prop, Shut (∀ a w, S w ∧ T w → (S w ∧ T w → wpAnyL P md ops Q S T k fuel (listed.setIfInBounds i true) a w) → K' a w) → if Region.wanted o (yielded ops a.tmps) = true then Oper.wp P o a w K' Q else K' (a.put o.dst undef) w)
    (hs : AllReadyL P md ops Q S T k fuel listed a w rs) : AllReadyL P md ops Q S T k fuel listed a w (i :: rs) := fun j hj => by
  rcases List.mem_cons.1 hj with rfl | hj
  · exact wpOp_step ho (fun K' hK => h K' (fun a w hS hW => hK a w ⟨⟨hS.1, fun _ => hS.2⟩, hW hS⟩))
  · exact hs j hj
theorem AllReadyL.last {fuel : Nat} {listed : Array Bool} {a : Act} {w : World} {o : Oper} (ho : ops[k]? = some o) (hlk : (listed.setIfInBounds k true).getD k true = true)
    (h : ∀ K' : Act → World → Prop, Shut (∀ a w, S w → (S w → wpAnyL P md ops Q S T k fuel (listed.setIfInBounds k true) a w) → K' a w) → if Region.wanted o (yielded ops a.tmps) = true then Oper.wp P o a w K' Q else K' (a.put o.dst undef) w) :
    AllReadyL P md ops Q S T k fuel listed a w [k] := fun j hj => by
  rcases List.mem_cons.1 hj with rfl | hj
  · exact wpOp_step ho (fun K' hK => h K' (fun a w hS hW => hK a w ⟨⟨hS, fun e => by rw [hlk] at e; cases e⟩, hW hS⟩))
  · cases hj
theorem ready {rs : List Nat} {fuel : Nat} {listed : Array Bool} {a : Act} {w : World} (hr : Region.ready md ops listed = rs) (hne : rs ≠ [])
    (h : AllReadyL P md ops Q S T k fuel listed a w rs) : wpAnyL P md ops Q S T k (fuel + 1) listed a w :=
  ⟨fun h0 => absurd (hr ▸ h0) hne, hr ▸ h⟩
theorem done {listed : Array Bool} {a : Act} {w : World} (hr : Region.ready md ops listed = []) (h : Q .normal a w) : ∀ fuel, wpAnyL P md ops Q S T k fuel listed a w
  | 0 => ⟨hr, h⟩
  | _ + 1 => ⟨fun _ => h, by rw [hr]; simp⟩
/-- The beginning. -/
theorem drew {id : Nat} {a : Act} {w : World} (k : Nat) (hm : P.follows .mixedOrders = true) (hS : S w.drew ∧ T w.drew)
    (h : S w.drew ∧ T w.drew → wpAnyL P .any ops Q S T k ops.size (Array.replicate ops.size false) a w.drew) : (Code.region id ops true).wp P Q a w :=
  wp_region_any hm (wpAny_of _ _ _ _ (h hS))
end Rl
end Go.Proofs.Ytpmlpojefelbbaa
namespace Go.Proofs.Ytpmlpojefelbbaa
open Go.ChangeShapes Go.WideShapes Go.ChangeAt Go.RowKit
set_option linter.unusedVariables false
set_option linter.unusedSimpArgs false
set_option maxRecDepth 100000
attribute [local go_sem ↓] Go.wp_at_zero Go.wp_at_succ
namespace Rt
open W1
def CA (w : World) (b : Nat) (cs : List Value) : Prop := w.rangeAt b 0 cs ∧ w.there b 0 14 ∧ cs.length = 14
theorem CA.at {w : World} {b : Nat} {cs : List Value} (h : CA w b cs) {i : Nat} {v : Value} (hi : cs[i]? = some v) : w.cell? ⟨b, i, none⟩ = some v := by
  have := h.1 i v hi; rwa [Nat.zero_add] at this
theorem CA.lt {w : World} {b : Nat} {cs : List Value} (h : CA w b cs) : b < w.heap.size := by
  obtain ⟨u, hu⟩ := Option.isSome_iff_exists.1 (h.2.1 0 (by omega)).1
  exact World.block_lt_of_cell? _ _ hu
theorem CA.free {w : World} {b : Nat} {cs : List Value} (h : CA w b cs) {i : Nat} (hi : i < 14) : w.frozen? ⟨b, i, none⟩ = false := by
  have := (h.2.1 i hi).2; rwa [Nat.zero_add] at this
theorem CA.under {w w' : World} {B b : Nat} {cs : List Value} (h : CA w b cs) (hb : Below B w w') (hg : b < B) : CA w' b cs :=
  ⟨fun j v hv => (hb.cell (p := ⟨b, 0 + j, none⟩) hg).trans (h.1 j v hv), fun j hj => ⟨by rw [hb.cell (p := ⟨b, 0 + j, none⟩) hg]; exact (h.2.1 j hj).1, by rw [hb.frozen (p := ⟨b, 0 + j, none⟩) hg]; exact (h.2.1 j hj).2⟩, h.2.2⟩
theorem CA.below {w w' : World} {b : Nat} {cs : List Value} (h : CA w b cs) (hb : Below w.heap.size w w') : CA w' b cs := h.under hb h.lt
theorem CA.drew {w : World} {b : Nat} {cs : List Value} (h : CA w b cs) : CA w.drew b cs := h
theorem CA.set {w : World} {b : Nat} {cs : List Value} (h : CA w b cs) {k : Nat} (hk : k < 14) (v : Value) : CA (w.setCell ⟨b, k, none⟩ v) b (cs.set k v) := ⟨range_set h.1 (by rw [h.2.2]; exact hk), there_set h.2.1, by rw [List.length_set]; exact h.2.2⟩
theorem CA.other {w : World} {b : Nat} {cs : List Value} (h : CA w b cs) {p : Addr} (hne : b ≠ p.block) (v : Value) : CA (w.setCell p v) b cs := by
  have hb : (w.setCell p v).heap[b]? = w.heap[b]? := Below.heap_setCell _ _ _ _ hne
  refine ⟨fun j u hu => ?_, fun j hj => ⟨?_, ?_⟩, h.2.2⟩
  · exact (World.cell?_of_block (a := ⟨b, 0 + j, none⟩) hb).trans (h.1 j u hu)
  · rw [World.cell?_of_block (a := ⟨b, 0 + j, none⟩) hb]; exact (h.2.1 j hj).1
  · rw [World.frozen?_setCell]; exact (h.2.1 j hj).2
end Rt
end Go.Proofs.Ytpmlpojefelbbaa
namespace Go.Proofs.Ytpmlpojefelbbaa
open Go.ChangeShapes Go.WideShapes Go.ChangeAt Go.RowKit
set_option linter.unusedVariables false
set_option linter.unusedSimpArgs false
set_option maxRecDepth 100000
attribute [local go_sem ↓] Go.wp_at_zero Go.wp_at_succ
namespace Rt
open W1
theorem gb_reflC (w : World) (r : Option Nat) : w.grownBy w r := ⟨rfl, rfl, rfl, Nat.le_refl _, fun _ _ _ => rfl⟩
theorem run_append_none {P : Program} {w : World} (base : Nat) (t ty e : TypeId) (i : TypeInfo) (size : Nat) (ht : P.underlying t = some (.slice e)) (hi : P.info? e = some i)
    (v : Value) (n : Nat) (xs : List Value) (hown : w.ownsRow base e size v n xs) (a : Option Addr) (c : Nat) :
    (Builtin.append_ #[t, t] ty #[v, .slice a 0 c]).run P w = .ok v w := by
  have h0 : ∀ (x : Addr), (loadCells x 0).run P w = .ok #[] w := fun x => run_loadCells_list (P := P) w x [] (fun j v hv => by simp at hv)
  rcases hown.2 with ⟨rfl, rfl⟩ | ⟨g, cap, cur, rfl, _, _, hnc, _⟩
  · cases a <;> simp [Builtin.append_, run_underlying ht, sizeOf, typeInfo, hi, Builtin.lenOf, Builtin.firstCells, h0, Result.andThen]
  · cases a <;> simp [Builtin.append_, run_underlying ht, sizeOf, typeInfo, hi, Builtin.lenOf, Builtin.firstCells, hnc, storeCells, h0, Result.andThen]
/-- append of nothing, wherever it lies. -/
theorem wpList_append_none {P : Program} {w : World} {ops : Array Oper} {rest : List Oper} {o : Oper} {a : Act} {Q : Exit → Act → World → Prop} (hgd : o.guard = none) (s x : Operand) (t : TypeId)
    (ho : o.op = .call { callee := .builtin .append, args := #[s, x], argTypes := #[t, t] })
    (base : Nat) (e : TypeId) (i : TypeInfo) (size : Nat) (ht : P.underlying t = some (.slice e)) (hi : P.info? e = some i)
    (v : Value) (n : Nat) (xs : List Value) (hs : a.eval s = v) (hown : w.ownsRow base e size v n xs) (b : Option Addr) (c : Nat) (hx : a.eval x = .slice b 0 c)
    (h : wpList P ops Q rest (a.put o.dst v) w) : wpList P ops Q (o :: rest) a w := by
  refine wpList_plain hgd fun K hK => ?_
  have hrun := run_append_none (P := P) (w := w) base t o.type e i size ht hi v n xs hown b c
  unfold Oper.wp
  simp [execOp, ho, resolve, invoke, builtin, hs, hx, hrun, Result.andThen]
  exact hK _ _ h
end Rt
end Go.Proofs.Ytpmlpojefelbbaa
namespace Go.Proofs.Ytpmlpojefelbbaa
open Go.ChangeShapes Go.WideShapes Go.ChangeAt Go.RowKit
set_option linter.unusedVariables false
set_option linter.unusedSimpArgs false
set_option maxRecDepth 100000
attribute [local go_sem ↓] Go.wp_at_zero Go.wp_at_succ
namespace Nt
open W1 Rt
/-- A router whose lists a copy takes. -/
def okL (m : Rm) : Prop := m.ls.length ≤ 4096 ∧ m.tw.length ≤ 4096 ∧ m.se.length ≤ 4096 ∧ m.du.length ≤ 4096 ∧ m.ss.length ≤ 4096 ∧ m.es.length ≤ 4096 ∧ m.la.length ≤ 4096
/-- The cells of routers, each with where its lists lie. -/
def fl (xs : List (Rm × Pl)) : List Value := xs.flatMap fun x => cl x.1 x.2
def zP : Rm × Pl := (Rm.zero, Pl.zero)
theorem fl_len (xs : List (Rm × Pl)) : (fl xs).length = xs.length * 13 := by
  unfold fl
  induction xs with
  | nil => rfl
  | cons m t ih => rw [List.flatMap_cons, List.length_append, ih, cl_len, List.length_cons]; omega
theorem fl_append (xs ys : List (Rm × Pl)) : fl (xs ++ ys) = fl xs ++ fl ys := by unfold fl; rw [List.flatMap_append]
theorem fl_get : ∀ (xs : List (Rm × Pl)) (i j : Nat), j < 13 → i < xs.length → (fl xs)[i * 13 + j]? = (cl (xs.getD i zP).1 (xs.getD i zP).2)[j]?
  | [], i, j, hj, hi => by simp at hi
  | m :: t, 0, j, hj, hi => by
    unfold fl
    rw [List.flatMap_cons, Nat.zero_mul, Nat.zero_add, List.getElem?_append_left (by rw [cl_len]; exact hj)]; rfl
  | m :: t, i + 1, j, hj, hi => by
    have ih := fl_get t i j hj (by simpa using hi)
    unfold fl at ih ⊢
    rw [List.flatMap_cons, show (i + 1) * 13 + j = (cl m.1 m.2).length + (i * 13 + j) by rw [cl_len]; omega, List.getElem?_append_right (by omega), Nat.add_sub_cancel_left, ih]; rfl
theorem fl_ones {xs : List (Rm × Pl)} {u : Value} (h : u ∈ fl xs) : u.oneCell' = true := by
  obtain ⟨x, _, hu⟩ := List.mem_flatMap.1 h; exact (cl_ones x.1 x.2).2 u hu
/-- Routers that stand in a row, cell by cell. -/
def Rws (w : World) (g off : Nat) (xs : List (Rm × Pl)) : Prop := ∀ i, i < xs.length → w.rangeAt g (off + i * 13) (cl (xs.getD i zP).1 (xs.getD i zP).2)
theorem padd (b off k : Nat) : (⟨b, off, none⟩ : Addr).add k = ⟨b, off + k, none⟩ := by unfold Addr.add; split <;> simp_all
theorem Rws.cells {w : World} {g off : Nat} {xs : List (Rm × Pl)} (h : Rws w g off xs) : ∀ j u, (fl xs)[j]? = some u → w.cell? ((⟨g, off, none⟩ : Addr).add j) = some u := by
  intro j u hj
  have hl : j < xs.length * 13 := by rw [← fl_len]; exact (List.getElem?_eq_some_iff.1 hj).1
  have hi : j / 13 < xs.length := by omega
  have e : j / 13 * 13 + j % 13 = j := by omega
  rw [← e, fl_get xs _ _ (by omega) hi] at hj
  have := h _ hi _ _ hj
  rw [padd, show off + j = off + j / 13 * 13 + j % 13 by omega]; exact this
theorem NR.form {w : World} {a : Option Addr} {ms : List Rm} {ps : List Pl} (h : NR w a ms ps) (h0 : 0 < ms.length) : ∃ g off, a = some ⟨g, off, none⟩ := by
  obtain ⟨g, off, e, _⟩ := h.at h0; exact ⟨g, off, e⟩
theorem rws_own {w : World} {base g cap n : Nat} {xs : List (Rm × Pl)} (hn : n = xs.length) (h : w.ownsRow base 46 13 (.slice (some ⟨g, 0, none⟩) n cap) n (fl xs)) : (∀ i, i < n → w.rangeAt g (i * 13) (cl (xs.getD i zP).1 (xs.getD i zP).2)) ∧ w.there g 0 (n * 13) ∧ base ≤ g ∧ g < w.heap.size := by
  obtain ⟨_, ⟨e, _⟩ | ⟨g', cap', cur, e, hb, hg, h1, _, h3, h4⟩⟩ := h
  · cases e
  · cases e
    have hlt : g < w.heap.size := by
      rcases Nat.lt_or_ge g w.heap.size with h | h
      · exact h
      · rw [Array.getElem?_eq_none h] at hg; cases hg
    refine ⟨fun i hi j u hu => ?_, fun i hi => ?_, hb, hlt⟩
    · have hj : j < 13 := by have := (List.getElem?_eq_some_iff.1 hu).1; rw [cl_len] at this; exact this
      have hf := fl_get xs i j hj (by omega)
      rw [hu, ← h4, List.getElem?_take_of_lt (by omega)] at hf
      rw [Array.getElem?_toList] at hf
      simp only [World.cell?, hg]
      exact hf
    · have hc : i < cur.size := by rw [h3]; exact Nat.lt_of_lt_of_le hi (Nat.mul_le_mul_right _ h1)
      rw [Nat.zero_add]
      refine ⟨?_, ?_⟩
      · simp [World.cell?, hg, hc]
      · simp [World.frozen?, hg]
theorem own_form {w : World} {base n : Nat} {v : Value} {xs : List Value} (h : w.ownsRow base 46 13 v n xs) (h0 : 0 < n) : ∃ g cap, v = .slice (some ⟨g, 0, none⟩) n cap := by
  obtain ⟨_, ⟨_, e⟩ | ⟨g', cap', cur, e, _⟩⟩ := h
  · omega
  · exact ⟨g', cap', e⟩
theorem ownN_nil (w : World) (base : Nat) : w.ownsRow base 46 13 (.slice none 0 0) ([] : List (Rm × Pl)).length (fl []) := World.ownsRow_nil w base _ _
theorem ownN_empty (w : World) (base : Nat) (hb : base ≤ w.heap.size) : (w.alloc (.cells #[] 46)).ownsRow base 46 13 (.slice (some ⟨w.heap.size, 0, none⟩) 0 0) ([] : List (Rm × Pl)).length (fl []) := World.ownsRow_made w #[] 0 hb (Nat.zero_le _) (by simp)
theorem rwN_new (w : World) (m : Rm) (p : Pl) : Rws (w.alloc (.cells (cl m p).toArray 46)) w.heap.size 0 [(m, p)] := fun i hi j u hu => by
  obtain rfl : i = 0 := by simp at hi; omega
  rw [Nat.zero_mul, Nat.zero_add]
  try rw [Nat.zero_add]
  rw [World.cell?_alloc_new]
  have : (cl m p)[j]? = some u := hu
  rw [List.getElem?_toArray]; exact this
theorem belN_own {B : Nat} {w0 w w' : World} {base : Nat} {v : Value} {n : Nat} {xs : List Value} (h : Below B w0 w) (ho : w.ownsRow base 46 13 v n xs) (hg : w.grownBy w' v.ownBlock) (hb : B ≤ base) (hB : B ≤ w.heap.size) : Below B w0 w' :=
  h.grown hg hB (fun k hk => Nat.le_trans hb (ho.lt k hk).1)
/-- append of routers to a row of one's own. -/
theorem wpList_apN {ops : Array Oper} {rest : List Oper} {o : Oper} {a : Act} {Q : Exit → Act → World → Prop} {w : World} {base : Nat} {v : Value} {xs : List (Rm × Pl)} (hown : w.ownsRow base 46 13 v xs.length (fl xs)) (g off m c : Nat) (ys : List (Rm × Pl)) (hm : ys.length = m) (hr : Rws w g off ys) (hlen : xs.length + ys.length ≤ 4194304) (hbase : base ≤ w.heap.size)
    (hgd : o.guard = none) (s x : Operand) (ho : o.op = .call { callee := .builtin .append, args := #[s, x], argTypes := #[23, 23] }) (hs : a.eval s = v) (hx : a.eval x = .slice (some ⟨g, off, none⟩) m c)
    (h : ∀ v' w', w'.ownsRow base 46 13 v' (xs ++ ys).length (fl (xs ++ ys)) → w.grownBy w' v.ownBlock → wpList Try.prog ops Q rest (a.put o.dst v') w') : wpList Try.prog ops Q (o :: rest) a w := by
  subst hm
  obtain ⟨i0, hi, hz0, hz1, hz2⟩ := infoZ
  refine wpList_append_own w hgd s x _ ho base 46 i0 _ 13 216 Try.underlying23 hi hz0 hz1 hz2 rfl (by decide) v xs.length (fl xs) hs hown ⟨g, off, none⟩ ys.length c (fl ys) hx (fl_len ys) hr.cells (fun u hu => fl_ones hu) (by unfold maxLen; omega) (by omega) hbase (fun v' w' h1 h2 _ => ?_)
  refine h v' w' ?_ h2
  rw [List.length_append, fl_append]; exact h1

end Nt
end Go.Proofs.Ytpmlpojefelbbaa
namespace Go.Proofs.Ytpmlpojefelbbaa
open Go.ChangeShapes Go.WideShapes Go.ChangeAt Go.RowKit
set_option linter.unusedVariables false
set_option linter.unusedSimpArgs false
set_option maxRecDepth 100000
attribute [local go_sem ↓] Go.wp_at_zero Go.wp_at_succ
namespace Nt
open W1 Rt
theorem rng_blk {w w' : World} {g o : Nat} {cs : List Value} (h : w.rangeAt g o cs) (hb : w'.heap[g]? = w.heap[g]?) : w'.rangeAt g o cs := fun j u hu => (World.cell?_of_block (a := ⟨g, o + j, none⟩) hb).trans (h j u hu)
theorem there_blk {w w' : World} {b n : Nat} (h : w.there b 0 n) (hb : w'.heap[b]? = w.heap[b]?) : w'.there b 0 n := fun k hk => ⟨by rw [World.cell?_of_block (a := ⟨b, 0 + k, none⟩) hb]; exact (h k hk).1, by rw [World.frozen?_of_block (a := ⟨b, 0 + k, none⟩) hb]; exact (h k hk).2⟩
theorem own_blk {w w' : World} {base e k : Nat} {v : Value} {n : Nat} {xs : List Value} (h : w.ownsRow base e k v n xs) (hb : ∀ g, v.ownBlock = some g → w'.heap[g]? = w.heap[g]?) : w'.ownsRow base e k v n xs := by
  obtain ⟨h1, h2 | ⟨g, cap, cur, rfl, h3, h4, h5⟩⟩ := h
  · exact ⟨h1, .inl h2⟩
  · exact ⟨h1, .inr ⟨g, cap, cur, rfl, h3, by rw [hb g rfl]; exact h4, h5⟩⟩
theorem copyIO (a : Option Addr) (ms : List Int) (cap : Nat) (w : World) (hm : ms.length ≤ 4096) (hr : In.RM w a ms) :
    Calls Try.prog 20 #[.slice a ms.length cap] w fun e w' => ∃ v, e = .returned v ∧ Below w.heap.size w w' ∧ In.LstV w' v ms w.heap.size w'.heap.size ∧ Hid (w'.ownsRow w.heap.size 3 1 v ms.length (In.flat ms)) := by
  have O0 := hide (In.own_nil w w.heap.size)
  by_cases h0 : 0 < ms.length
  · rcases hr with e0 | ⟨g, off, rfl, hcc⟩
    · rw [e0] at h0; simp at h0
    have HR := hide (show In.RM w (some ⟨g, off, none⟩) ms from .inr ⟨g, off, rfl, hcc⟩)
    obtain ⟨n, hn⟩ : ∃ n, ms.length = n := ⟨_, rfl⟩
    rw [hn]
    clear hcc h0
    go_enter Try.func20, Try.ntmps20
    go_wp2_with (at_builtin; refine In.wpList_apS (unhide O0) g off n cap ms hn (unhide HR) (by simp; omega) (by simp) rfl _ _ rfl rfl rfl ?_; intro v' w' ho hg; have HL := hide (In.lst_own rfl ho); have HO := hide ho; have HB := hide (In.below_own (Below.refl _ _) (unhide O0) hg (Nat.le_refl _) (Nat.le_refl _)); clear ho hg)
    go_ret
    exact ⟨_, rfl, unhide HB, unhide HL, by have := unhide HO; rw [List.nil_append, hn] at this; exact hide this⟩
  · have hms : ms = [] := List.length_eq_zero_iff.1 (by omega)
    subst hms
    clear h0 hr hm
    obtain ⟨i0, hi, _⟩ := In.infoI
    go_enter Try.func20, Try.ntmps20
    go_wp2_with (at_builtin; refine wpList_append_none rfl _ _ _ rfl w.heap.size 3 i0 1 Try.underlying22 hi _ _ _ rfl (unhide O0) _ _ rfl ?_)
    go_ret
    exact ⟨_, rfl, Below.refl _ _, In.lstV_nil _ _ _ _ _, O0⟩
end Nt
end Go.Proofs.Ytpmlpojefelbbaa
namespace Go.Proofs.Ytpmlpojefelbbaa
open Go.ChangeShapes Go.WideShapes Go.ChangeAt Go.RowKit
set_option linter.unusedVariables false
set_option linter.unusedSimpArgs false
set_option maxRecDepth 100000
attribute [local go_sem ↓] Go.wp_at_zero Go.wp_at_succ
namespace Rt
open W1
/-- Two intervals that have nothing in common. -/
def Dj (p q r s : Nat) : Prop := q ≤ r ∨ s ≤ p
/-- An interval without blocks of a kind. -/
def Fr (p q : Nat) (X : Nat → Prop) : Prop := ∀ k, p ≤ k → k < q → ¬ X k
/-- Seven lists in intervals of their own, which have none of the blocks X. -/
def Sev (W : World) (lo hi : Nat) (X : Nat → Prop) (a1 a2 a3 a4 a5 a6 a7 : Option Addr) (ls : List Lk.R) (tw : List Tu.R) (se : List Tu.R) (du : List Tu.R) (ss : List So.R) (es : List Tu.R) (la : List Ed.R) : Prop :=
  ∃ p1 q1 p2 q2 p3 q3 p4 q4 p5 q5 p6 q6 p7 q7 : Nat, ((lo ≤ p1 ∧ p1 ≤ q1 ∧ q1 ≤ hi) ∧ (lo ≤ p2 ∧ p2 ≤ q2 ∧ q2 ≤ hi) ∧ (lo ≤ p3 ∧ p3 ≤ q3 ∧ q3 ≤ hi) ∧ (lo ≤ p4 ∧ p4 ≤ q4 ∧ q4 ≤ hi) ∧ (lo ≤ p5 ∧ p5 ≤ q5 ∧ q5 ≤ hi) ∧ (lo ≤ p6 ∧ p6 ≤ q6 ∧ q6 ≤ hi) ∧ (lo ≤ p7 ∧ p7 ≤ q7 ∧ q7 ≤ hi)) ∧ (Dj p1 q1 p2 q2 ∧ Dj p1 q1 p3 q3 ∧ Dj p1 q1 p4 q4 ∧ Dj p1 q1 p5 q5 ∧ Dj p1 q1 p6 q6 ∧ Dj p1 q1 p7 q7 ∧ Dj p2 q2 p3 q3 ∧ Dj p2 q2 p4 q4 ∧ Dj p2 q2 p5 q5 ∧ Dj p2 q2 p6 q6 ∧ Dj p2 q2 p7 q7 ∧ Dj p3 q3 p4 q4 ∧ Dj p3 q3 p5 q5 ∧ Dj p3 q3 p6 q6 ∧ Dj p3 q3 p7 q7 ∧ Dj p4 q4 p5 q5 ∧ Dj p4 q4 p6 q6 ∧ Dj p4 q4 p7 q7 ∧ Dj p5 q5 p6 q6 ∧ Dj p5 q5 p7 q7 ∧ Dj p6 q6 p7 q7) ∧ (Fr p1 q1 X ∧ Fr p2 q2 X ∧ Fr p3 q3 X ∧ Fr p4 q4 X ∧ Fr p5 q5 X ∧ Fr p6 q6 X ∧ Fr p7 q7 X) ∧ Lk.Lst W a1 (ls) p1 q1 ∧ Tu.Lst W a2 (tw) p2 q2 ∧ Tu.Lst W a3 (se) p3 q3 ∧ Tu.Lst W a4 (du) p4 q4 ∧ So.Lst W a5 (ss) p5 q5 ∧ Tu.Lst W a6 (es) p6 q6 ∧ Ed.Lst W a7 (la) p7 q7
theorem Sev.below {W W' : World} {lo hi : Nat} {X : Nat → Prop} {a1 a2 a3 a4 a5 a6 a7 : Option Addr} {ls : List Lk.R} {tw : List Tu.R} {se : List Tu.R} {du : List Tu.R} {ss : List So.R} {es : List Tu.R} {la : List Ed.R} (h : Sev W lo hi X a1 a2 a3 a4 a5 a6 a7 ls tw se du ss es la) (hb : Below W.heap.size W W') : Sev W' lo hi X a1 a2 a3 a4 a5 a6 a7 ls tw se du ss es la := by
  obtain ⟨p1, q1, p2, q2, p3, q3, p4, q4, p5, q5, p6, q6, p7, q7, ⟨⟨u1, v1, w1⟩, ⟨u2, v2, w2⟩, ⟨u3, v3, w3⟩, ⟨u4, v4, w4⟩, ⟨u5, v5, w5⟩, ⟨u6, v6, w6⟩, ⟨u7, v7, w7⟩⟩, ⟨d12, d13, d14, d15, d16, d17, d23, d24, d25, d26, d27, d34, d35, d36, d37, d45, d46, d47, d56, d57, d67⟩, ⟨xx1, xx2, xx3, xx4, xx5, xx6, xx7⟩, h1, h2, h3, h4, h5, h6, h7⟩ := h
  exact ⟨p1, q1, p2, q2, p3, q3, p4, q4, p5, q5, p6, q6, p7, q7, ⟨⟨u1, v1, w1⟩, ⟨u2, v2, w2⟩, ⟨u3, v3, w3⟩, ⟨u4, v4, w4⟩, ⟨u5, v5, w5⟩, ⟨u6, v6, w6⟩, ⟨u7, v7, w7⟩⟩, ⟨d12, d13, d14, d15, d16, d17, d23, d24, d25, d26, d27, d34, d35, d36, d37, d45, d46, d47, d56, d57, d67⟩, ⟨xx1, xx2, xx3, xx4, xx5, xx6, xx7⟩, h1.below hb, h2.below hb, h3.below hb, h4.below hb, h5.below hb, h6.below hb, h7.below hb⟩
theorem Sev.mono {W : World} {lo hi lo' hi' : Nat} {X : Nat → Prop} {a1 a2 a3 a4 a5 a6 a7 : Option Addr} {ls : List Lk.R} {tw : List Tu.R} {se : List Tu.R} {du : List Tu.R} {ss : List So.R} {es : List Tu.R} {la : List Ed.R} (h : Sev W lo hi X a1 a2 a3 a4 a5 a6 a7 ls tw se du ss es la) (hl : lo' ≤ lo) (hh : hi ≤ hi') : Sev W lo' hi' X a1 a2 a3 a4 a5 a6 a7 ls tw se du ss es la := by
  obtain ⟨p1, q1, p2, q2, p3, q3, p4, q4, p5, q5, p6, q6, p7, q7, ⟨⟨u1, v1, w1⟩, ⟨u2, v2, w2⟩, ⟨u3, v3, w3⟩, ⟨u4, v4, w4⟩, ⟨u5, v5, w5⟩, ⟨u6, v6, w6⟩, ⟨u7, v7, w7⟩⟩, ⟨d12, d13, d14, d15, d16, d17, d23, d24, d25, d26, d27, d34, d35, d36, d37, d45, d46, d47, d56, d57, d67⟩, ⟨xx1, xx2, xx3, xx4, xx5, xx6, xx7⟩, h1, h2, h3, h4, h5, h6, h7⟩ := h
  exact ⟨p1, q1, p2, q2, p3, q3, p4, q4, p5, q5, p6, q6, p7, q7, ⟨⟨Nat.le_trans hl u1, v1, Nat.le_trans w1 hh⟩, ⟨Nat.le_trans hl u2, v2, Nat.le_trans w2 hh⟩, ⟨Nat.le_trans hl u3, v3, Nat.le_trans w3 hh⟩, ⟨Nat.le_trans hl u4, v4, Nat.le_trans w4 hh⟩, ⟨Nat.le_trans hl u5, v5, Nat.le_trans w5 hh⟩, ⟨Nat.le_trans hl u6, v6, Nat.le_trans w6 hh⟩, ⟨Nat.le_trans hl u7, v7, Nat.le_trans w7 hh⟩⟩, ⟨d12, d13, d14, d15, d16, d17, d23, d24, d25, d26, d27, d34, d35, d36, d37, d45, d46, d47, d56, d57, d67⟩, ⟨xx1, xx2, xx3, xx4, xx5, xx6, xx7⟩, h1, h2, h3, h4, h5, h6, h7⟩
theorem Sev.but {W W' : World} {lo hi L H : Nat} {X : Nat → Prop} {a1 a2 a3 a4 a5 a6 a7 : Option Addr} {ls : List Lk.R} {tw : List Tu.R} {se : List Tu.R} {du : List Tu.R} {ss : List So.R} {es : List Tu.R} {la : List Ed.R} (h : Sev W lo hi X a1 a2 a3 a4 a5 a6 a7 ls tw se du ss es la) (hs : W.heap.size ≤ W'.heap.size) (hb : ∀ k, k < W.heap.size → (k < L ∨ H ≤ k) → W'.heap[k]? = W.heap[k]?) (hd : hi ≤ L ∨ H ≤ lo) : Sev W' lo hi X a1 a2 a3 a4 a5 a6 a7 ls tw se du ss es la := by
  obtain ⟨p1, q1, p2, q2, p3, q3, p4, q4, p5, q5, p6, q6, p7, q7, ⟨⟨u1, v1, w1⟩, ⟨u2, v2, w2⟩, ⟨u3, v3, w3⟩, ⟨u4, v4, w4⟩, ⟨u5, v5, w5⟩, ⟨u6, v6, w6⟩, ⟨u7, v7, w7⟩⟩, ⟨d12, d13, d14, d15, d16, d17, d23, d24, d25, d26, d27, d34, d35, d36, d37, d45, d46, d47, d56, d57, d67⟩, ⟨xx1, xx2, xx3, xx4, xx5, xx6, xx7⟩, h1, h2, h3, h4, h5, h6, h7⟩ := h
  exact ⟨p1, q1, p2, q2, p3, q3, p4, q4, p5, q5, p6, q6, p7, q7, ⟨⟨u1, v1, w1⟩, ⟨u2, v2, w2⟩, ⟨u3, v3, w3⟩, ⟨u4, v4, w4⟩, ⟨u5, v5, w5⟩, ⟨u6, v6, w6⟩, ⟨u7, v7, w7⟩⟩, ⟨d12, d13, d14, d15, d16, d17, d23, d24, d25, d26, d27, d34, d35, d36, d37, d45, d46, d47, d56, d57, d67⟩, ⟨xx1, xx2, xx3, xx4, xx5, xx6, xx7⟩, h1.but (p := fun k => k < L ∨ H ≤ k) hs (fun k hk h => hb k hk h) (fun k h1 h2 => by omega), h2.but (p := fun k => k < L ∨ H ≤ k) hs (fun k hk h => hb k hk h) (fun k h1 h2 => by omega), h3.but (p := fun k => k < L ∨ H ≤ k) hs (fun k hk h => hb k hk h) (fun k h1 h2 => by omega), h4.but (p := fun k => k < L ∨ H ≤ k) hs (fun k hk h => hb k hk h) (fun k h1 h2 => by omega), h5.but (p := fun k => k < L ∨ H ≤ k) hs (fun k hk h => hb k hk h) (fun k h1 h2 => by omega), h6.but (p := fun k => k < L ∨ H ≤ k) hs (fun k hk h => hb k hk h) (fun k h1 h2 => by omega), h7.but (p := fun k => k < L ∨ H ≤ k) hs (fun k hk h => hb k hk h) (fun k h1 h2 => by omega)⟩
/-- What happens in those blocks leaves them alone. -/
theorem Sev.butX {W W' : World} {lo hi : Nat} {X : Nat → Prop} {a1 a2 a3 a4 a5 a6 a7 : Option Addr} {ls : List Lk.R} {tw : List Tu.R} {se : List Tu.R} {du : List Tu.R} {ss : List So.R} {es : List Tu.R} {la : List Ed.R} (h : Sev W lo hi X a1 a2 a3 a4 a5 a6 a7 ls tw se du ss es la) (hs : W.heap.size ≤ W'.heap.size) (hb : ∀ k, k < W.heap.size → ¬ X k → W'.heap[k]? = W.heap[k]?) : Sev W' lo hi X a1 a2 a3 a4 a5 a6 a7 ls tw se du ss es la := by
  obtain ⟨p1, q1, p2, q2, p3, q3, p4, q4, p5, q5, p6, q6, p7, q7, ⟨⟨u1, v1, w1⟩, ⟨u2, v2, w2⟩, ⟨u3, v3, w3⟩, ⟨u4, v4, w4⟩, ⟨u5, v5, w5⟩, ⟨u6, v6, w6⟩, ⟨u7, v7, w7⟩⟩, ⟨d12, d13, d14, d15, d16, d17, d23, d24, d25, d26, d27, d34, d35, d36, d37, d45, d46, d47, d56, d57, d67⟩, ⟨xx1, xx2, xx3, xx4, xx5, xx6, xx7⟩, h1, h2, h3, h4, h5, h6, h7⟩ := h
  exact ⟨p1, q1, p2, q2, p3, q3, p4, q4, p5, q5, p6, q6, p7, q7, ⟨⟨u1, v1, w1⟩, ⟨u2, v2, w2⟩, ⟨u3, v3, w3⟩, ⟨u4, v4, w4⟩, ⟨u5, v5, w5⟩, ⟨u6, v6, w6⟩, ⟨u7, v7, w7⟩⟩, ⟨d12, d13, d14, d15, d16, d17, d23, d24, d25, d26, d27, d34, d35, d36, d37, d45, d46, d47, d56, d57, d67⟩, ⟨xx1, xx2, xx3, xx4, xx5, xx6, xx7⟩, h1.but (p := fun k => ¬ X k) hs (fun k hk h => hb k hk h) xx1, h2.but (p := fun k => ¬ X k) hs (fun k hk h => hb k hk h) xx2, h3.but (p := fun k => ¬ X k) hs (fun k hk h => hb k hk h) xx3, h4.but (p := fun k => ¬ X k) hs (fun k hk h => hb k hk h) xx4, h5.but (p := fun k => ¬ X k) hs (fun k hk h => hb k hk h) xx5, h6.but (p := fun k => ¬ X k) hs (fun k hk h => hb k hk h) xx6, h7.but (p := fun k => ¬ X k) hs (fun k hk h => hb k hk h) xx7⟩
theorem Sev.set {W : World} {lo hi : Nat} {X : Nat → Prop} {a1 a2 a3 a4 a5 a6 a7 : Option Addr} {ls : List Lk.R} {tw : List Tu.R} {se : List Tu.R} {du : List Tu.R} {ss : List So.R} {es : List Tu.R} {la : List Ed.R} (h : Sev W lo hi X a1 a2 a3 a4 a5 a6 a7 ls tw se du ss es la) {a : Addr} (v : Value) (h1 : X a.block) : Sev (W.setCell a v) lo hi X a1 a2 a3 a4 a5 a6 a7 ls tw se du ss es la :=
  h.butX (by simp [World.setCell]) (fun k _ hk => Below.heap_setCell _ _ _ _ (fun e => hk (e ▸ h1)))
theorem Sev.of {W : World} {lo hi : Nat} {X : Nat → Prop} {a1 a2 a3 a4 a5 a6 a7 : Option Addr} {ls : List Lk.R} {tw : List Tu.R} {se : List Tu.R} {du : List Tu.R} {ss : List So.R} {es : List Tu.R} {la : List Ed.R} (h : RL W lo hi a1 a2 a3 a4 a5 a6 a7 ls tw se du ss es la) (hd : ∀ k, X k → hi ≤ k ∨ k < lo) : Sev W lo hi X a1 a2 a3 a4 a5 a6 a7 ls tw se du ss es la := by
  obtain ⟨b1, b2, b3, b4, b5, b6, ⟨o0, o1, o2, o3, o4, o5, o6⟩, h1, h2, h3, h4, h5, h6, h7⟩ := h
  exact ⟨lo, b1, b1, b2, b2, b3, b3, b4, b4, b5, b5, b6, b6, hi, ⟨⟨by omega, by omega, by omega⟩, ⟨by omega, by omega, by omega⟩, ⟨by omega, by omega, by omega⟩, ⟨by omega, by omega, by omega⟩, ⟨by omega, by omega, by omega⟩, ⟨by omega, by omega, by omega⟩, ⟨by omega, by omega, by omega⟩⟩, ⟨(by unfold Dj; omega), (by unfold Dj; omega), (by unfold Dj; omega), (by unfold Dj; omega), (by unfold Dj; omega), (by unfold Dj; omega), (by unfold Dj; omega), (by unfold Dj; omega), (by unfold Dj; omega), (by unfold Dj; omega), (by unfold Dj; omega), (by unfold Dj; omega), (by unfold Dj; omega), (by unfold Dj; omega), (by unfold Dj; omega), (by unfold Dj; omega), (by unfold Dj; omega), (by unfold Dj; omega), (by unfold Dj; omega), (by unfold Dj; omega), (by unfold Dj; omega)⟩, ⟨(fun k h1 h2 hx => by have := hd k hx; omega), (fun k h1 h2 hx => by have := hd k hx; omega), (fun k h1 h2 hx => by have := hd k hx; omega), (fun k h1 h2 hx => by have := hd k hx; omega), (fun k h1 h2 hx => by have := hd k hx; omega), (fun k h1 h2 hx => by have := hd k hx; omega), (fun k h1 h2 hx => by have := hd k hx; omega)⟩, h1, h2, h3, h4, h5, h6, h7⟩
theorem Sev.r1 {W : World} {lo hi : Nat} {X : Nat → Prop} {a1 a2 a3 a4 a5 a6 a7 : Option Addr} {ls : List Lk.R} {tw : List Tu.R} {se : List Tu.R} {du : List Tu.R} {ss : List So.R} {es : List Tu.R} {la : List Ed.R} (h : Sev W lo hi X a1 a2 a3 a4 a5 a6 a7 ls tw se du ss es la) : Lk.RM W a1 ls := by obtain ⟨p1, q1, p2, q2, p3, q3, p4, q4, p5, q5, p6, q6, p7, q7, ⟨⟨u1, v1, w1⟩, ⟨u2, v2, w2⟩, ⟨u3, v3, w3⟩, ⟨u4, v4, w4⟩, ⟨u5, v5, w5⟩, ⟨u6, v6, w6⟩, ⟨u7, v7, w7⟩⟩, ⟨d12, d13, d14, d15, d16, d17, d23, d24, d25, d26, d27, d34, d35, d36, d37, d45, d46, d47, d56, d57, d67⟩, ⟨xx1, xx2, xx3, xx4, xx5, xx6, xx7⟩, h1, h2, h3, h4, h5, h6, h7⟩ := h; exact h1.rm
theorem Sev.r2 {W : World} {lo hi : Nat} {X : Nat → Prop} {a1 a2 a3 a4 a5 a6 a7 : Option Addr} {ls : List Lk.R} {tw : List Tu.R} {se : List Tu.R} {du : List Tu.R} {ss : List So.R} {es : List Tu.R} {la : List Ed.R} (h : Sev W lo hi X a1 a2 a3 a4 a5 a6 a7 ls tw se du ss es la) : Tu.RM W a2 tw := by obtain ⟨p1, q1, p2, q2, p3, q3, p4, q4, p5, q5, p6, q6, p7, q7, ⟨⟨u1, v1, w1⟩, ⟨u2, v2, w2⟩, ⟨u3, v3, w3⟩, ⟨u4, v4, w4⟩, ⟨u5, v5, w5⟩, ⟨u6, v6, w6⟩, ⟨u7, v7, w7⟩⟩, ⟨d12, d13, d14, d15, d16, d17, d23, d24, d25, d26, d27, d34, d35, d36, d37, d45, d46, d47, d56, d57, d67⟩, ⟨xx1, xx2, xx3, xx4, xx5, xx6, xx7⟩, h1, h2, h3, h4, h5, h6, h7⟩ := h; exact h2.rm
theorem Sev.r3 {W : World} {lo hi : Nat} {X : Nat → Prop} {a1 a2 a3 a4 a5 a6 a7 : Option Addr} {ls : List Lk.R} {tw : List Tu.R} {se : List Tu.R} {du : List Tu.R} {ss : List So.R} {es : List Tu.R} {la : List Ed.R} (h : Sev W lo hi X a1 a2 a3 a4 a5 a6 a7 ls tw se du ss es la) : Tu.RM W a3 se := by obtain ⟨p1, q1, p2, q2, p3, q3, p4, q4, p5, q5, p6, q6, p7, q7, ⟨⟨u1, v1, w1⟩, ⟨u2, v2, w2⟩, ⟨u3, v3, w3⟩, ⟨u4, v4, w4⟩, ⟨u5, v5, w5⟩, ⟨u6, v6, w6⟩, ⟨u7, v7, w7⟩⟩, ⟨d12, d13, d14, d15, d16, d17, d23, d24, d25, d26, d27, d34, d35, d36, d37, d45, d46, d47, d56, d57, d67⟩, ⟨xx1, xx2, xx3, xx4, xx5, xx6, xx7⟩, h1, h2, h3, h4, h5, h6, h7⟩ := h; exact h3.rm
theorem Sev.r4 {W : World} {lo hi : Nat} {X : Nat → Prop} {a1 a2 a3 a4 a5 a6 a7 : Option Addr} {ls : List Lk.R} {tw : List Tu.R} {se : List Tu.R} {du : List Tu.R} {ss : List So.R} {es : List Tu.R} {la : List Ed.R} (h : Sev W lo hi X a1 a2 a3 a4 a5 a6 a7 ls tw se du ss es la) : Tu.RM W a4 du := by obtain ⟨p1, q1, p2, q2, p3, q3, p4, q4, p5, q5, p6, q6, p7, q7, ⟨⟨u1, v1, w1⟩, ⟨u2, v2, w2⟩, ⟨u3, v3, w3⟩, ⟨u4, v4, w4⟩, ⟨u5, v5, w5⟩, ⟨u6, v6, w6⟩, ⟨u7, v7, w7⟩⟩, ⟨d12, d13, d14, d15, d16, d17, d23, d24, d25, d26, d27, d34, d35, d36, d37, d45, d46, d47, d56, d57, d67⟩, ⟨xx1, xx2, xx3, xx4, xx5, xx6, xx7⟩, h1, h2, h3, h4, h5, h6, h7⟩ := h; exact h4.rm
theorem Sev.r5 {W : World} {lo hi : Nat} {X : Nat → Prop} {a1 a2 a3 a4 a5 a6 a7 : Option Addr} {ls : List Lk.R} {tw : List Tu.R} {se : List Tu.R} {du : List Tu.R} {ss : List So.R} {es : List Tu.R} {la : List Ed.R} (h : Sev W lo hi X a1 a2 a3 a4 a5 a6 a7 ls tw se du ss es la) : So.RM W a5 ss := by obtain ⟨p1, q1, p2, q2, p3, q3, p4, q4, p5, q5, p6, q6, p7, q7, ⟨⟨u1, v1, w1⟩, ⟨u2, v2, w2⟩, ⟨u3, v3, w3⟩, ⟨u4, v4, w4⟩, ⟨u5, v5, w5⟩, ⟨u6, v6, w6⟩, ⟨u7, v7, w7⟩⟩, ⟨d12, d13, d14, d15, d16, d17, d23, d24, d25, d26, d27, d34, d35, d36, d37, d45, d46, d47, d56, d57, d67⟩, ⟨xx1, xx2, xx3, xx4, xx5, xx6, xx7⟩, h1, h2, h3, h4, h5, h6, h7⟩ := h; exact h5.rm
theorem Sev.r6 {W : World} {lo hi : Nat} {X : Nat → Prop} {a1 a2 a3 a4 a5 a6 a7 : Option Addr} {ls : List Lk.R} {tw : List Tu.R} {se : List Tu.R} {du : List Tu.R} {ss : List So.R} {es : List Tu.R} {la : List Ed.R} (h : Sev W lo hi X a1 a2 a3 a4 a5 a6 a7 ls tw se du ss es la) : Tu.RM W a6 es := by obtain ⟨p1, q1, p2, q2, p3, q3, p4, q4, p5, q5, p6, q6, p7, q7, ⟨⟨u1, v1, w1⟩, ⟨u2, v2, w2⟩, ⟨u3, v3, w3⟩, ⟨u4, v4, w4⟩, ⟨u5, v5, w5⟩, ⟨u6, v6, w6⟩, ⟨u7, v7, w7⟩⟩, ⟨d12, d13, d14, d15, d16, d17, d23, d24, d25, d26, d27, d34, d35, d36, d37, d45, d46, d47, d56, d57, d67⟩, ⟨xx1, xx2, xx3, xx4, xx5, xx6, xx7⟩, h1, h2, h3, h4, h5, h6, h7⟩ := h; exact h6.rm
theorem Sev.r7 {W : World} {lo hi : Nat} {X : Nat → Prop} {a1 a2 a3 a4 a5 a6 a7 : Option Addr} {ls : List Lk.R} {tw : List Tu.R} {se : List Tu.R} {du : List Tu.R} {ss : List So.R} {es : List Tu.R} {la : List Ed.R} (h : Sev W lo hi X a1 a2 a3 a4 a5 a6 a7 ls tw se du ss es la) : Ed.RM W a7 la := by obtain ⟨p1, q1, p2, q2, p3, q3, p4, q4, p5, q5, p6, q6, p7, q7, ⟨⟨u1, v1, w1⟩, ⟨u2, v2, w2⟩, ⟨u3, v3, w3⟩, ⟨u4, v4, w4⟩, ⟨u5, v5, w5⟩, ⟨u6, v6, w6⟩, ⟨u7, v7, w7⟩⟩, ⟨d12, d13, d14, d15, d16, d17, d23, d24, d25, d26, d27, d34, d35, d36, d37, d45, d46, d47, d56, d57, d67⟩, ⟨xx1, xx2, xx3, xx4, xx5, xx6, xx7⟩, h1, h2, h3, h4, h5, h6, h7⟩ := h; exact h7.rm
end Rt
end Go.Proofs.Ytpmlpojefelbbaa
namespace Go.Proofs.Ytpmlpojefelbbaa
open Go.ChangeShapes Go.WideShapes Go.ChangeAt Go.RowKit
set_option linter.unusedVariables false
set_option linter.unusedSimpArgs false
attribute [local go_sem ↓] Go.wp_at_zero Go.wp_at_succ
namespace Ln
open W1 Lk
theorem l06Own (g off : Nat) (ms : List R) (cap n : Nat) (w : World) (hn : ms.length = n) (hm : ms.length ≤ 4096) (hr : RM w (some ⟨g, off, none⟩) ms) :
    Calls Try.prog 52 #[.slice (some ⟨g, off, none⟩) n cap] w fun e w' => ∃ v, e = .returned v ∧ Below w.heap.size w w' ∧ LstV w' v ms w.heap.size w'.heap.size := by
  have HR := hide (hr.below ((Below.refl _ _).alloc (Nat.le_refl _) (.cells #[] 73)))
  have O0 := hide (own_empty w w.heap.size (Nat.le_refl _))
  clear hr
  go_enter Try.func52, Try.ntmps52
  go_wp2_with (at_builtin; refine wpList_apS (unhide O0) g off n cap ms hn (unhide HR) (by simp; omega) (by simp) rfl _ _ rfl rfl rfl ?_; intro v' w' ho hg; have HL := hide (lst_own rfl ho); have HB := hide (below_own ((Below.refl _ _).alloc (Nat.le_refl _) _) (unhide O0) hg (Nat.le_refl _) (by simp)); clear ho hg)
  go_ret
  exact ⟨_, rfl, unhide HB, unhide HL⟩
end Ln
end Go.Proofs.Ytpmlpojefelbbaa
namespace Go.Proofs.Ytpmlpojefelbbaa
open Go.ChangeShapes Go.WideShapes Go.ChangeAt Go.RowKit
set_option linter.unusedVariables false
set_option linter.unusedSimpArgs false
set_option maxRecDepth 100000
attribute [local go_sem ↓] Go.wp_at_zero Go.wp_at_succ
namespace Tp
open W1 Tu St Tw
end Tp
end Go.Proofs.Ytpmlpojefelbbaa
namespace Go.Proofs.Ytpmlpojefelbbaa
open Go.ChangeShapes Go.WideShapes Go.ChangeAt Go.RowKit
set_option linter.unusedVariables false
set_option linter.unusedSimpArgs false
set_option maxRecDepth 100000
attribute [local go_sem ↓] Go.wp_at_zero Go.wp_at_succ
namespace Tp
open W1 Tu St Tw
theorem fm_of {w : World} {base e size n : Nat} {v : Value} {xs : List Value} (h : w.ownsRow base e size v n xs) (hne : v ≠ .slice none 0 0) : ∃ g c, v = .slice (some ⟨g, 0, none⟩) n c ∧ n ≤ c := by
  obtain ⟨_, ⟨rfl, h0⟩ | ⟨g, cap, cur, rfl, _, _, h1, h2, _, _⟩⟩ := h
  · exact absurd rfl hne
  · exact ⟨g, cap, rfl, h1⟩
/-- append onto a row of one's own that lies somewhere: so does the answer. -/
theorem apFSo {ops : Array Oper} {rest : List Oper} {o : Oper} {a : Act} {Q : Exit → Act → World → Prop} {w : World} {base : Nat} {v : Value} {xs : List So.R} (hown : w.ownsRow base 77 3 v xs.length (So.flat xs)) (hv : v ≠ .slice none 0 0) (g off m c : Nat) (ms : List So.R) (hm : ms.length = m) (hr : So.RM w (some ⟨g, off, none⟩) ms) (hlen : xs.length + ms.length ≤ 4194304) (hbase : base ≤ w.heap.size)
    (hgd : o.guard = none) (s x : Operand) (ho : o.op = .call { callee := .builtin .append, args := #[s, x], argTypes := #[41, 41] }) (hs : a.eval s = v) (hx : a.eval x = .slice (some ⟨g, off, none⟩) m c)
    (h : ∀ b' c' w', w'.ownsRow base 77 3 (.slice (some ⟨b', 0, none⟩) (xs ++ ms).length c') (xs ++ ms).length (So.flat (xs ++ ms)) → (xs ++ ms).length ≤ c' → w.grownBy w' v.ownBlock → wpList Try.prog ops Q rest (a.put o.dst (.slice (some ⟨b', 0, none⟩) (xs ++ ms).length c')) w') : wpList Try.prog ops Q (o :: rest) a w := by
  subst hm
  obtain ⟨i0, hi, hz0, hz1, hz2⟩ := So.infoR
  refine wpList_append_own w hgd s x _ ho base 77 i0 _ 3 24 Try.underlying41 hi hz0 hz1 hz2 rfl (by decide) v xs.length (So.flat xs) hs hown ⟨g, off, none⟩ ms.length c (So.flat ms) hx (So.flat_len ms) hr.cells (fun u hu => So.flat_one_cell hu) (by unfold maxLen; omega) (by omega) hbase (fun v' w' h1 h2 h3 => ?_)
  have hne : v' ≠ .slice none 0 0 := fun e => hv (h3.1 e).1
  obtain ⟨b', c', rfl, hc⟩ := fm_of h1 hne
  have h1' := h1
  rw [← So.flat_append] at h1'
  have e : xs.length + ms.length = (xs ++ ms).length := (List.length_append ..).symm
  rw [e] at h1' hc ⊢
  exact h b' c' w' h1' hc h2
/-- append onto a row of one's own that lies somewhere: so does the answer. -/
theorem apFTu {ops : Array Oper} {rest : List Oper} {o : Oper} {a : Act} {Q : Exit → Act → World → Prop} {w : World} {base : Nat} {v : Value} {xs : List Tu.R} (hown : w.ownsRow base 75 3 v xs.length (Tu.flat xs)) (hv : v ≠ .slice none 0 0) (g off m c : Nat) (ms : List Tu.R) (hm : ms.length = m) (hr : Tu.RM w (some ⟨g, off, none⟩) ms) (hlen : xs.length + ms.length ≤ 4194304) (hbase : base ≤ w.heap.size)
    (hgd : o.guard = none) (s x : Operand) (ho : o.op = .call { callee := .builtin .append, args := #[s, x], argTypes := #[40, 40] }) (hs : a.eval s = v) (hx : a.eval x = .slice (some ⟨g, off, none⟩) m c)
    (h : ∀ b' c' w', w'.ownsRow base 75 3 (.slice (some ⟨b', 0, none⟩) (xs ++ ms).length c') (xs ++ ms).length (Tu.flat (xs ++ ms)) → (xs ++ ms).length ≤ c' → w.grownBy w' v.ownBlock → wpList Try.prog ops Q rest (a.put o.dst (.slice (some ⟨b', 0, none⟩) (xs ++ ms).length c')) w') : wpList Try.prog ops Q (o :: rest) a w := by
  subst hm
  obtain ⟨i0, hi, hz0, hz1, hz2⟩ := Tu.infoR
  refine wpList_append_own w hgd s x _ ho base 75 i0 _ 3 24 Try.underlying40 hi hz0 hz1 hz2 rfl (by decide) v xs.length (Tu.flat xs) hs hown ⟨g, off, none⟩ ms.length c (Tu.flat ms) hx (Tu.flat_len ms) hr.cells (fun u hu => Tu.flat_one_cell hu) (by unfold maxLen; omega) (by omega) hbase (fun v' w' h1 h2 h3 => ?_)
  have hne : v' ≠ .slice none 0 0 := fun e => hv (h3.1 e).1
  obtain ⟨b', c', rfl, hc⟩ := fm_of h1 hne
  have h1' := h1
  rw [← Tu.flat_append] at h1'
  have e : xs.length + ms.length = (xs ++ ms).length := (List.length_append ..).symm
  rw [e] at h1' hc ⊢
  exact h b' c' w' h1' hc h2
theorem lst_fm {w : World} {base g n c : Nat} {ms : List So.R} (hn : n = ms.length) (h : w.ownsRow base 77 3 (.slice (some ⟨g, 0, none⟩) n c) n (So.flat ms)) : So.Lst w (some ⟨g, 0, none⟩) ms base w.heap.size := by
  obtain ⟨a, c', e, hl⟩ := So.lst_own hn h
  cases e; exact hl
theorem lst_fmT {w : World} {base g n c : Nat} {ms : List R} (hn : n = ms.length) (h : w.ownsRow base 75 3 (.slice (some ⟨g, 0, none⟩) n c) n (Tu.flat ms)) : Tu.Lst w (some ⟨g, 0, none⟩) ms base w.heap.size := by
  obtain ⟨a, c', e, hl⟩ := Tu.lst_own hn h
  cases e; exact hl
set_option maxHeartbeats 1000000 in
theorem l03OwnF (g off : Nat) (ms : List R) (cap n : Nat) (w : World) (hn : ms.length = n) (hm : ms.length ≤ 4096) (hr : Tu.RM w (some ⟨g, off, none⟩) ms) :
    Calls Try.prog 53 #[.slice (some ⟨g, off, none⟩) n cap] w fun e w' => ∃ b c, e = .returned (.slice (some ⟨b, 0, none⟩) n c) ∧ Below w.heap.size w w' ∧ ms.length ≤ c ∧ Tu.Lst w' (some ⟨b, 0, none⟩) ms w.heap.size w'.heap.size := by
  have HR := hide (hr.below ((Below.refl _ _).alloc (Nat.le_refl _) (.cells #[] 75)))
  have O0 := hide (Tu.own_empty w w.heap.size (Nat.le_refl _))
  clear hr
  go_enter Try.func53, Try.ntmps53
  go_wp2_with (at_builtin; refine apFTu (unhide O0) (by simp) g off n cap ms hn (unhide HR) (by simp; omega) (by simp) rfl _ _ rfl rfl rfl ?_; intro b' c' w' ho hc hg; have HL := hide (lst_fmT rfl ho); have HB := hide (Tu.below_own ((Below.refl _ _).alloc (Nat.le_refl _) _) (unhide O0) hg (Nat.le_refl _) (by simp)); have HC := hide hc; clear ho hg hc)
  go_ret
  exact ⟨_, _, rfl, unhide HB, unhide HC, unhide HL⟩
/-- A topology that can be read: both lists lie somewhere. -/
def RdT (w : World) (v : Value) (S : List So.R) (E : List R) : Prop := ∃ g o c h p d, v = .agg #[.slice (some ⟨g, o, none⟩) S.length c, .slice (some ⟨h, p, none⟩) E.length d] ∧ S.length ≤ c ∧ So.RM w (some ⟨g, o, none⟩) S ∧ Tu.RM w (some ⟨h, p, none⟩) E
theorem RdT.below {w w' : World} {v : Value} {S : List So.R} {E : List R} (h : RdT w v S E) (hb : Below w.heap.size w w') : RdT w' v S E := by
  obtain ⟨g, o, c, h, p, d, rfl, h1, h2, h3⟩ := h
  exact ⟨g, o, c, h, p, d, rfl, h1, h2.below hb, h3.below hb⟩
/-- A topology in memory of its own, that lies somewhere. -/
def OwT (w : World) (v : Value) (S : List So.R) (E : List R) (lo hi : Nat) : Prop := ∃ g c h d mid, v = .agg #[.slice (some ⟨g, 0, none⟩) S.length c, .slice (some ⟨h, 0, none⟩) E.length d] ∧ S.length ≤ c ∧ So.Lst w (some ⟨g, 0, none⟩) S lo mid ∧ Tu.Lst w (some ⟨h, 0, none⟩) E mid hi ∧ lo ≤ mid ∧ mid ≤ hi
theorem OwT.rd {w : World} {v : Value} {S : List So.R} {E : List R} {lo hi : Nat} (h : OwT w v S E lo hi) : RdT w v S E := by
  obtain ⟨g, c, h, d, mid, rfl, h1, h2, h3, _⟩ := h
  exact ⟨g, 0, c, h, 0, d, rfl, h1, h2.rm, h3.rm⟩
theorem OwT.below {w w' : World} {v : Value} {S : List So.R} {E : List R} {lo hi : Nat} (h : OwT w v S E lo hi) (hb : Below w.heap.size w w') : OwT w' v S E lo hi := by
  obtain ⟨g, c, h, d, mid, rfl, h1, h2, h3, h4⟩ := h
  exact ⟨g, c, h, d, mid, rfl, h1, h2.below hb, h3.below hb, h4⟩
theorem OwT.mono {w : World} {v : Value} {S : List So.R} {E : List R} {lo hi lo' hi' : Nat} (h : OwT w v S E lo hi) (h1 : lo' ≤ lo) (h2 : hi ≤ hi') : OwT w v S E lo' hi' := by
  obtain ⟨g, c, h, d, mid, rfl, q1, q2, q3, q4⟩ := h
  exact ⟨g, c, h, d, mid, rfl, q1, q2.mono h1 (Nat.le_refl _), q3.mono (Nat.le_refl _) h2, by omega⟩
theorem lsS_set {w : World} {a : Option Addr} {ms : List So.R} {lo hi b i : Nat} {u : Value} (h : So.Lst w a ms lo hi) (hb : b < lo ∨ hi ≤ b) : So.Lst (w.setCell ⟨b, i, none⟩ u) a ms lo hi :=
  h.but (p := fun k => k ≠ b) (by simp [World.setCell]) (fun k hk hne => Below.heap_setCell _ _ _ _ hne) (fun k h1 h2 => by omega)
theorem lsT_set {w : World} {a : Option Addr} {ms : List R} {lo hi b i : Nat} {u : Value} (h : Tu.Lst w a ms lo hi) (hb : b < lo ∨ hi ≤ b) : Tu.Lst (w.setCell ⟨b, i, none⟩ u) a ms lo hi :=
  h.but (p := fun k => k ≠ b) (by simp [World.setCell]) (fun k hk hne => Below.heap_setCell _ _ _ _ hne) (fun k h1 h2 => by omega)
set_option maxHeartbeats 4000000 in
theorem l09Own (g off : Nat) (ss : List So.R) (ca h ofe : Nat) (es : List R) (cb : Nat) (w : World) (hm : ss.length ≤ 4096) (hl : es.length ≤ 4096) (hr : So.RM w (some ⟨g, off, none⟩) ss) (hr' : RM w (some ⟨h, ofe, none⟩) es) :
    Calls Try.prog 54 #[.agg #[.slice (some ⟨g, off, none⟩) ss.length ca, .slice (some ⟨h, ofe, none⟩) es.length cb]] w fun e w' => ∃ v, e = .returned v ∧ Below w.heap.size w w' ∧ OwT w' v ss es w.heap.size w'.heap.size := by
  have HA0 : Hid (Below w.heap.size w (w.alloc (.cells #[.slice (some ⟨g, off, none⟩) ss.length ca, .slice (some ⟨h, ofe, none⟩) es.length cb] 43))) := hide ((Below.refl _ _).alloc (Nat.le_refl _) _)
  have HA : Hid (Below w.heap.size w ((w.alloc (.cells #[.slice (some ⟨g, off, none⟩) ss.length ca, .slice (some ⟨h, ofe, none⟩) es.length cb] 43)).alloc (.cells #[.slice none 0 0, .slice none 0 0] 43))) := hide ((unhide HA0).alloc (unhide HA0).size _)
  have HX : Hid (TV ((w.alloc (.cells #[.slice (some ⟨g, off, none⟩) ss.length ca, .slice (some ⟨h, ofe, none⟩) es.length cb] 43)).alloc (.cells #[.slice none 0 0, .slice none 0 0] 43)) w.heap.size (.slice (some ⟨g, off, none⟩) ss.length ca) (.slice (some ⟨h, ofe, none⟩) es.length cb)) := hide ((tv_new w _ _).below ((Below.refl _ _).alloc (Nat.le_refl _) _))
  have HZ : Hid (TV ((w.alloc (.cells #[.slice (some ⟨g, off, none⟩) ss.length ca, .slice (some ⟨h, ofe, none⟩) es.length cb] 43)).alloc (.cells #[.slice none 0 0, .slice none 0 0] 43)) (w.heap.size + 1) (.slice none 0 0) (.slice none 0 0)) := hide (by have := tv_new (w.alloc (.cells #[.slice (some ⟨g, off, none⟩) ss.length ca, .slice (some ⟨h, ofe, none⟩) es.length cb] 43)) (.slice none 0 0) (.slice none 0 0); rw [show (w.alloc (.cells #[.slice (some ⟨g, off, none⟩) ss.length ca, .slice (some ⟨h, ofe, none⟩) es.length cb] 43)).heap.size = w.heap.size + 1 by simp] at this; exact this)
  have hsz : (((w.alloc (.cells #[.slice (some ⟨g, off, none⟩) ss.length ca, .slice (some ⟨h, ofe, none⟩) es.length cb] 43)).alloc (.cells #[.slice none 0 0, .slice none 0 0] 43))).heap.size = w.heap.size + 2 := by simp
  have HR := hide hr
  have HE := hide hr'
  clear hr hr' HA0
  have hp1 : w.heap.size ≤ w.heap.size + 1 := by omega
  have O0 : Hid (((((w.alloc (.cells #[.slice (some ⟨g, off, none⟩) ss.length ca, .slice (some ⟨h, ofe, none⟩) es.length cb] 43)).alloc (.cells #[.slice none 0 0, .slice none 0 0] 43))).alloc (.cells #[] 77)).ownsRow (w.heap.size + 2) 77 3 (.slice (some ⟨w.heap.size + 2, 0, none⟩) 0 0) ([] : List So.R).length (So.flat [])) := hide (by have := So.own_empty ((w.alloc (.cells #[.slice (some ⟨g, off, none⟩) ss.length ca, .slice (some ⟨h, ofe, none⟩) es.length cb] 43)).alloc (.cells #[.slice none 0 0, .slice none 0 0] 43)) (w.heap.size + 2) (by rw [hsz]; exact Nat.le_refl _); rw [hsz] at this; exact this)
  have HA3 : Hid (Below w.heap.size w ((((w.alloc (.cells #[.slice (some ⟨g, off, none⟩) ss.length ca, .slice (some ⟨h, ofe, none⟩) es.length cb] 43)).alloc (.cells #[.slice none 0 0, .slice none 0 0] 43))).alloc (.cells #[] 77))) := hide ((unhide HA).alloc (unhide HA).size _)
  have HX3 : Hid (TV ((((w.alloc (.cells #[.slice (some ⟨g, off, none⟩) ss.length ca, .slice (some ⟨h, ofe, none⟩) es.length cb] 43)).alloc (.cells #[.slice none 0 0, .slice none 0 0] 43))).alloc (.cells #[] 77)) w.heap.size (.slice (some ⟨g, off, none⟩) ss.length ca) (.slice (some ⟨h, ofe, none⟩) es.length cb)) := hide ((unhide HX).below ((Below.refl _ _).alloc (Nat.le_refl _) _))
  have HZ3 : Hid (TV ((((w.alloc (.cells #[.slice (some ⟨g, off, none⟩) ss.length ca, .slice (some ⟨h, ofe, none⟩) es.length cb] 43)).alloc (.cells #[.slice none 0 0, .slice none 0 0] 43))).alloc (.cells #[] 77)) (w.heap.size + 1) (.slice none 0 0) (.slice none 0 0)) := hide ((unhide HZ).below ((Below.refl _ _).alloc (Nat.le_refl _) _))
  have hsz3 : ((((w.alloc (.cells #[.slice (some ⟨g, off, none⟩) ss.length ca, .slice (some ⟨h, ofe, none⟩) es.length cb] 43)).alloc (.cells #[.slice none 0 0, .slice none 0 0] 43))).alloc (.cells #[] 77)).heap.size = w.heap.size + 3 := by simp
  have HR3 := hide ((unhide HR).below (unhide HA3))
  clear HA HX HZ hsz
  go_enter Try.func54, Try.ntmps54
  go_wp2_with (at_builtin; refine apFSo (unhide O0) (by simp) g off ss.length ca ss rfl (unhide HR3) (by simp; omega) (by omega) rfl _ _ rfl rfl rfl ?_; intro b' c' w4 ho hc hg; simp only [List.nil_append] at ho hc ⊢; have HL4 := hide (lst_fm rfl ho); have HB4 := hide (So.below_own (unhide HA3) (unhide O0) hg (by omega) (by omega)); have HX4 := hide ((unhide HX3).grown hg (by simp [Value.ownBlock])); have HZ4 := hide ((unhide HZ3).grown hg (by simp [Value.ownBlock])); have HC4 := hide hc; have hs4 := hg.size; clear ho hg hc; obtain ⟨x0, x1⟩ := (unhide HX4).bx; have f0 := (unhide HX4).free 0)
  clear x0 x1 f0
  obtain ⟨w5, hw5⟩ : ∃ w5, w4.setCell ⟨w.heap.size, 0, none⟩ (.slice (some ⟨b', 0, none⟩) ss.length c') = w5 := ⟨_, rfl⟩
  rw [hw5]
  have HB5 : Hid (Below w.heap.size w w5) := hide (by rw [← hw5]; exact (unhide HB4).setCell (p := ⟨w.heap.size, 0, none⟩) (Nat.le_refl _) _)
  have HX5 : Hid (TV w5 w.heap.size (.slice (some ⟨b', 0, none⟩) ss.length c') (.slice (some ⟨h, ofe, none⟩) es.length cb)) := hide (by rw [← hw5]; exact (unhide HX4).set0 _)
  have HZ5 : Hid (TV w5 (w.heap.size + 1) (.slice none 0 0) (.slice none 0 0)) := hide (by rw [← hw5]; exact (unhide HZ4).other (p := ⟨w.heap.size, 0, none⟩) (by show w.heap.size + 1 ≠ w.heap.size; omega) _)
  have HL5 : Hid (So.Lst w5 (some ⟨b', 0, none⟩) ss (w.heap.size + 2) w5.heap.size) := hide (by rw [← hw5]; exact lsS_set ((unhide HL4).mono (Nat.le_refl _) (by simp [World.setCell])) (.inl (by omega)))
  have hs5 : w5.heap.size = w4.heap.size := by rw [← hw5]; simp [World.setCell]
  clear hw5 HB4 HX4 HZ4 HL4 HX3 HZ3 HR3 O0 HA3
  have HE5 := hide ((unhide HE).below (unhide HB5))
  refine (l03OwnF h ofe es cb _ _ rfl hl (unhide HE5)).mono ?_
  rintro e w6 ⟨q, d, rfl, b6, hd, l6⟩
  have HB6 := hide ((unhide HB5).trans (b6.mono (unhide HB5).size))
  have HX6 := hide ((unhide HX5).below b6)
  have HZ6 := hide ((unhide HZ5).below b6)
  have HL6 := hide ((unhide HL5).below b6)
  have HM6 := hide l6
  have hs6 := b6.size
  have HD := hide hd
  clear b6 l6 hd HX5 HZ5 HL5 HE5
  obtain ⟨x0, x1⟩ := (unhide HX6).bx
  have f1 := (unhide HX6).free 1
  obtain ⟨r0, r1⟩ := (unhide HZ6).bx
  have q0 := (unhide HZ6).free 0
  have q1 := (unhide HZ6).free 1
  have hne2 : ¬ w.heap.size = w.heap.size + 1 := by omega
  have hne3 : ¬ w.heap.size + 1 = w.heap.size := by omega
  go_wp2_with fail
  refine bodyPost_ret (v := .agg #[.slice (some ⟨b', 0, none⟩) ss.length c', .slice (some ⟨q, 0, none⟩) es.length d]) (by simp [results, Try.results54, go_sem, r0, r1, x0, x1]) rfl ⟨_, rfl, ?_, b', c', q, d, w5.heap.size, rfl, unhide HC4, ?_, ?_, by omega, ?_⟩
  · have hB := unhide HB6
    (repeat (first | (with_reducible exact hB) | (with_reducible refine Below.drew ?_) | (with_reducible refine Below.setCell ?_ ?_ _; rotate_left; (first | exact Nat.le_refl _ | (simp; done) | (dsimp only; omega))) | (with_reducible refine Below.alloc ?_ ?_ _; rotate_left; (first | exact Nat.le_refl _ | omega | (simp [World.setCell]; omega)))))
  · have := (unhide HL6)
    exact (lsS_set (lsS_set (lsS_set this (.inl (by omega))) (.inl (by omega))) (.inl (by omega))).mono (by omega) (Nat.le_refl _)
  · exact (lsT_set (lsT_set (lsT_set (unhide HM6) (.inl (by omega))) (.inl (by omega))) (.inl (by omega))).mono (Nat.le_refl _) (by simp [World.setCell])
  · simp [World.setCell]; omega
end Tp
end Go.Proofs.Ytpmlpojefelbbaa
