/-
  Of the texts Strs, NetB, NetHa, SetG, SetGc, TopG, Rl, RtrC, RtrCo, NetRw, NetOf, RtrD, LnkOw, TopC, TopW, RtrU, NetOw, NetHb, LnkM, GraM, LnkC, SetP, SetK, SetX, SetY, SetYc, GraS, LnkI, Nums, Tim, AdvM, AdvC, RtrO, NetM, NetA, RtrP, NetN, LnkA, LnkF, RtrQ, NetP, NetX, NetC, NetAn, RtrA: what this claim needs of them. (put together by mkprune.py)
-/
import Derived.Test.YtpmlpojefelbbaaQd2
import Derived.Deep.RegionHeld3
import Derived.Deep.DrawnRows
import Derived.Deep.Slices
import Derived.Laws.AppendOwn
import Derived.Deep.Cut
import Derived.Lib.AppendZeros
import Derived.OrdersHeld
import Derived.Deep.MidRow
import Derived.Deep.DeepHandedRow
import Derived.Deep.DeepCutAuto
import Derived.Laws.OwnMore
import Derived.Deep.AppendLies
import Derived.Deep.QuietTactic
import Derived.BigQuiet
import Derived.Laws.NewBlocks
import Derived.Test.YtpmlpojefelbbaaShelf
import Derived.Lib.ItoaNum
import Derived.Laws.BitsAllLaws
import Derived.Laws.Shifts
namespace Go.Proofs.Ytpmlpojefelbbaa
open Go.ChangeShapes Go.WideShapes Go.ChangeAt Go.RowKit
set_option linter.unusedVariables false
set_option linter.unusedSimpArgs false
attribute [local go_sem ↓] Go.wp_at_zero Go.wp_at_succ
namespace Ss
open W1 Di
def flat (zs : List ByteArray) : List Value := zs.map Value.string
theorem flat_len (zs : List ByteArray) : (flat zs).length = zs.length * 1 := by simp [flat]
theorem flat_append (xs ys : List ByteArray) : flat (xs ++ ys) = flat xs ++ flat ys := by simp [flat]
theorem flat_one_cell {zs : List ByteArray} {u : Value} (h : u ∈ flat zs) : u.oneCell' = true := by
  obtain ⟨z, _, rfl⟩ := List.mem_map.1 h; rfl
theorem flat_get {zs : List ByteArray} {i : Nat} (h : i < zs.length) : (flat zs)[i]? = some (.string (zs.getD i ByteArray.empty)) := by
  unfold flat
  rw [List.getElem?_map, List.getElem?_eq_getElem h, List.getD_eq_getElem?_getD, List.getElem?_eq_getElem h]; rfl
/-- The slice at a reads as these. -/
def RM (w : World) (a : Option Addr) (zs : List ByteArray) : Prop :=
  zs = [] ∨ ∃ g off, a = some ⟨g, off, none⟩ ∧ ∀ i, i < zs.length → w.cell? ⟨g, off + i, none⟩ = some (.string (zs.getD i ByteArray.empty))
theorem RM.below {w w' : World} {a : Option Addr} {zs : List ByteArray} (h : RM w a zs) (hb : Below w.heap.size w w') : RM w' a zs := by
  rcases h with h | ⟨g, off, rfl, hc⟩
  · exact .inl h
  · exact .inr ⟨g, off, rfl, fun i hi => (hb.cell (p := ⟨g, off + i, none⟩) (World.block_lt_of_cell? _ _ (hc i hi))).trans (hc i hi)⟩
theorem RM.at {w : World} {g off : Nat} {zs : List ByteArray} {i : Nat} (h : RM w (some ⟨g, off, none⟩) zs) (hi : i < zs.length) : w.cell? ⟨g, off + i, none⟩ = some (.string (zs.getD i ByteArray.empty)) := by
  rcases h with rfl | ⟨g', off', e, hc⟩
  · simp at hi
  · cases e; exact hc i hi
theorem plain_add (b off k : Nat) : (⟨b, off, none⟩ : Addr).add k = ⟨b, off + k, none⟩ := by unfold Addr.add; split <;> simp_all
theorem RM.cells {w : World} {g off : Nat} {zs : List ByteArray} (h : RM w (some ⟨g, off, none⟩) zs) : ∀ j u, (flat zs)[j]? = some u → w.cell? ((⟨g, off, none⟩ : Addr).add j) = some u := by
  intro j u hj
  have hl : j < zs.length := by have := (List.getElem?_eq_some_iff.1 hj).1; rw [flat_len] at this; omega
  rw [flat_get hl] at hj
  rw [plain_add, ← hj]
  exact h.at hl
/-- The first j stand at the head of block g, whose n cells may be written. -/
def Upto (w : World) (g n j : Nat) (zs : List ByteArray) : Prop :=
  (∀ i, i < j → w.cell? ⟨g, i, none⟩ = some (.string (zs.getD i ByteArray.empty))) ∧ ∀ i, i < n → (w.cell? ⟨g, i, none⟩).isSome = true ∧ w.frozen? ⟨g, i, none⟩ = false
theorem Upto.step {w : World} {g n j : Nat} {zs : List ByteArray} (h : Upto w g n j zs) (hj : j < n) : Upto (w.setCell ⟨g, j, none⟩ (.string (zs.getD j ByteArray.empty))) g n (j + 1) zs := by
  refine ⟨fun i hi => ?_, fun i hi => ⟨?_, by rw [World.frozen?_setCell]; exact (h.2 i hi).2⟩⟩
  · by_cases e : i = j
    · subst e
      obtain ⟨v, hv⟩ := Option.isSome_iff_exists.1 (h.2 i hj).1
      rw [World.cell?_setCell_same _ _ _ hv]
    · rw [World.cell?_setCell_other _ _ _ _ (by intro e'; cases e'; exact e rfl)]
      exact h.1 i (by omega)
  · obtain ⟨v, hv⟩ := Option.isSome_iff_exists.1 (h.2 i hi).1
    obtain ⟨v', hv'⟩ := cell?_setCell_some (p := ⟨g, j, none⟩) (x := .string (zs.getD j ByteArray.empty)) hv
    rw [hv']; rfl
theorem Upto.below {w w' : World} {g n j : Nat} {zs : List ByteArray} (h : Upto w g n j zs) (hb : Below w.heap.size w w') (hg : g < w.heap.size) : Upto w' g n j zs :=
  ⟨fun i hi => (hb.cell (p := ⟨g, i, none⟩) hg).trans (h.1 i hi), fun i hi => ⟨by rw [hb.cell (p := ⟨g, i, none⟩) hg]; exact (h.2 i hi).1, by rw [hb.frozen (p := ⟨g, i, none⟩) hg]; exact (h.2 i hi).2⟩⟩
theorem Upto.of_block {w w' : World} {g n j : Nat} {zs : List ByteArray} (h : Upto w g n j zs) (hb : w'.heap[g]? = w.heap[g]?) : Upto w' g n j zs := by
  have c : ∀ q, w'.cell? ⟨g, q, none⟩ = w.cell? ⟨g, q, none⟩ := fun q => World.cell?_of_block (a := ⟨g, q, none⟩) hb
  have f : ∀ q, w'.frozen? ⟨g, q, none⟩ = w.frozen? ⟨g, q, none⟩ := fun q => World.frozen?_of_block (a := ⟨g, q, none⟩) hb
  exact ⟨fun i hi => (c _).trans (h.1 i hi), fun i hi => ⟨by rw [c]; exact (h.2 i hi).1, by rw [f]; exact (h.2 i hi).2⟩⟩
theorem rm_of {w : World} {g n : Nat} {zs : List ByteArray} (h : Upto w g n zs.length zs) : RM w (some ⟨g, 0, none⟩) zs := .inr ⟨g, 0, rfl, fun i hi => by rw [Nat.zero_add]; exact h.1 i hi⟩
/-- A list between two bounds of the heap, in memory that may be written. -/
def Lst (W : World) (a : Option Addr) (zs : List ByteArray) (lo hi : Nat) : Prop := zs = [] ∨ ∃ g, a = some ⟨g, 0, none⟩ ∧ lo ≤ g ∧ g < hi ∧ g < W.heap.size ∧ Upto W g zs.length zs.length zs
theorem Lst.rm {W : World} {a : Option Addr} {zs : List ByteArray} {lo hi : Nat} (h : Lst W a zs lo hi) : RM W a zs := by
  rcases h with rfl | ⟨g, rfl, _, _, _, hu⟩
  · exact .inl rfl
  · exact rm_of hu
theorem Lst.below {W W' : World} {a : Option Addr} {zs : List ByteArray} {lo hi : Nat} (h : Lst W a zs lo hi) (hb : Below W.heap.size W W') : Lst W' a zs lo hi := by
  rcases h with rfl | ⟨g, rfl, h1, h2, h3, hu⟩
  · exact .inl rfl
  · exact .inr ⟨g, rfl, h1, h2, Nat.lt_of_lt_of_le h3 hb.size, hu.below hb h3⟩
theorem Lst.mono {W : World} {a : Option Addr} {zs : List ByteArray} {lo hi lo' hi' : Nat} (h : Lst W a zs lo hi) (h1 : lo' ≤ lo) (h2 : hi ≤ hi') : Lst W a zs lo' hi' := by
  rcases h with rfl | ⟨g, rfl, h3, h4, h5, hu⟩
  · exact .inl rfl
  · exact .inr ⟨g, rfl, by omega, by omega, h5, hu⟩
theorem Lst.but {W W' : World} {a : Option Addr} {zs : List ByteArray} {lo hi : Nat} {p : Nat → Prop} (h : Lst W a zs lo hi) (hs : W.heap.size ≤ W'.heap.size) (hb : ∀ k, k < W.heap.size → p k → W'.heap[k]? = W.heap[k]?) (hp : ∀ k, lo ≤ k → k < hi → p k) : Lst W' a zs lo hi := by
  rcases h with rfl | ⟨g, rfl, h1, h2, h3, hu⟩
  · exact .inl rfl
  · exact .inr ⟨g, rfl, h1, h2, Nat.lt_of_lt_of_le h3 hs, hu.of_block (hb g h3 (hp g h1 h2))⟩
def LstV (W : World) (v : Value) (zs : List ByteArray) (lo hi : Nat) : Prop := ∃ a c, v = .slice a zs.length c ∧ Lst W a zs lo hi
theorem LstV.below {W W' : World} {v : Value} {zs : List ByteArray} {lo hi : Nat} (h : LstV W v zs lo hi) (hb : Below W.heap.size W W') : LstV W' v zs lo hi := by
  obtain ⟨a, c, e, hl⟩ := h; exact ⟨a, c, e, hl.below hb⟩
theorem LstV.mono {W : World} {v : Value} {zs : List ByteArray} {lo hi lo' hi' : Nat} (h : LstV W v zs lo hi) (h1 : lo' ≤ lo) (h2 : hi ≤ hi') : LstV W v zs lo' hi' := by
  obtain ⟨a, c, e, hl⟩ := h; exact ⟨a, c, e, hl.mono h1 h2⟩
theorem lstV_nil (W : World) (a : Option Addr) (c lo hi : Nat) : LstV W (.slice a 0 c) [] lo hi := ⟨a, c, rfl, .inl rfl⟩
theorem upto_own {w : World} {base g cap n : Nat} {zs : List ByteArray} (hn : n = zs.length) (h : w.ownsRow base 9 1 (.slice (some ⟨g, 0, none⟩) n cap) n (flat zs)) : Upto w g n n zs := by
  subst hn
  refine ⟨fun i hi => ?_, fun i hi => ?_⟩
  · have := h.cells (g := g) rfl i _ (flat_get hi)
    rw [plain_add, Nat.zero_add] at this
    exact this
  · obtain ⟨_, ⟨e, _⟩ | ⟨g', cap', cur, e, _, hg, h1, _, h3, _⟩⟩ := h
    · cases e
    · cases e
      have hlt : i < cur.size := by rw [h3]; omega
      exact ⟨by simp [World.cell?, hg, hlt], by simp [World.frozen?, hg]⟩
theorem lst_own {w : World} {base n : Nat} {v : Value} {zs : List ByteArray} (hn : n = zs.length) (h : w.ownsRow base 9 1 v n (flat zs)) : LstV w v zs base w.heap.size := by
  unfold LstV
  have h' := h
  obtain ⟨hl, ⟨rfl, h0⟩ | ⟨g, cap, cur, rfl, hb, hg, _, _, _, _⟩⟩ := h
  · exact ⟨none, 0, by rw [← hn, h0], .inl (List.eq_nil_of_length_eq_zero (by omega))⟩
  · have hlt : g < w.heap.size := by
      rcases Nat.lt_or_ge g w.heap.size with h | h
      · exact h
      · rw [Array.getElem?_eq_none h] at hg; cases hg
    refine ⟨_, cap, by rw [hn], .inr ⟨g, rfl, hb, hlt, hlt, ?_⟩⟩
    have := upto_own hn h'
    rw [hn] at this; exact this
theorem infoI : ∃ i, Try.prog.info? 9 = some i ∧ i.zero = some (.string ByteArray.empty) ∧ i.size = 1 ∧ i.bytes = 16 := by
  have h : (Try.prog.info? 9).map (fun i => (i.zero, i.size, i.bytes)) = some (some (.string ByteArray.empty), 1, 16) := by kernel_rfl
  obtain ⟨i, hi, he⟩ := Option.map_eq_some_iff.1 h
  simp only [Prod.mk.injEq] at he
  exact ⟨i, hi, he.1, he.2.1, he.2.2⟩
theorem own_empty (w : World) (base : Nat) (hb : base ≤ w.heap.size) : (w.alloc (.cells #[] 9)).ownsRow base 9 1 (.slice (some ⟨w.heap.size, 0, none⟩) 0 0) ([] : List ByteArray).length (flat []) := World.ownsRow_made w #[] 0 hb (Nat.zero_le _) (by simp)
theorem own_nil (w : World) (base : Nat) : w.ownsRow base 9 1 (.slice none 0 0) ([] : List ByteArray).length (flat []) := World.ownsRow_nil w base _ _
theorem below_own {B : Nat} {w0 w w' : World} {base : Nat} {v : Value} {n : Nat} {xs : List Value} (h : Below B w0 w) (ho : w.ownsRow base 9 1 v n xs) (hg : w.grownBy w' v.ownBlock) (hb : B ≤ base) (hB : B ≤ w.heap.size) : Below B w0 w' :=
  h.grown hg hB (fun k hk => Nat.le_trans hb (ho.lt k hk).1)
/-- A mark's text. -/
def mtx (k : Nat) : ByteArray := ⟨#[109]⟩ ++ dig k
set_option maxRecDepth 100000 in
set_option maxHeartbeats 2000000 in
theorem markText (k : Nat) (h1 : 1 ≤ k) (h8 : k ≤ 99999999) (w : World) :
    Calls Try.prog 42 #[.int .i64 (k : Int)] w fun e w' => e = .returned (.string (mtx k)) ∧ Below w.heap.size w w' := by
  have hk0 : ¬ ((k : Int) ≤ 0) := by omega
  have hsz := dig_size8 k h8
  have HD : Hid (mtx k = ⟨#[109]⟩ ++ dig k) := hide rfl
  have H0 : Hid (dig k ++ (⟨#[]⟩ : ByteArray) = dig k) := hide (by apply ByteArray.ext; simp [ByteArray.data_append])
  generalize hdk : dig k = dk at *
  have HDK := hide hdk
  clear hdk
  go_enter Try.func42, Try.ntmps42
  go_wp2_with fail
  go_loopw [0, 3] (fun q o wr => ∃ (t : Nat) (u : ByteArray), q = .int .i64 (t : Int) ∧ o = .string u ∧ t ≤ k ∧ u.size ≤ 8 ∧ Hid (t = 0 → u = dk) ∧ Hid (1 ≤ t → dig t ++ u = dk) ∧ Hid (Below w.heap.size w wr)) (fun q _ _ => (intOf q).toNat)
  case atStart => exact ⟨k, ⟨#[]⟩, rfl, rfl, Nat.le_refl _, by decide, hide (fun h => by omega), hide (fun _ => by rw [unhide HDK]; have := unhide H0; exact this), hide (Below.refl _ _)⟩
  case round =>
    obtain ⟨t, u, rfl, rfl, htk, hu8, hz, hp, hbl⟩ := hrel
    by_cases h0 : 1 ≤ t
    · have hpos : (0 : Int) < (t : Int) := by omega
      have htm : (t : Int).tmod 10 = (t : Int) % 10 := Int.tmod_eq_emod_of_nonneg (by omega)
      have htd : (t : Int).tdiv 10 = (t : Int) / 10 := Int.tdiv_eq_ediv_of_nonneg (by omega)
      have hw1 : IntKind.i64.wrap ((t : Int) / 10) = (t : Int) / 10 := wrapS (by omega) (by omega)
      have hw2 : IntKind.i64.wrap (48 + (t : Int) % 10) = 48 + (t : Int) % 10 := wrapS (by omega) (by omega)
      have hw3 : IntKind.u8.wrap (48 + (t : Int) % 10) = 48 + (t : Int) % 10 := by rw [IntKind.wrap_u8]; omega
      have hc := conv1 (wr.alloc (Obj.cells #[Value.int IntKind.u8 (48 + (t : Int) % 10)] 5)) wr.heap.size (48 + (t : Int) % 10) (by simp [go_sem])
      have hnb : ∀ n : Int, ¬ (9223372036854775807 < (strOfNums [n]).size + u.size) := fun n => by rw [strOfNums_size]; simp; omega
      have hpp := unhide hp h0
      have HN : Hid ((t / 10 = 0 → strOfNums [48 + (t : Int) % 10] ++ u = dk) ∧ (1 ≤ t / 10 → dig (t / 10) ++ (strOfNums [48 + (t : Int) % 10] ++ u) = dk)) := hide (by
        constructor
        · intro hl
          have ht : t < 10 := by omega
          rw [← hpp, ← dig_one ht, show (48 + (t : Int) % 10) = 48 + (t : Int) by omega]
        · intro hl
          rw [← hpp, ← dig_more (k := t) (by omega)]
          apply ByteArray.ext
          simp [ByteArray.data_append, Array.append_assoc])
      have hsz2 : (strOfNums [48 + (t : Int) % 10] ++ u).size ≤ 8 := by
        have hs : (strOfNums [48 + (t : Int) % 10] ++ u).size ≤ dk.size := by
          by_cases hl : t / 10 = 0
          · rw [(unhide HN).1 hl]; exact Nat.le_refl _
          · rw [← (unhide HN).2 (by omega), ByteArray.size_append (a := dig (t / 10))]; omega
        omega
      have HB := hide ((unhide hbl).alloc (unhide hbl).size (.cells #[.int .u8 (48 + (t : Int) % 10)] 5))
      have hq10 : ((t / 10 : Nat) : Int) = (t : Int) / 10 := by omega
      clear hpp hp hz
      go_wp2_with fail
      generalize strOfNums [48 + (t : Int) % 10] ++ u = u' at *
      go_roundw
      case rel => exact ⟨t / 10, u', by first | rw [hq10] | (rw [hq10]; rfl) | simp, rfl, by omega, hsz2, hide (unhide HN).1, hide (unhide HN).2, HB⟩
      case measure => simp [intOf]; omega
    · obtain rfl : t = 0 := by omega
      have e : u = dk := unhide hz rfl
      subst e
      have hnb : ¬ (9223372036854775807 < (⟨#[109]⟩ : ByteArray).size + u.size) := by
        have : (⟨#[109]⟩ : ByteArray).size = 1 := rfl
        omega
      go_wp2_with fail
      go_ret
      exact ⟨by rw [unhide HD]; first | rfl | simp, unhide hbl⟩
/-- The marks from K on. -/
def marks (K : Int) (n : Nat) : List ByteArray := (List.range n).map fun t : Nat => mtx (K + 1 * (t : Int)).toNat
theorem marks_len (K : Int) (n : Nat) : (marks K n).length = n := by simp [marks]
theorem marks_at (K : Int) (n t : Nat) (h : t < n) : (marks K n).getD t ByteArray.empty = mtx (K + 1 * (t : Int)).toNat := by
  unfold marks
  rw [List.getD_eq_getElem?_getD, List.getElem?_map, List.getElem?_range h]; rfl
theorem grown_set {w w1 : World} {g o : Nat} {v : Value} (h : w.grownBy w1 (some g)) : w.grownBy (w1.setCell ⟨g, o, none⟩ v) (some g) :=
  ⟨h.os, h.tape, h.output, by have := h.size; simp [World.setCell]; exact this, fun k hk hne => (Below.heap_setCell _ _ _ _ (fun e => hne (by rw [e]))).trans (h.block k hk hne)⟩
end Ss
end Go.Proofs.Ytpmlpojefelbbaa
namespace Go.Proofs.Ytpmlpojefelbbaa
open Go.ChangeShapes Go.WideShapes Go.ChangeAt Go.RowKit
set_option linter.unusedVariables false
set_option linter.unusedSimpArgs false
set_option maxRecDepth 100000
attribute [local go_sem ↓] Go.wp_at_zero Go.wp_at_succ
namespace Fm
open W1
def mkF (K : Int) : R := ⟨K, K + 1, K + 1 + 1, Ss.mtx (K + 1 + 1 + 1).toNat⟩
def mksF (K : Int) (n : Nat) : List R := (List.range n).map fun t : Nat => mkF (K + 4 * (t : Int))
theorem mksF_len (K : Int) (n : Nat) : (mksF K n).length = n := by simp [mksF]
theorem mksF_at (K : Int) (n t : Nat) (h : t < n) : (mksF K n).getD t R.zero = mkF (K + 4 * (t : Int)) := by
  unfold mksF
  rw [List.getD_eq_getElem?_getD, List.getElem?_map, List.getElem?_range h]; rfl
theorem gset {w w1 : World} {g o : Nat} {v : Value} (h : w.grownBy w1 (some g)) : w.grownBy (w1.setCell ⟨g, o, none⟩ v) (some g) :=
  ⟨h.os, h.tape, h.output, by have := h.size; simp [World.setCell]; exact this, fun k hk hne => (Below.heap_setCell _ _ _ _ (fun e => hne (by rw [e]))).trans (h.block k hk hne)⟩
theorem gbel {w w1 w2 : World} {g : Nat} (h : w.grownBy w1 (some g)) (hb : Below w1.heap.size w1 w2) : w.grownBy w2 (some g) :=
  ⟨hb.os.trans h.os, hb.tape.trans h.tape, hb.output.trans h.output, Nat.le_trans h.size hb.size, fun k hk hne => (hb.block k (Nat.lt_of_lt_of_le hk h.size)).trans (h.block k hk hne)⟩
theorem Upto.far {w : World} {g n j o : Nat} {ms : List R} (h : Upto w g n j ms) (ho : j * 4 ≤ o) (v : Value) : Upto (w.setCell ⟨g, o, none⟩ v) g n j ms := by
  have e : ∀ q, q ≠ o → (w.setCell ⟨g, o, none⟩ v).cell? ⟨g, q, none⟩ = w.cell? ⟨g, q, none⟩ := fun q hq => World.cell?_setCell_other _ _ _ _ (by intro h; cases h; exact hq rfl)
  refine ⟨fun i hi => ?_, fun i hi => ⟨?_, by rw [World.frozen?_setCell]; exact (h.2 i hi).2⟩⟩
  · obtain ⟨h0, h1, h2, h3⟩ := h.1 i hi
    exact ⟨(e _ (by omega)).trans h0, (e _ (by omega)).trans h1, (e _ (by omega)).trans h2, (e _ (by omega)).trans h3⟩
  · obtain ⟨u, hu⟩ := Option.isSome_iff_exists.1 (h.2 i hi).1
    obtain ⟨u', hu'⟩ := cell?_setCell_some (p := ⟨g, o, none⟩) (x := v) hu
    rw [hu']; rfl
theorem Upto.close {w : World} {g n j : Nat} {ms : List R} (h : Upto w g n j ms) (ha : At w g (j * 4) (ms.getD j R.zero)) : Upto w g n (j + 1) ms := by
  refine ⟨fun i hi => ?_, h.2⟩
  by_cases e : i = j
  · subst e; exact ha
  · exact h.1 i (by omega)
/-- The first j frames and three numbers of the next one. -/
def Up3 (w : World) (g n j : Nat) (x y z : Int) (ms : List R) : Prop := Upto w g n j ms ∧ w.cell? ⟨g, j * 4, none⟩ = some (.int .i64 x) ∧ w.cell? ⟨g, j * 4 + 1, none⟩ = some (.int .i64 y) ∧ w.cell? ⟨g, j * 4 + 2, none⟩ = some (.int .i64 z)
theorem Up3.of {w : World} {g n j : Nat} {ms : List R} (h : Upto w g n j ms) (hj : j < n) (x y z : Int) : Up3 (((w.setCell ⟨g, j * 4, none⟩ (.int .i64 x)).setCell ⟨g, j * 4 + 1, none⟩ (.int .i64 y)).setCell ⟨g, j * 4 + 2, none⟩ (.int .i64 z)) g n j x y z ms := by
  obtain ⟨v0, h0⟩ := Option.isSome_iff_exists.1 (h.2 (j * 4) (by omega)).1
  obtain ⟨v1, h1⟩ := Option.isSome_iff_exists.1 (h.2 (j * 4 + 1) (by omega)).1
  obtain ⟨v2, h2⟩ := Option.isSome_iff_exists.1 (h.2 (j * 4 + 2) (by omega)).1
  have n : ∀ {w : World} {v : Value} {a b : Nat}, a ≠ b → (w.setCell ⟨g, a, none⟩ v).cell? ⟨g, b, none⟩ = w.cell? ⟨g, b, none⟩ := fun {w v a b} e => World.cell?_setCell_other _ _ _ _ (by intro h; cases h; exact e rfl)
  refine ⟨((h.far (by omega) _).far (by omega) _).far (by omega) _, ?_, ?_, ?_⟩
  · rw [n (by omega), n (by omega), World.cell?_setCell_same _ _ _ h0]
  · rw [n (by omega), World.cell?_setCell_same _ _ _ ((n (by omega)).trans h1)]
  · rw [World.cell?_setCell_same _ _ _ ((n (by omega)).trans ((n (by omega)).trans h2))]
theorem Up3.below {w w' : World} {g n j : Nat} {x y z : Int} {ms : List R} (h : Up3 w g n j x y z ms) (hb : Below w.heap.size w w') (hg : g < w.heap.size) : Up3 w' g n j x y z ms :=
  ⟨h.1.below hb hg, (hb.cell (p := ⟨g, j * 4, none⟩) hg).trans h.2.1, (hb.cell (p := ⟨g, j * 4 + 1, none⟩) hg).trans h.2.2.1, (hb.cell (p := ⟨g, j * 4 + 2, none⟩) hg).trans h.2.2.2⟩
theorem Up3.put {w : World} {g n j : Nat} {x y z : Int} {bs : ByteArray} {ms : List R} (h : Up3 w g n j x y z ms) (hj : j < n) (e : ms.getD j R.zero = ⟨x, y, z, bs⟩) : Upto (w.setCell ⟨g, j * 4 + 3, none⟩ (.string bs)) g n (j + 1) ms := by
  obtain ⟨v3, h3⟩ := Option.isSome_iff_exists.1 (h.1.2 (j * 4 + 3) (by omega)).1
  have n : ∀ {w : World} {v : Value} {a b : Nat}, a ≠ b → (w.setCell ⟨g, a, none⟩ v).cell? ⟨g, b, none⟩ = w.cell? ⟨g, b, none⟩ := fun {w v a b} e => World.cell?_setCell_other _ _ _ _ (by intro h; cases h; exact e rfl)
  refine (h.1.far (by omega) _).close ?_
  rw [e]
  exact ⟨(n (by omega)).trans h.2.1, (n (by omega)).trans h.2.2.1, (n (by omega)).trans h.2.2.2, World.cell?_setCell_same _ _ _ h3⟩
set_option maxHeartbeats 8000000 in
theorem mkFS (g n c : Nat) (K : Int) (ms : List R) (w : World) (hK : 0 ≤ K) (hK1 : K + 4 * n ≤ 99999990) (hn : n ≤ 1048576) (hg : g < w.heap.size) (hU : Upto w g n n ms) :
    Calls Try.prog 25 #[.slice (some ⟨g, 0, none⟩) n c, .int .i64 K] w fun e w' => e = .returned (.int .i64 (K + 4 * (n : Int))) ∧ w.grownBy w' (some g) ∧ Upto w' g n n (mksF K n) := by
  have hU0 : Hid (Upto w g n 0 (mksF K n)) := hide ⟨fun i hi => by omega, hU.2⟩
  clear hU
  go_enter Try.func25, Try.ntmps25
  go_wp2
  go_loopw [1, 5] (fun q i wr => ∃ j : Nat, j ≤ n ∧ i = .int .i64 j ∧ q = .int .i64 (K + 4 * (j : Int)) ∧ Hid (w.grownBy wr (some g)) ∧ Hid (Upto wr g n j (mksF K n))) (fun _ i _ => n - (intOf i).toNat)
  case atStart => exact ⟨0, by omega, rfl, by simp, hide ⟨rfl, rfl, rfl, Nat.le_refl _, fun _ _ _ => rfl⟩, hU0⟩
  case round =>
    obtain ⟨j, hj, rfl, rfl, hgr, hu⟩ := hrel
    by_cases hlt : (j : Int) < (n : Int)
    · have k0 : (0 : Int) ≤ (j : Int) := by omega
      have hma := mksF_at K n j (by omega)
      obtain ⟨q, hq⟩ : ∃ q, K + 4 * (j : Int) = q := ⟨_, rfl⟩
      rw [hq] at hma ⊢
      obtain ⟨t, ht⟩ : ∃ t : Nat, q + 1 + 1 + 1 = (t : Int) := ⟨(q + 1 + 1 + 1).toNat, by omega⟩
      unfold mkF at hma
      rw [ht, Int.toNat_natCast] at hma
      have HMA := hide hma
      have hgs : g < wr.heap.size := Nat.lt_of_lt_of_le hg (unhide hgr).size
      have HQ := hide hq
      have HT := hide ht
      have hq0 : 0 ≤ q := by omega
      have hq1 : q ≤ 99999990 := by omega
      have ht1 : 1 ≤ t := by omega
      have ht8 : t ≤ 99999999 := by omega
      obtain ⟨v0, x0⟩ := Option.isSome_iff_exists.1 ((unhide hu).2 (j * 4) (by omega)).1
      obtain ⟨v1, x1⟩ := Option.isSome_iff_exists.1 ((unhide hu).2 (j * 4 + 1) (by omega)).1
      obtain ⟨v2, x2⟩ := Option.isSome_iff_exists.1 ((unhide hu).2 (j * 4 + 2) (by omega)).1
      have y0 := ((unhide hu).2 (j * 4) (by omega)).2
      have y1 := ((unhide hu).2 (j * 4 + 1) (by omega)).2
      have y2 := ((unhide hu).2 (j * 4 + 2) (by omega)).2
      have HU3 := hide (Up3.of (unhide hu) (show j < n by omega) q (q + 1) (q + 1 + 1))
      have HG3 := hide (gset (o := j * 4 + 2) (v := .int .i64 (q + 1 + 1)) (gset (o := j * 4 + 1) (v := .int .i64 (q + 1)) (gset (o := j * 4) (v := .int .i64 q) (unhide hgr))))
      have HS3 := hide (show g < (((wr.setCell ⟨g, j * 4, none⟩ (.int .i64 q)).setCell ⟨g, j * 4 + 1, none⟩ (.int .i64 (q + 1))).setCell ⟨g, j * 4 + 2, none⟩ (.int .i64 (q + 1 + 1))).heap.size by simpa [World.setCell] using hgs)
      clear hq hma hgs hu hgr
      go_wp2_with fail
      clear x0 x1 x2 y0 y1 y2
      try rw [unhide HT]
      generalize ((wr.setCell ⟨g, j * 4, none⟩ (.int .i64 q)).setCell ⟨g, j * 4 + 1, none⟩ (.int .i64 (q + 1))).setCell ⟨g, j * 4 + 2, none⟩ (.int .i64 (q + 1 + 1)) = w3 at *
      refine (Ss.markText t ht1 ht8 _).mono ?_
      rintro e w4 ⟨rfl, b4⟩
      have HU4 := hide ((unhide HU3).below b4 (unhide HS3))
      have HG4 := hide (gbel (unhide HG3) b4)
      clear b4 HU3 HG3
      obtain ⟨v3, x3⟩ := Option.isSome_iff_exists.1 ((unhide HU4).1.2 (j * 4 + 3) (by omega)).1
      have y3 := ((unhide HU4).1.2 (j * 4 + 3) (by omega)).2
      have HST := hide ((unhide HU4).put (by omega) (unhide HMA))
      have HGN := hide (gset (o := j * 4 + 3) (v := .string (Ss.mtx t)) (unhide HG4))
      clear HU4 HG4 HMA
      generalize Ss.mtx t = mt at *
      clear ht
      go_wp2_with fail
      exact ⟨⟨j + 1, by omega, by go_num, by have h1 := unhide HT; have h2 := unhide HQ; first | (congr 1; omega) | (simp; omega), HGN, HST⟩, by simp [intOf]; omega⟩
    · obtain rfl : j = n := by omega
      go_wp2
      go_ret
      exact ⟨rfl, unhide hgr, unhide hu⟩
theorem mkFS0 (a : Option Addr) (c : Nat) (K : Int) (w : World) :
    Calls Try.prog 25 #[.slice a 0 c, .int .i64 K] w fun e w' => e = .returned (.int .i64 K) ∧ w' = w := by
  go_enter Try.func25, Try.ntmps25
  go_wp2
  go_loop [1, 5] (fun q i => q = .int .i64 K ∧ i = .int .i64 0) (fun _ i => 0)
  case atStart => exact ⟨rfl, rfl⟩
  case round =>
    obtain ⟨rfl, rfl⟩ := hrel
    go_wp2
    go_ret
    exact ⟨rfl, rfl⟩
/-- Marks on a list that may be written, whether it has any or not. -/
theorem mkFF (a : Option Addr) (c lo hi : Nat) (K : Int) (ms : List R) (w : World) (hK : 0 ≤ K) (hK1 : K + 4 * ms.length ≤ 99999990) (hn : ms.length ≤ 1048576) (h : Lst w a ms lo hi) :
    Calls Try.prog 25 #[.slice a ms.length c, .int .i64 K] w fun e w' => e = .returned (.int .i64 (K + 4 * (ms.length : Int))) ∧ w.heap.size ≤ w'.heap.size ∧ Below (min lo w.heap.size) w w' ∧ Lst w' a (mksF K ms.length) lo hi ∧ ∀ k, k < w.heap.size → (k < lo ∨ hi ≤ k) → w'.heap[k]? = w.heap[k]? := by
  have hnil : ∀ w', w' = w → w.heap.size ≤ w'.heap.size ∧ Below (min lo w.heap.size) w w' ∧ ∀ k, k < w.heap.size → (k < lo ∨ hi ≤ k) → w'.heap[k]? = w.heap[k]? := by
    rintro w' rfl
    exact ⟨Nat.le_refl _, Below.refl _ _, fun _ _ _ => rfl⟩
  by_cases h0 : ms.length = 0
  · obtain rfl : ms = [] := List.eq_nil_of_length_eq_zero h0
    refine (mkFS0 a c K w).mono ?_
    rintro e w' ⟨rfl, hw⟩
    obtain ⟨q1, q2, q3⟩ := hnil w' hw
    exact ⟨by simp, q1, q2, .inl rfl, q3⟩
  rcases h with rfl | ⟨g, rfl, h1, h2, h3, hu⟩
  · simp at h0
  refine (mkFS g ms.length c K ms w hK hK1 hn h3 hu).mono ?_
  rintro e w' ⟨rfl, gr, hu'⟩
  exact ⟨rfl, gr.size, ⟨gr.os, gr.tape, gr.output, gr.size, fun k hk => gr.block k (by omega) (fun e => by cases e; omega)⟩, .inr ⟨g, rfl, h1, h2, Nat.lt_of_lt_of_le h3 gr.size, by rw [mksF_len]; exact hu'⟩, fun k hk hne => gr.block k hk (fun e => by cases e; omega)⟩
theorem hdFS0 (a : Option Addr) (c : Nat) (K : Int) (w : World) :
    Calls Try.prog 28 #[.slice a 0 c, .int .i64 K] w fun e w' => e = .returned (.int .i64 K) ∧ w' = w := by
  go_enter Try.func28, Try.ntmps28
  go_wp2
  go_loop [1, 5] (fun q i => q = .int .i64 K ∧ i = .int .i64 0) (fun _ i => 0)
  case atStart => exact ⟨rfl, rfl⟩
  case round =>
    obtain ⟨rfl, rfl⟩ := hrel
    go_wp2
    go_ret
    exact ⟨rfl, rfl⟩
set_option maxHeartbeats 8000000 in
theorem hdFS (g n c : Nat) (K : Int) (w : World) (hK : 0 ≤ K) (hK1 : K + 4 * n ≤ 99999990) (hn : n ≤ 1048576) (hg : g < w.heap.size) (hU : Upto w g n n (mksF K n)) :
    Calls Try.prog 28 #[.slice (some ⟨g, 0, none⟩) n c, .int .i64 K] w fun e w' => e = .returned (.int .i64 (K + 4 * (n : Int))) ∧ Below w.heap.size w w' := by
  have HU := hide hU
  clear hU
  go_enter Try.func28, Try.ntmps28
  go_wp2
  go_loopw [1, 5] (fun q i wr => ∃ j : Nat, j ≤ n ∧ i = .int .i64 j ∧ q = .int .i64 (K + 4 * (j : Int)) ∧ Hid (Below w.heap.size w wr)) (fun _ i _ => n - (intOf i).toNat)
  case atStart => exact ⟨0, by omega, rfl, by simp, hide (Below.refl _ _)⟩
  case round =>
    obtain ⟨j, hj, rfl, rfl, hbl⟩ := hrel
    by_cases hlt : (j : Int) < (n : Int)
    · have k0 : (0 : Int) ≤ (j : Int) := by omega
      have hA := ((unhide HU).below (unhide hbl) hg).1 j (by omega)
      rw [mksF_at K n j (by omega)] at hA
      obtain ⟨q, hq⟩ : ∃ q, K + 4 * (j : Int) = q := ⟨_, rfl⟩
      rw [hq] at hA ⊢
      obtain ⟨t, ht⟩ : ∃ t : Nat, q + 1 + 1 + 1 = (t : Int) := ⟨(q + 1 + 1 + 1).toNat, by omega⟩
      unfold mkF at hA
      rw [ht, Int.toNat_natCast] at hA
      obtain ⟨c0, c1, c2, c3⟩ := hA
      dsimp only at c0 c1 c2 c3
      have HQ := hide hq
      have HT := hide ht
      have hq0 : 0 ≤ q := by omega
      have hq1 : q ≤ 99999990 := by omega
      have ht1 : 1 ≤ t := by omega
      have ht8 : t ≤ 99999999 := by omega
      obtain ⟨mt, hmt⟩ : ∃ mt, Ss.mtx t = mt := ⟨_, rfl⟩
      rw [hmt] at c3
      have HMT := hide hmt
      have HC3 := hide c3
      clear hmt c3 hq ht
      go_wp2_with fail
      clear c0 c1 c2
      refine wp_region_noPanic ?_
      refine wp_region_held_drew (S := fun w' => w'.cell? ⟨g, j * 4 + 3, none⟩ = some (.string mt)) (by kernel_rfl) (show wr.drew.cell? ⟨g, j * 4 + 3, none⟩ = some (.string mt) from unhide HC3) (fun hHeld => ?_)
      refine Rg.t 0 39 ?_
      refine Rg.t 1 40 ?_
      refine Rg.t 2 41 ?_
      refine Rg.t 3 42 ?_
      refine Rg.t 4 43 ?_
      refine Rg.t 5 44 ?_
      (refine Rg.o 6 (fun K hK => ?_); go_simp)
      rw [unhide HT]
      refine (Ss.markText t ht1 ht8 _).mono ?_
      rintro e w1 ⟨rfl, b1⟩
      rw [unhide HMT]
      have hc1 : w1.cell? ⟨g, j * 4 + 3, none⟩ = some (.string mt) := (b1.cell (p := ⟨g, j * 4 + 3, none⟩) (World.block_lt_of_cell? _ _ hHeld)).trans hHeld
      have HB1 := hide ((unhide hbl).drew.trans (b1.mono (by show w.heap.size ≤ wr.heap.size; exact (unhide hbl).size)))
      clear b1 hHeld
      refine hK.out _ _ hc1 (fun hHeld => ?_)
      clear hK K
      (try simp only [Act.put, List.setIfInBounds_toArray, List.set_cons_zero, List.set_cons_succ])
      refine Rg.t 7 46 ?_
      refine wpAnyH_done (by kernel_rfl) (NoPanic.normal ?_) _
      clear hHeld hc1
      go_wp2_with fail
      go_roundw
      case rel => exact ⟨j + 1, by omega, by go_num, by have h1 := unhide HT; have h2 := unhide HQ; first | (congr 1; omega) | (simp; omega), HB1⟩
      case measure => simp [intOf]; omega
    · obtain rfl : j = n := by omega
      go_wp2
      go_ret
      exact ⟨by first | trivial | rfl | simp, unhide hbl⟩
theorem hdFF (a : Option Addr) (c n lo hi : Nat) (K : Int) (w : World) (hK : 0 ≤ K) (hK1 : K + 4 * n ≤ 99999990) (hn : n ≤ 1048576) (h : Lst w a (mksF K n) lo hi) :
    Calls Try.prog 28 #[.slice a n c, .int .i64 K] w fun e w' => e = .returned (.int .i64 (K + 4 * (n : Int))) ∧ Below w.heap.size w w' := by
  by_cases h0 : n = 0
  · subst h0
    refine (hdFS0 a c K w).mono ?_
    rintro e w' ⟨rfl, rfl⟩
    exact ⟨by simp, Below.refl _ _⟩
  rcases h with h | ⟨g, rfl, _, _, h3, hu⟩
  · have := mksF_len K n; rw [h] at this; simp at this; omega
  · rw [mksF_len] at hu
    exact hdFS g n c K w hK hK1 hn h3 hu
end Fm
end Go.Proofs.Ytpmlpojefelbbaa
namespace Go.Proofs.Ytpmlpojefelbbaa
open Go.ChangeShapes Go.WideShapes Go.ChangeAt Go.RowKit
set_option linter.unusedVariables false
set_option linter.unusedSimpArgs false
set_option maxRecDepth 100000
attribute [local go_sem ↓] Go.wp_at_zero Go.wp_at_succ
namespace Nt
open W1 Rt
/-- Routers that may be written, whether there are any or not. -/
def NL (W : World) (a : Option Addr) (lo hi n : Nat) (f : Nat → Nat) (M : Nat → Rm) (Q : Nat → Pl) : Prop := n = 0 ∨ ∃ g, a = some ⟨g, 0, none⟩ ∧ lo ≤ g ∧ g < hi ∧ g < W.heap.size ∧ (∀ i, i < n → g < f i ∨ f (i + 1) ≤ g) ∧ (∀ i, i < n → f i ≤ f (i + 1)) ∧ (∀ i, i < n → lo ≤ f i ∧ f (i + 1) ≤ hi ∧ f (i + 1) ≤ W.heap.size) ∧ MkS W g n f M Q
theorem MkS.but {w w' : World} {g n lo hi L H : Nat} {f : Nat → Nat} {M : Nat → Rm} {Q : Nat → Pl} (h : MkS w g n f M Q) (hs : w.heap.size ≤ w'.heap.size) (hgs : g < w.heap.size) (hg : lo ≤ g ∧ g < hi) (hfl : ∀ i, i < n → lo ≤ f i ∧ f (i + 1) ≤ hi) (hb : ∀ k, k < w.heap.size → (k < L ∨ H ≤ k) → w'.heap[k]? = w.heap[k]?) (hd : hi ≤ L ∨ H ≤ lo) : MkS w' g n f M Q := by
  have e : w'.heap[g]? = w.heap[g]? := hb g hgs (by omega)
  have cb : ∀ q, w'.cell? ⟨g, q, none⟩ = w.cell? ⟨g, q, none⟩ := fun q => World.cell?_of_block (a := ⟨g, q, none⟩) e
  have fb : ∀ q, w'.frozen? ⟨g, q, none⟩ = w.frozen? ⟨g, q, none⟩ := fun q => World.frozen?_of_block (a := ⟨g, q, none⟩) e
  exact ⟨fun i hi k u hu => (cb _).trans (h.1 i hi k u hu), fun k hk => by rw [cb, fb]; exact h.2.1 k hk, fun i hi => (h.2.2 i hi).but hs hb (by have := hfl i hi; omega)⟩
theorem NL.but {w w' : World} {a : Option Addr} {lo hi n L H : Nat} {f : Nat → Nat} {M : Nat → Rm} {Q : Nat → Pl} (h : NL w a lo hi n f M Q) (hs : w.heap.size ≤ w'.heap.size) (hb : ∀ k, k < w.heap.size → (k < L ∨ H ≤ k) → w'.heap[k]? = w.heap[k]?) (hd : hi ≤ L ∨ H ≤ lo) : NL w' a lo hi n f M Q := by
  rcases h with h | ⟨g, rfl, h1, h2, h3, h4, h5, h6, h7⟩
  · exact .inl h
  · exact .inr ⟨g, rfl, h1, h2, Nat.lt_of_lt_of_le h3 hs, h4, h5, fun i hi => ⟨(h6 i hi).1, (h6 i hi).2.1, Nat.le_trans (h6 i hi).2.2 hs⟩, h7.but hs h3 ⟨h1, h2⟩ (fun i hi => ⟨(h6 i hi).1, (h6 i hi).2.1⟩) hb hd⟩
theorem NL.below {w w' : World} {a : Option Addr} {lo hi n : Nat} {f : Nat → Nat} {M : Nat → Rm} {Q : Nat → Pl} (h : NL w a lo hi n f M Q) (hb : Below w.heap.size w w') : NL w' a lo hi n f M Q := by
  rcases h with h | ⟨g, rfl, h1, h2, h3, h4, h5, h6, h7⟩
  · exact .inl h
  · refine .inr ⟨g, rfl, h1, h2, Nat.lt_of_lt_of_le h3 hb.size, h4, h5, fun i hi => ⟨(h6 i hi).1, (h6 i hi).2.1, Nat.le_trans (h6 i hi).2.2 hb.size⟩, ?_⟩
    exact ⟨fun i hi => rng_under (h7.1 i hi) hb h3, there_under h7.2.1 hb h3, fun i hi => (h7.2.2 i hi).below hb⟩
theorem NL.nr {w : World} {a : Option Addr} {lo hi n : Nat} {f : Nat → Nat} {ms : List Rm} {qs : List Pl} (hn : ms.length = n) (h : NL w a lo hi n f (fun i => ms.getD i Rm.zero) (fun i => qs.getD i Pl.zero)) : NR w a ms qs := by
  rcases h with h | ⟨g, rfl, h1, h2, h3, h4, h5, h6, h7⟩
  · exact .inl (List.eq_nil_of_length_eq_zero (by omega))
  · exact .inr ⟨g, 0, rfl, fun i hi => ⟨by rw [Nat.zero_add]; exact h7.1 i (by omega), (h7.2.2 i (by omega)).rd⟩⟩
/-- A net in memory of its own: its rows, its costs, its frames, each in an interval. -/
def MT (W : World) (lo hi : Nat) (a b d : Option Addr) (ms : List Rm) (qs : List Pl) (cs : List Int) (fs : List Fm.R) : Prop :=
  ∃ f p1 q1 p2 q2 p3 q3, (lo ≤ p1 ∧ q1 ≤ hi) ∧ (lo ≤ p2 ∧ q2 ≤ hi) ∧ (lo ≤ p3 ∧ q3 ≤ hi) ∧ (q1 ≤ p2 ∨ q2 ≤ p1) ∧ (q1 ≤ p3 ∨ q3 ≤ p1) ∧ (q2 ≤ p3 ∨ q3 ≤ p2) ∧ NL W a p1 q1 ms.length f (fun i => ms.getD i Rm.zero) (fun i => qs.getD i Pl.zero) ∧ In.Lst W b cs p2 q2 ∧ Fm.Lst W d fs p3 q3
theorem MT.below {W W' : World} {lo hi : Nat} {a b d : Option Addr} {ms : List Rm} {qs : List Pl} {cs : List Int} {fs : List Fm.R} (h : MT W lo hi a b d ms qs cs fs) (hb : Below W.heap.size W W') : MT W' lo hi a b d ms qs cs fs := by
  obtain ⟨f, p1, q1, p2, q2, p3, q3, e1, e2, e3, e4, e5, e6, h1, h2, h3⟩ := h
  exact ⟨f, p1, q1, p2, q2, p3, q3, e1, e2, e3, e4, e5, e6, h1.below hb, h2.below hb, h3.below hb⟩
theorem MT.but {W W' : World} {lo hi L H : Nat} {a b d : Option Addr} {ms : List Rm} {qs : List Pl} {cs : List Int} {fs : List Fm.R} (h : MT W lo hi a b d ms qs cs fs) (hs : W.heap.size ≤ W'.heap.size) (hb : ∀ k, k < W.heap.size → (k < L ∨ H ≤ k) → W'.heap[k]? = W.heap[k]?) (hd : hi ≤ L ∨ H ≤ lo) : MT W' lo hi a b d ms qs cs fs := by
  obtain ⟨f, p1, q1, p2, q2, p3, q3, e1, e2, e3, e4, e5, e6, h1, h2, h3⟩ := h
  exact ⟨f, p1, q1, p2, q2, p3, q3, e1, e2, e3, e4, e5, e6, h1.but hs hb (by omega), h2.but (p := fun k => k < L ∨ H ≤ k) hs (fun k hk h => hb k hk h) (fun k h1 h2 => by omega), h3.but (p := fun k => k < L ∨ H ≤ k) hs (fun k hk h => hb k hk h) (fun k h1 h2 => by omega)⟩
theorem MT.nr {W : World} {lo hi : Nat} {a b d : Option Addr} {ms : List Rm} {qs : List Pl} {cs : List Int} {fs : List Fm.R} (h : MT W lo hi a b d ms qs cs fs) : NR W a ms qs := by
  obtain ⟨f, p1, q1, p2, q2, p3, q3, e1, e2, e3, e4, e5, e6, h1, h2, h3⟩ := h; exact h1.nr rfl
theorem MT.ri {W : World} {lo hi : Nat} {a b d : Option Addr} {ms : List Rm} {qs : List Pl} {cs : List Int} {fs : List Fm.R} (h : MT W lo hi a b d ms qs cs fs) : In.RM W b cs := by
  obtain ⟨f, p1, q1, p2, q2, p3, q3, e1, e2, e3, e4, e5, e6, h1, h2, h3⟩ := h; exact h2.rm
theorem MT.rf {W : World} {lo hi : Nat} {a b d : Option Addr} {ms : List Rm} {qs : List Pl} {cs : List Int} {fs : List Fm.R} (h : MT W lo hi a b d ms qs cs fs) : Fm.RM W d fs := by
  obtain ⟨f, p1, q1, p2, q2, p3, q3, e1, e2, e3, e4, e5, e6, h1, h2, h3⟩ := h; exact h3.rm
theorem OwT.mt {W : World} {lo hi g1 g2 g3 : Nat} {ms : List Rm} {qs : List Pl} {cs : List Int} {fs : List Fm.R} (h : OwT W lo hi g1 g2 g3 ms qs cs fs) : MT W lo hi (some ⟨g1, 0, none⟩) (some ⟨g2, 0, none⟩) (some ⟨g3, 0, none⟩) ms qs cs fs := by
  obtain ⟨p, e1, e2, e3, e4, e5, e6, _, h1, ⟨f, f0, f1, f2, f3⟩, h3, h4⟩ := h
  have up : ∀ i k, i + k ≤ ms.length → f i ≤ f (i + k) := fun i k => by
    induction k with
    | zero => intro _; exact Nat.le_refl _
    | succ k ih => intro hk; exact Nat.le_trans (ih (by omega)) (f1 (i + k) (by omega))
  have fb : ∀ i, i < ms.length → g1 + 1 ≤ f i ∧ f (i + 1) ≤ p := fun i hi => by
    have h0 := up 0 i (by omega)
    have h9 := up (i + 1) (ms.length - (i + 1)) (by omega)
    rw [Nat.zero_add] at h0
    rw [show i + 1 + (ms.length - (i + 1)) = ms.length by omega] at h9
    omega
  refine ⟨f, g1, p, g2, g2 + 1, g3, g3 + 1, by omega, by omega, by omega, by omega, by omega, by omega, ?_, ?_, ?_⟩
  · exact .inr ⟨g1, rfl, Nat.le_refl _, e2, by omega, fun i hi => .inl (by have := fb i hi; omega), f1, fun i hi => by have := fb i hi; omega, h1.1, h1.2, f3⟩
  · exact .inr ⟨g2, rfl, Nat.le_refl _, by omega, by omega, h3⟩
  · exact .inr ⟨g3, rfl, Nat.le_refl _, by omega, by omega, h4⟩
/-- A net's marks from K on. -/
def MM (W : World) (a b d : Option Addr) (K : Int) (ms : List Rm) (qs : List Pl) (cs : List Int) (fs : List Fm.R) (lo hi : Nat) : Prop :=
  ∃ f p1 q1 p2 q2 p3 q3, ((lo ≤ p1 ∧ q1 ≤ hi) ∧ (lo ≤ p2 ∧ q2 ≤ hi) ∧ (lo ≤ p3 ∧ q3 ≤ hi)) ∧ NL W a p1 q1 ms.length f (fun i => mkM (ms.getD i Rm.zero) (K + sumK ms i)) (fun i => qs.getD i Pl.zero) ∧ In.Lst W b (In.marks (K + sumK ms ms.length) cs.length) p2 q2 ∧ Fm.Lst W d (Fm.mksF (K + sumK ms ms.length + cs.length) fs.length) p3 q3
theorem MM.below {W W' : World} {a b d : Option Addr} {K : Int} {ms : List Rm} {qs : List Pl} {cs : List Int} {fs : List Fm.R} {lo hi : Nat} (h : MM W a b d K ms qs cs fs lo hi) (hb : Below W.heap.size W W') : MM W' a b d K ms qs cs fs lo hi := by
  obtain ⟨f, p1, q1, p2, q2, p3, q3, e, h1, h2, h3⟩ := h
  exact ⟨f, p1, q1, p2, q2, p3, q3, e, h1.below hb, h2.below hb, h3.below hb⟩
def totK (ms : List Rm) (cs : List Int) (fs : List Fm.R) : Int := sumK ms ms.length + cs.length + 4 * fs.length
theorem totK_pos (ms : List Rm) (cs : List Int) (fs : List Fm.R) : 0 ≤ totK ms cs fs := by have := sumK_pos ms ms.length; unfold totK; omega
theorem markNS0 (a : Option Addr) (c : Nat) (K : Int) (w : World) :
    Calls Try.prog 24 #[.slice a 0 c, .int .i64 K] w fun e w' => e = .returned (.int .i64 K) ∧ w' = w := by
  go_enter Try.func24, Try.ntmps24
  go_wp2
  go_loop [1, 5] (fun q i => q = .int .i64 K ∧ i = .int .i64 0) (fun _ i => 0)
  case atStart => exact ⟨rfl, rfl⟩
  case round =>
    obtain ⟨rfl, rfl⟩ := hrel
    go_wp2
    go_ret
    exact ⟨rfl, rfl⟩
theorem markNF (a : Option Addr) (c lo hi n : Nat) (f : Nat → Nat) (K : Int) (ms : List Rm) (Q : Nat → Pl) (w : World) (hn : ms.length = n) (hn8 : n ≤ 1048576) (hK : 0 ≤ K) (hK1 : K + sumK ms n ≤ 900000000) (hs : ∀ i, i < ms.length → Sm (ms.getD i Rm.zero)) (h : NL w a lo hi n f (fun i => ms.getD i Rm.zero) Q) :
    Calls Try.prog 24 #[.slice a n c, .int .i64 K] w fun e w' => e = .returned (.int .i64 (K + sumK ms n)) ∧ w.heap.size ≤ w'.heap.size ∧ Below (min lo w.heap.size) w w' ∧ NL w' a lo hi n f (fun i => mkM (ms.getD i Rm.zero) (K + sumK ms i)) Q ∧ ∀ k, k < w.heap.size → (k < lo ∨ hi ≤ k) → w'.heap[k]? = w.heap[k]? := by
  by_cases h0 : n = 0
  · subst h0
    refine (markNS0 a c K w).mono ?_
    rintro e w' ⟨rfl, rfl⟩
    exact ⟨by simp [sumK], Nat.le_refl _, Below.refl _ _, .inl rfl, fun _ _ _ => rfl⟩
  rcases h with h | ⟨g, rfl, h1, h2, h3, h4, h5, h6, h7⟩
  · exact absurd h h0
  refine (markNS g n c lo hi f K ms Q w hn hn8 hK hK1 hs h3 h1 h2 h4 h5 h6 h7).mono ?_
  rintro e w' ⟨rfl, hz, hb, hm, hk⟩
  exact ⟨rfl, hz, hb, .inr ⟨g, rfl, h1, h2, Nat.lt_of_lt_of_le h3 hz, h4, h5, fun i hi => ⟨(h6 i hi).1, (h6 i hi).2.1, Nat.le_trans (h6 i hi).2.2 hz⟩, hm⟩, hk⟩
theorem heldNS0 (a : Option Addr) (c : Nat) (K : Int) (w : World) :
    Calls Try.prog 26 #[.slice a 0 c, .int .i64 K] w fun e w' => e = .returned (.int .i64 K) ∧ w' = w := by
  go_enter Try.func26, Try.ntmps26
  go_wp2
  go_loop [1, 5] (fun q i => q = .int .i64 K ∧ i = .int .i64 0) (fun _ i => 0)
  case atStart => exact ⟨rfl, rfl⟩
  case round =>
    obtain ⟨rfl, rfl⟩ := hrel
    go_wp2
    go_ret
    exact ⟨rfl, rfl⟩
theorem heldNF (a : Option Addr) (c lo hi n : Nat) (f : Nat → Nat) (K : Int) (ms : List Rm) (Q : Nat → Pl) (w : World) (hn : ms.length = n) (hn8 : n ≤ 1048576) (hK : 0 ≤ K) (hK1 : K + sumK ms n ≤ 900000000) (hs : ∀ i, i < ms.length → Sm (ms.getD i Rm.zero)) (h : NL w a lo hi n f (fun i => mkM (ms.getD i Rm.zero) (K + sumK ms i)) Q) :
    Calls Try.prog 26 #[.slice a n c, .int .i64 K] w fun e w' => e = .returned (.int .i64 (K + sumK ms n)) ∧ w' = w := by
  by_cases h0 : n = 0
  · subst h0
    refine (heldNS0 a c K w).mono ?_
    rintro e w' ⟨rfl, rfl⟩
    exact ⟨by simp [sumK], rfl⟩
  rcases h with h | ⟨g, rfl, h1, h2, h3, h4, h5, h6, h7⟩
  · exact absurd h h0
  exact heldNS g n c f K ms Q w hn hn8 hK hK1 hs h7
end Nt
end Go.Proofs.Ytpmlpojefelbbaa
namespace Go.Proofs.Ytpmlpojefelbbaa
open Go.ChangeShapes Go.WideShapes Go.ChangeAt Go.RowKit
set_option linter.unusedVariables false
set_option linter.unusedSimpArgs false
attribute [local go_sem ↓] Go.wp_at_zero Go.wp_at_succ
namespace St
open W1 Tu
end St
end Go.Proofs.Ytpmlpojefelbbaa
namespace Go.Proofs.Ytpmlpojefelbbaa
open Go.ChangeShapes Go.WideShapes Go.ChangeAt Go.RowKit
set_option linter.unusedVariables false
set_option linter.unusedSimpArgs false
attribute [local go_sem ↓] Go.wp_at_zero Go.wp_at_succ
namespace St
open W1 Tu
/-- What a slice of one's own looks like: its capacity, and where it lies. -/
def Shp (v : Value) : Prop := ∃ a n c, v = .slice a n c ∧ n ≤ c ∧ c ≤ maxLen ∧ (a = none ∨ ∃ g, a = some ⟨g, 0, none⟩)
theorem Shp.at {a : Option Addr} {n c : Nat} (h : Shp (.slice a n c)) : n ≤ c ∧ c ≤ maxLen ∧ (a = none ∨ ∃ g, a = some ⟨g, 0, none⟩) := by
  obtain ⟨a', n', c', e, h⟩ := h
  cases e
  exact h
end St
end Go.Proofs.Ytpmlpojefelbbaa
namespace Go.Proofs.Ytpmlpojefelbbaa
open Go.ChangeShapes Go.WideShapes Go.ChangeAt Go.RowKit
set_option linter.unusedVariables false
set_option linter.unusedSimpArgs false
set_option maxRecDepth 100000
attribute [local go_sem ↓] Go.wp_at_zero Go.wp_at_succ
namespace Tp
open W1 So
end Tp
end Go.Proofs.Ytpmlpojefelbbaa
namespace Go.Proofs.Ytpmlpojefelbbaa
namespace Rl
variable {P : Program} {ops : Array Oper} {Q : Exit → Act → World → Prop} {md : Region.Mode} {S T : World → Prop} {k : Nat}
/-- Whatever order is picked from here on, S holds behind every operation that is carried out, and T as long as k has not come up. -/
def wpAnyL (P : Program) (md : Region.Mode) (ops : Array Oper) (Q : Exit → Act → World → Prop) (S T : World → Prop) (k : Nat) : Nat → Array Bool → Act → World → Prop
  | 0, listed, a, w => Region.ready md ops listed = [] ∧ Q .normal a w
  | fuel + 1, listed, a, w =>
    (Region.ready md ops listed = [] → Q .normal a w) ∧
    ∀ i ∈ Region.ready md ops listed, wpOp P ops Q i (fun a' w' => (S w' ∧ ((listed.setIfInBounds i true).getD k true = false → T w')) ∧ wpAnyL P md ops Q S T k fuel (listed.setIfInBounds i true) a' w') a w
theorem wpAny_of : ∀ (fuel : Nat) (listed : Array Bool) (a : Act) (w : World), wpAnyL P md ops Q S T k fuel listed a w → wpAny P md ops Q fuel listed a w
  | 0, _, _, _, h => h
  | fuel + 1, _, _, _, h => ⟨h.1, fun i hi => wpOp_mono (fun a' w' h' => wpAny_of fuel _ a' w' h'.2) (h.2 i hi)⟩
theorem first {i : Nat} {oi ok : Oper} {v : Value} (hi : ops[i]? = some oi) (hk : ops[k]? = some ok) (hki : k ≠ i) (hsel : ∀ (j : Nat) (o : Oper) cs b, ops[j]? = some o → o.op ≠ .select cs b)
    (hwait : ∃ e ∈ ok.after, Region.binds md e = true ∧ e.on = i)
    (hQ : ∀ c a w, Q (.panic c) (a.put oi.dst v) w → Q (.panic c) a w) :
    ∀ (fuel : Nat) (listed : Array Bool) (a : Act) (w : World),
      (∀ j oj, ops[j]? = some oj → j ≠ i → listed.getD j true = false → (∀ e ∈ oj.after, Region.binds md e = true → e.on ≠ i) → oi.apart ops oj = true) →
      i ∈ Region.ready md ops listed → YieldsIf P ops (fun w => S w ∧ T w) oi v a → listed.getD k true = false → S w ∧ T w →
      wpAnyL P md ops Q S T k fuel (listed.setIfInBounds i true) (a.put oi.dst v) w → wpAnyL P md ops Q S T k (fuel + 1) listed a w := by
  intro fuel
  induction fuel with
  | zero =>
    intro listed a w _ hr hy hlk hS H
    refine ⟨fun h => (by rw [h] at hr; cases hr), fun j hj => ?_⟩
    by_cases hji : j = i
    · subst hji; exact hy.wpOp hi hS ⟨⟨hS.1, fun _ => hS.2⟩, H⟩
    · have := ready_mono hj hji
      rw [H.1] at this
      cases this
  | succ fuel ih =>
    intro listed a w hfree hr hy hlk hS H
    refine ⟨fun h => (by rw [h] at hr; cases hr), fun j hj => ?_⟩
    by_cases hji : j = i
    · subst hji; exact hy.wpOp hi hS ⟨⟨hS.1, fun _ => hS.2⟩, H⟩
    · have h1 := H.2 j (ready_mono hj hji)
      obtain ⟨hjun, oj, hoj, hall⟩ := mem_ready.1 hj
      have hnot : ∀ e ∈ oj.after, Region.binds md e = true → e.on ≠ i := fun e he hb heq => by
        have h1 := hall e he hb
        have h0 := (mem_ready.1 hr).1
        rw [heq] at h1
        rcases Nat.lt_or_ge i listed.size with h' | h'
        · simp [h'] at h0 h1; rw [h0] at h1; cases h1
        · simp [Array.getElem?_eq_none h'] at h1
      have hjk : j ≠ k := fun e => by
        subst e
        rw [hk] at hoj; cases hoj
        obtain ⟨e, he, hb, hon⟩ := hwait
        exact hnot e he hb hon
      have hlj : (listed.setIfInBounds j true).getD k true = false := by rw [getD_set_ne true hjk]; exact hlk
      have hlij : ((listed.setIfInBounds i true).setIfInBounds j true).getD k true = false := by rw [getD_set_ne true hjk, getD_set_ne true (Ne.symm hki)]; exact hlk
      have h2 := wpOp_putIf hoj (hfree j oj hoj hji hjun hnot) (fun cs b => hsel i oi cs b hi) (fun cs b => hsel j oj cs b hoj) hQ hy h1
      have hfree' : ∀ k ok, ops[k]? = some ok → k ≠ i → (listed.setIfInBounds j true).getD k true = false →
          (∀ e ∈ ok.after, Region.binds md e = true → e.on ≠ i) → oi.apart ops ok = true := fun k ok hk hki hun hno => by
        refine hfree k ok hk hki ?_ hno
        by_cases hjk : j = k
        · subst hjk; exact hjun
        · rw [getD_set_ne true hjk] at hun; exact hun
      refine wpOp_mono (fun a' w' h3 => ⟨⟨h3.2.1.1, fun _ => h3.2.1.2 hlij⟩, ih (listed.setIfInBounds j true) a' w' hfree' (ready_mono hr (Ne.symm hji)) h3.1 hlj ⟨h3.2.1.1, h3.2.1.2 hlij⟩ ?_⟩) h2
      rw [Array.setIfInBounds_comm _ _ hji]
      exact h3.2.2
/-- Whether operation k waits for i. -/
def waits (md : Region.Mode) (ops : Array Oper) (k i : Nat) : Bool := match ops[k]? with | some ok => ok.after.any (fun e => Region.binds md e && e.on == i) | none => false
theorem waits_spec {i : Nat} (h : waits md ops k i = true) : ∃ ok, ops[k]? = some ok ∧ ∃ e ∈ ok.after, Region.binds md e = true ∧ e.on = i := by
  unfold waits at h
  split at h
  · rename_i ok ho
    obtain ⟨e, he, hh⟩ := Array.any_eq_true'.1 h
    rw [Bool.and_eq_true] at hh
    exact ⟨ok, ho, e, he, hh.1, by simpa using hh.2⟩
  · cases h
/-- Take number i first, into slot d. -/
theorem tk {i d : Nat} {oi : Oper} {v : Value} {fuel : Nat} {listed : Array Bool} {a : Act} {w : World} (hi : ops[i]? = some oi) (hd : oi.dst = some d)
    (hs : Region.noSelect ops = true) (hf : Region.free md ops listed i = true) (hr : (Region.ready md ops listed).contains i = true) (hw : waits md ops k i = true) (hki : (k == i) = false) (hlk : listed.getD k true = false)
    (hQ : ∀ c a w, Q (.panic c) (a.put oi.dst v) w → Q (.panic c) a w) (hy : Region.wanted oi (yielded ops a.tmps) = true) (hv : ∀ w, S w ∧ T w → (execOp a.eval oi).run P w = .ok (.value v) w) (hS : S w ∧ T w)
    (h : wpAnyL P md ops Q S T k fuel (listed.setIfInBounds i true) (a.put (some d) v) w) : wpAnyL P md ops Q S T k (fuel + 1) listed a w := by
  obtain ⟨ok, hok, hwt⟩ := waits_spec hw
  exact first hi hok (fun e => by subst e; simp at hki) (Region.noSelect_spec hs) hwt hQ fuel listed a w (Region.free_spec hi hf) (by simpa using hr) (.inl ⟨hy, hv⟩) hlk hS (by rw [hd]; exact h)
/-- What yields under S alone may be taken first whether k waits for it or not. -/
theorem firstS {i : Nat} {oi : Oper} {v : Value} (hi : ops[i]? = some oi) (hki : k ≠ i) (hsel : ∀ (j : Nat) (o : Oper) cs b, ops[j]? = some o → o.op ≠ .select cs b)
    (hQ : ∀ c a w, Q (.panic c) (a.put oi.dst v) w → Q (.panic c) a w) :
    ∀ (fuel : Nat) (listed : Array Bool) (a : Act) (w : World),
      (∀ j oj, ops[j]? = some oj → j ≠ i → listed.getD j true = false → (∀ e ∈ oj.after, Region.binds md e = true → e.on ≠ i) → oi.apart ops oj = true) →
      i ∈ Region.ready md ops listed → YieldsIf P ops S oi v a → S w ∧ (listed.getD k true = false → T w) →
      wpAnyL P md ops Q S T k fuel (listed.setIfInBounds i true) (a.put oi.dst v) w → wpAnyL P md ops Q S T k (fuel + 1) listed a w := by
  intro fuel
  induction fuel with
  | zero =>
    intro listed a w _ hr hy hS H
    refine ⟨fun h => (by rw [h] at hr; cases hr), fun j hj => ?_⟩
    by_cases hji : j = i
    · subst hji; exact hy.wpOp hi hS.1 ⟨⟨hS.1, fun h => hS.2 (by rw [getD_set_ne true (Ne.symm hki)] at h; exact h)⟩, H⟩
    · have := ready_mono hj hji
      rw [H.1] at this
      cases this
  | succ fuel ih =>
    intro listed a w hfree hr hy hS H
    refine ⟨fun h => (by rw [h] at hr; cases hr), fun j hj => ?_⟩
    by_cases hji : j = i
    · subst hji; exact hy.wpOp hi hS.1 ⟨⟨hS.1, fun h => hS.2 (by rw [getD_set_ne true (Ne.symm hki)] at h; exact h)⟩, H⟩
    · have h1 := H.2 j (ready_mono hj hji)
      obtain ⟨hjun, oj, hoj, hall⟩ := mem_ready.1 hj
      have hnot : ∀ e ∈ oj.after, Region.binds md e = true → e.on ≠ i := fun e he hb heq => by
        have h1 := hall e he hb
        have h0 := (mem_ready.1 hr).1
        rw [heq] at h1
        rcases Nat.lt_or_ge i listed.size with h' | h'
        · simp [h'] at h0 h1; rw [h0] at h1; cases h1
        · simp [Array.getElem?_eq_none h'] at h1
      have hsame : ((listed.setIfInBounds i true).setIfInBounds j true).getD k true = (listed.setIfInBounds j true).getD k true := by rw [Array.setIfInBounds_comm _ _ (Ne.symm hji), getD_set_ne true (Ne.symm hki)]
      have h2 := wpOp_putIf hoj (hfree j oj hoj hji hjun hnot) (fun cs b => hsel i oi cs b hi) (fun cs b => hsel j oj cs b hoj) hQ hy h1
      have hfree' : ∀ k ok, ops[k]? = some ok → k ≠ i → (listed.setIfInBounds j true).getD k true = false →
          (∀ e ∈ ok.after, Region.binds md e = true → e.on ≠ i) → oi.apart ops ok = true := fun k ok hk hki hun hno => by
        refine hfree k ok hk hki ?_ hno
        by_cases hjk : j = k
        · subst hjk; exact hjun
        · rw [getD_set_ne true hjk] at hun; exact hun
      refine wpOp_mono (fun a' w' h3 => ⟨⟨h3.2.1.1, fun h => h3.2.1.2 (hsame.trans h)⟩, ih (listed.setIfInBounds j true) a' w' hfree' (ready_mono hr (Ne.symm hji)) h3.1 ⟨h3.2.1.1, fun h => h3.2.1.2 (hsame.trans h)⟩ ?_⟩) h2
      rw [Array.setIfInBounds_comm _ _ hji]
      exact h3.2.2
theorem tkS {i d : Nat} {oi : Oper} {v : Value} {fuel : Nat} {listed : Array Bool} {a : Act} {w : World} (hi : ops[i]? = some oi) (hd : oi.dst = some d)
    (hs : Region.noSelect ops = true) (hf : Region.free md ops listed i = true) (hr : (Region.ready md ops listed).contains i = true) (hki : (k == i) = false)
    (hQ : ∀ c a w, Q (.panic c) (a.put oi.dst v) w → Q (.panic c) a w) (hy : Region.wanted oi (yielded ops a.tmps) = true) (hv : ∀ w, S w → (execOp a.eval oi).run P w = .ok (.value v) w) (hS : S w ∧ T w)
    (h : wpAnyL P md ops Q S T k fuel (listed.setIfInBounds i true) (a.put (some d) v) w) : wpAnyL P md ops Q S T k (fuel + 1) listed a w :=
  firstS hi (fun e => by subst e; simp at hki) (Region.noSelect_spec hs) hQ fuel listed a w (Region.free_spec hi hf) (by simpa using hr) (.inl ⟨hy, hv⟩) ⟨hS.1, fun _ => hS.2⟩ (by rw [hd]; exact h)
/-- Each of the operations rs comes up next. -/
def AllReadyL (P : Program) (md : Region.Mode) (ops : Array Oper) (Q : Exit → Act → World → Prop) (S T : World → Prop) (k : Nat) (fuel : Nat) (listed : Array Bool) (a : Act) (w : World) (rs : List Nat) : Prop :=
  ∀ i ∈ rs, wpOp P ops Q i (fun a' w' => (S w' ∧ ((listed.setIfInBounds i true).getD k true = false → T w')) ∧ wpAnyL P md ops Q S T k fuel (listed.setIfInBounds i true) a' w') a w
theorem AllReadyL.nil {fuel : Nat} {listed : Array Bool} {a : Act} {w : World} : AllReadyL P md ops Q S T k fuel listed a w [] := fun _ h => by cases h
theorem AllReadyL.cons {fuel : Nat} {listed : Array Bool} {a : Act} {w : World} {i : Nat} {o : Oper} {rs : List Nat} (ho : ops[i]? = some o) (hik : (i == k) = false)
    (h : ∀ K' : Act → World → Prop, Shut (∀ a w, S w ∧ T w → (S w ∧ T w → wpAnyL P md ops Q S T k fuel (listed.setIfInBounds i true) a w) → K' a w) → if Region.wanted o (yielded ops a.tmps) = true then Oper.wp P o a w K' Q else K' (a.put o.dst undef) w)
    (hs : AllReadyL P md ops Q S T k fuel listed a w rs) : AllReadyL P md ops Q S T k fuel listed a w (i :: rs) := fun j hj => by
  rcases List.mem_cons.1 hj with rfl | hj
  · exact wpOp_step ho (fun K' hK => h K' (fun a w hS hW => hK a w ⟨⟨hS.1, fun _ => hS.2⟩, hW hS⟩))
  · exact hs j hj
theorem AllReadyL.last {fuel : Nat} {listed : Array Bool} {a : Act} {w : World} {o : Oper} (ho : ops[k]? = some o) (hlk : (listed.setIfInBounds k true).getD k true = true)
    (h : ∀ K' : Act → World → Prop, Shut (∀ a w, S w → (S w → wpAnyL P md ops Q S T k fuel (listed.setIfInBounds k true) a w) → K' a w) → if Region.wanted o (yielded ops a.tmps) = true then Oper.wp P o a w K' Q else K' (a.put o.dst undef) w) :
    AllReadyL P md ops Q S T k fuel listed a w [k] := fun j hj => by
  rcases List.mem_cons.1 hj with rfl | hj
  · exact wpOp_step ho (fun K' hK => h K' (fun a w hS hW => hK a w ⟨⟨hS, fun e => by rw [hlk] at e; cases e⟩, hW hS⟩))
  · cases hj
theorem ready {rs : List Nat} {fuel : Nat} {listed : Array Bool} {a : Act} {w : World} (hr : Region.ready md ops listed = rs) (hne : rs ≠ [])
    (h : AllReadyL P md ops Q S T k fuel listed a w rs) : wpAnyL P md ops Q S T k (fuel + 1) listed a w :=
  ⟨fun h0 => absurd (hr ▸ h0) hne, hr ▸ h⟩
theorem done {listed : Array Bool} {a : Act} {w : World} (hr : Region.ready md ops listed = []) (h : Q .normal a w) : ∀ fuel, wpAnyL P md ops Q S T k fuel listed a w
  | 0 => ⟨hr, h⟩
  | _ + 1 => ⟨fun _ => h, by rw [hr]; simp⟩
/-- The beginning. -/
theorem drew {id : Nat} {a : Act} {w : World} (k : Nat) (hm : P.follows .mixedOrders = true) (hS : S w.drew ∧ T w.drew)
    (h : S w.drew ∧ T w.drew → wpAnyL P .any ops Q S T k ops.size (Array.replicate ops.size false) a w.drew) : (Code.region id ops true).wp P Q a w :=
  wp_region_any hm (wpAny_of _ _ _ _ (h hS))
end Rl
end Go.Proofs.Ytpmlpojefelbbaa
namespace Go.Proofs.Ytpmlpojefelbbaa
open Go.ChangeShapes Go.WideShapes Go.ChangeAt Go.RowKit
set_option linter.unusedVariables false
set_option linter.unusedSimpArgs false
set_option maxRecDepth 100000
attribute [local go_sem ↓] Go.wp_at_zero Go.wp_at_succ
namespace Rt
open W1
def CA (w : World) (b : Nat) (cs : List Value) : Prop := w.rangeAt b 0 cs ∧ w.there b 0 14 ∧ cs.length = 14
theorem CA.at {w : World} {b : Nat} {cs : List Value} (h : CA w b cs) {i : Nat} {v : Value} (hi : cs[i]? = some v) : w.cell? ⟨b, i, none⟩ = some v := by
  have := h.1 i v hi; rwa [Nat.zero_add] at this
theorem CA.lt {w : World} {b : Nat} {cs : List Value} (h : CA w b cs) : b < w.heap.size := by
  obtain ⟨u, hu⟩ := Option.isSome_iff_exists.1 (h.2.1 0 (by omega)).1
  exact World.block_lt_of_cell? _ _ hu
theorem CA.free {w : World} {b : Nat} {cs : List Value} (h : CA w b cs) {i : Nat} (hi : i < 14) : w.frozen? ⟨b, i, none⟩ = false := by
  have := (h.2.1 i hi).2; rwa [Nat.zero_add] at this
theorem CA.under {w w' : World} {B b : Nat} {cs : List Value} (h : CA w b cs) (hb : Below B w w') (hg : b < B) : CA w' b cs :=
  ⟨fun j v hv => (hb.cell (p := ⟨b, 0 + j, none⟩) hg).trans (h.1 j v hv), fun j hj => ⟨by rw [hb.cell (p := ⟨b, 0 + j, none⟩) hg]; exact (h.2.1 j hj).1, by rw [hb.frozen (p := ⟨b, 0 + j, none⟩) hg]; exact (h.2.1 j hj).2⟩, h.2.2⟩
theorem CA.below {w w' : World} {b : Nat} {cs : List Value} (h : CA w b cs) (hb : Below w.heap.size w w') : CA w' b cs := h.under hb h.lt
theorem CA.drew {w : World} {b : Nat} {cs : List Value} (h : CA w b cs) : CA w.drew b cs := h
theorem CA.set {w : World} {b : Nat} {cs : List Value} (h : CA w b cs) {k : Nat} (hk : k < 14) (v : Value) : CA (w.setCell ⟨b, k, none⟩ v) b (cs.set k v) := ⟨range_set h.1 (by rw [h.2.2]; exact hk), there_set h.2.1, by rw [List.length_set]; exact h.2.2⟩
theorem CA.other {w : World} {b : Nat} {cs : List Value} (h : CA w b cs) {p : Addr} (hne : b ≠ p.block) (v : Value) : CA (w.setCell p v) b cs := by
  have hb : (w.setCell p v).heap[b]? = w.heap[b]? := Below.heap_setCell _ _ _ _ hne
  refine ⟨fun j u hu => ?_, fun j hj => ⟨?_, ?_⟩, h.2.2⟩
  · exact (World.cell?_of_block (a := ⟨b, 0 + j, none⟩) hb).trans (h.1 j u hu)
  · rw [World.cell?_of_block (a := ⟨b, 0 + j, none⟩) hb]; exact (h.2.1 j hj).1
  · rw [World.frozen?_setCell]; exact (h.2.1 j hj).2
end Rt
end Go.Proofs.Ytpmlpojefelbbaa
namespace Go.Proofs.Ytpmlpojefelbbaa
open Go.ChangeShapes Go.WideShapes Go.ChangeAt Go.RowKit
set_option linter.unusedVariables false
set_option linter.unusedSimpArgs false
set_option maxRecDepth 100000
attribute [local go_sem ↓] Go.wp_at_zero Go.wp_at_succ
namespace Rt
open W1
theorem gb_reflC (w : World) (r : Option Nat) : w.grownBy w r := ⟨rfl, rfl, rfl, Nat.le_refl _, fun _ _ _ => rfl⟩
theorem run_append_none {P : Program} {w : World} (base : Nat) (t ty e : TypeId) (i : TypeInfo) (size : Nat) (ht : P.underlying t = some (.slice e)) (hi : P.info? e = some i)
    (v : Value) (n : Nat) (xs : List Value) (hown : w.ownsRow base e size v n xs) (a : Option Addr) (c : Nat) :
    (Builtin.append_ #[t, t] ty #[v, .slice a 0 c]).run P w = .ok v w := by
  have h0 : ∀ (x : Addr), (loadCells x 0).run P w = .ok #[] w := fun x => run_loadCells_list (P := P) w x [] (fun j v hv => by simp at hv)
  rcases hown.2 with ⟨rfl, rfl⟩ | ⟨g, cap, cur, rfl, _, _, hnc, _⟩
  · cases a <;> simp [Builtin.append_, run_underlying ht, sizeOf, typeInfo, hi, Builtin.lenOf, Builtin.firstCells, h0, Result.andThen]
  · cases a <;> simp [Builtin.append_, run_underlying ht, sizeOf, typeInfo, hi, Builtin.lenOf, Builtin.firstCells, hnc, storeCells, h0, Result.andThen]
/-- append of nothing, wherever it lies. -/
theorem wpList_append_none {P : Program} {w : World} {ops : Array Oper} {rest : List Oper} {o : Oper} {a : Act} {Q : Exit → Act → World → Prop} (hgd : o.guard = none) (s x : Operand) (t : TypeId)
    (ho : o.op = .call { callee := .builtin .append, args := #[s, x], argTypes := #[t, t] })
    (base : Nat) (e : TypeId) (i : TypeInfo) (size : Nat) (ht : P.underlying t = some (.slice e)) (hi : P.info? e = some i)
    (v : Value) (n : Nat) (xs : List Value) (hs : a.eval s = v) (hown : w.ownsRow base e size v n xs) (b : Option Addr) (c : Nat) (hx : a.eval x = .slice b 0 c)
    (h : wpList P ops Q rest (a.put o.dst v) w) : wpList P ops Q (o :: rest) a w := by
  refine wpList_plain hgd fun K hK => ?_
  have hrun := run_append_none (P := P) (w := w) base t o.type e i size ht hi v n xs hown b c
  unfold Oper.wp
  simp [execOp, ho, resolve, invoke, builtin, hs, hx, hrun, Result.andThen]
  exact hK _ _ h
end Rt
end Go.Proofs.Ytpmlpojefelbbaa
namespace Go.Proofs.Ytpmlpojefelbbaa
open Go.ChangeShapes Go.WideShapes Go.ChangeAt Go.RowKit
set_option linter.unusedVariables false
set_option linter.unusedSimpArgs false
set_option maxRecDepth 100000
attribute [local go_sem ↓] Go.wp_at_zero Go.wp_at_succ
namespace Nt
open W1 Rt
/-- The cells of routers, each with where its lists lie. -/
def fl (xs : List (Rm × Pl)) : List Value := xs.flatMap fun x => cl x.1 x.2
def zP : Rm × Pl := (Rm.zero, Pl.zero)
theorem fl_len (xs : List (Rm × Pl)) : (fl xs).length = xs.length * 13 := by
  unfold fl
  induction xs with
  | nil => rfl
  | cons m t ih => rw [List.flatMap_cons, List.length_append, ih, cl_len, List.length_cons]; omega
theorem fl_append (xs ys : List (Rm × Pl)) : fl (xs ++ ys) = fl xs ++ fl ys := by unfold fl; rw [List.flatMap_append]
theorem fl_get : ∀ (xs : List (Rm × Pl)) (i j : Nat), j < 13 → i < xs.length → (fl xs)[i * 13 + j]? = (cl (xs.getD i zP).1 (xs.getD i zP).2)[j]?
  | [], i, j, hj, hi => by simp at hi
  | m :: t, 0, j, hj, hi => by
    unfold fl
    rw [List.flatMap_cons, Nat.zero_mul, Nat.zero_add, List.getElem?_append_left (by rw [cl_len]; exact hj)]; rfl
  | m :: t, i + 1, j, hj, hi => by
    have ih := fl_get t i j hj (by simpa using hi)
    unfold fl at ih ⊢
    rw [List.flatMap_cons, show (i + 1) * 13 + j = (cl m.1 m.2).length + (i * 13 + j) by rw [cl_len]; omega, List.getElem?_append_right (by omega), Nat.add_sub_cancel_left, ih]; rfl
theorem fl_ones {xs : List (Rm × Pl)} {u : Value} (h : u ∈ fl xs) : u.oneCell' = true := by
  obtain ⟨x, _, hu⟩ := List.mem_flatMap.1 h; exact (cl_ones x.1 x.2).2 u hu
/-- Routers that stand in a row, cell by cell. -/
def Rws (w : World) (g off : Nat) (xs : List (Rm × Pl)) : Prop := ∀ i, i < xs.length → w.rangeAt g (off + i * 13) (cl (xs.getD i zP).1 (xs.getD i zP).2)
theorem padd (b off k : Nat) : (⟨b, off, none⟩ : Addr).add k = ⟨b, off + k, none⟩ := by unfold Addr.add; split <;> simp_all
theorem Rws.cells {w : World} {g off : Nat} {xs : List (Rm × Pl)} (h : Rws w g off xs) : ∀ j u, (fl xs)[j]? = some u → w.cell? ((⟨g, off, none⟩ : Addr).add j) = some u := by
  intro j u hj
  have hl : j < xs.length * 13 := by rw [← fl_len]; exact (List.getElem?_eq_some_iff.1 hj).1
  have hi : j / 13 < xs.length := by omega
  have e : j / 13 * 13 + j % 13 = j := by omega
  rw [← e, fl_get xs _ _ (by omega) hi] at hj
  have := h _ hi _ _ hj
  rw [padd, show off + j = off + j / 13 * 13 + j % 13 by omega]; exact this
theorem rws_own {w : World} {base g cap n : Nat} {xs : List (Rm × Pl)} (hn : n = xs.length) (h : w.ownsRow base 46 13 (.slice (some ⟨g, 0, none⟩) n cap) n (fl xs)) : (∀ i, i < n → w.rangeAt g (i * 13) (cl (xs.getD i zP).1 (xs.getD i zP).2)) ∧ w.there g 0 (n * 13) ∧ base ≤ g ∧ g < w.heap.size := by
  obtain ⟨_, ⟨e, _⟩ | ⟨g', cap', cur, e, hb, hg, h1, _, h3, h4⟩⟩ := h
  · cases e
  · cases e
    have hlt : g < w.heap.size := by
      rcases Nat.lt_or_ge g w.heap.size with h | h
      · exact h
      · rw [Array.getElem?_eq_none h] at hg; cases hg
    refine ⟨fun i hi j u hu => ?_, fun i hi => ?_, hb, hlt⟩
    · have hj : j < 13 := by have := (List.getElem?_eq_some_iff.1 hu).1; rw [cl_len] at this; exact this
      have hf := fl_get xs i j hj (by omega)
      rw [hu, ← h4, List.getElem?_take_of_lt (by omega)] at hf
      rw [Array.getElem?_toList] at hf
      simp only [World.cell?, hg]
      exact hf
    · have hc : i < cur.size := by rw [h3]; exact Nat.lt_of_lt_of_le hi (Nat.mul_le_mul_right _ h1)
      rw [Nat.zero_add]
      refine ⟨?_, ?_⟩
      · simp [World.cell?, hg, hc]
      · simp [World.frozen?, hg]
theorem own_form {w : World} {base n : Nat} {v : Value} {xs : List Value} (h : w.ownsRow base 46 13 v n xs) (h0 : 0 < n) : ∃ g cap, v = .slice (some ⟨g, 0, none⟩) n cap := by
  obtain ⟨_, ⟨_, e⟩ | ⟨g', cap', cur, e, _⟩⟩ := h
  · omega
  · exact ⟨g', cap', e⟩
theorem ownN_nil (w : World) (base : Nat) : w.ownsRow base 46 13 (.slice none 0 0) ([] : List (Rm × Pl)).length (fl []) := World.ownsRow_nil w base _ _
theorem ownN_empty (w : World) (base : Nat) (hb : base ≤ w.heap.size) : (w.alloc (.cells #[] 46)).ownsRow base 46 13 (.slice (some ⟨w.heap.size, 0, none⟩) 0 0) ([] : List (Rm × Pl)).length (fl []) := World.ownsRow_made w #[] 0 hb (Nat.zero_le _) (by simp)
theorem rwN_new (w : World) (m : Rm) (p : Pl) : Rws (w.alloc (.cells (cl m p).toArray 46)) w.heap.size 0 [(m, p)] := fun i hi j u hu => by
  obtain rfl : i = 0 := by simp at hi; omega
  rw [Nat.zero_mul, Nat.zero_add]
  try rw [Nat.zero_add]
  rw [World.cell?_alloc_new]
  have : (cl m p)[j]? = some u := hu
  rw [List.getElem?_toArray]; exact this
theorem belN_own {B : Nat} {w0 w w' : World} {base : Nat} {v : Value} {n : Nat} {xs : List Value} (h : Below B w0 w) (ho : w.ownsRow base 46 13 v n xs) (hg : w.grownBy w' v.ownBlock) (hb : B ≤ base) (hB : B ≤ w.heap.size) : Below B w0 w' :=
  h.grown hg hB (fun k hk => Nat.le_trans hb (ho.lt k hk).1)
/-- append of routers to a row of one's own. -/
theorem wpList_apN {ops : Array Oper} {rest : List Oper} {o : Oper} {a : Act} {Q : Exit → Act → World → Prop} {w : World} {base : Nat} {v : Value} {xs : List (Rm × Pl)} (hown : w.ownsRow base 46 13 v xs.length (fl xs)) (g off m c : Nat) (ys : List (Rm × Pl)) (hm : ys.length = m) (hr : Rws w g off ys) (hlen : xs.length + ys.length ≤ 4194304) (hbase : base ≤ w.heap.size)
    (hgd : o.guard = none) (s x : Operand) (ho : o.op = .call { callee := .builtin .append, args := #[s, x], argTypes := #[23, 23] }) (hs : a.eval s = v) (hx : a.eval x = .slice (some ⟨g, off, none⟩) m c)
    (h : ∀ v' w', w'.ownsRow base 46 13 v' (xs ++ ys).length (fl (xs ++ ys)) → w.grownBy w' v.ownBlock → wpList Try.prog ops Q rest (a.put o.dst v') w') : wpList Try.prog ops Q (o :: rest) a w := by
  subst hm
  obtain ⟨i0, hi, hz0, hz1, hz2⟩ := infoZ
  refine wpList_append_own w hgd s x _ ho base 46 i0 _ 13 216 Try.underlying23 hi hz0 hz1 hz2 rfl (by decide) v xs.length (fl xs) hs hown ⟨g, off, none⟩ ys.length c (fl ys) hx (fl_len ys) hr.cells (fun u hu => fl_ones hu) (by unfold maxLen; omega) (by omega) hbase (fun v' w' h1 h2 _ => ?_)
  refine h v' w' ?_ h2
  rw [List.length_append, fl_append]; exact h1

end Nt
end Go.Proofs.Ytpmlpojefelbbaa
namespace Go.Proofs.Ytpmlpojefelbbaa
open Go.ChangeShapes Go.WideShapes Go.ChangeAt Go.RowKit
set_option linter.unusedVariables false
set_option linter.unusedSimpArgs false
set_option maxRecDepth 100000
attribute [local go_sem ↓] Go.wp_at_zero Go.wp_at_succ
namespace Nt
open W1 Rt
theorem rng_blk {w w' : World} {g o : Nat} {cs : List Value} (h : w.rangeAt g o cs) (hb : w'.heap[g]? = w.heap[g]?) : w'.rangeAt g o cs := fun j u hu => (World.cell?_of_block (a := ⟨g, o + j, none⟩) hb).trans (h j u hu)
theorem there_blk {w w' : World} {b n : Nat} (h : w.there b 0 n) (hb : w'.heap[b]? = w.heap[b]?) : w'.there b 0 n := fun k hk => ⟨by rw [World.cell?_of_block (a := ⟨b, 0 + k, none⟩) hb]; exact (h k hk).1, by rw [World.frozen?_of_block (a := ⟨b, 0 + k, none⟩) hb]; exact (h k hk).2⟩
theorem own_blk {w w' : World} {base e k : Nat} {v : Value} {n : Nat} {xs : List Value} (h : w.ownsRow base e k v n xs) (hb : ∀ g, v.ownBlock = some g → w'.heap[g]? = w.heap[g]?) : w'.ownsRow base e k v n xs := by
  obtain ⟨h1, h2 | ⟨g, cap, cur, rfl, h3, h4, h5⟩⟩ := h
  · exact ⟨h1, .inl h2⟩
  · exact ⟨h1, .inr ⟨g, cap, cur, rfl, h3, by rw [hb g rfl]; exact h4, h5⟩⟩
theorem copyIO (a : Option Addr) (ms : List Int) (cap : Nat) (w : World) (hm : ms.length ≤ 4096) (hr : In.RM w a ms) :
    Calls Try.prog 20 #[.slice a ms.length cap] w fun e w' => ∃ v, e = .returned v ∧ Below w.heap.size w w' ∧ In.LstV w' v ms w.heap.size w'.heap.size ∧ Hid (w'.ownsRow w.heap.size 3 1 v ms.length (In.flat ms)) := by
  have O0 := hide (In.own_nil w w.heap.size)
  by_cases h0 : 0 < ms.length
  · rcases hr with e0 | ⟨g, off, rfl, hcc⟩
    · rw [e0] at h0; simp at h0
    have HR := hide (show In.RM w (some ⟨g, off, none⟩) ms from .inr ⟨g, off, rfl, hcc⟩)
    obtain ⟨n, hn⟩ : ∃ n, ms.length = n := ⟨_, rfl⟩
    rw [hn]
    clear hcc h0
    go_enter Try.func20, Try.ntmps20
    go_wp2_with (at_builtin; refine In.wpList_apS (unhide O0) g off n cap ms hn (unhide HR) (by simp; omega) (by simp) rfl _ _ rfl rfl rfl ?_; intro v' w' ho hg; have HL := hide (In.lst_own rfl ho); have HO := hide ho; have HB := hide (In.below_own (Below.refl _ _) (unhide O0) hg (Nat.le_refl _) (Nat.le_refl _)); clear ho hg)
    go_ret
    exact ⟨_, rfl, unhide HB, unhide HL, by have := unhide HO; rw [List.nil_append, hn] at this; exact hide this⟩
  · have hms : ms = [] := List.length_eq_zero_iff.1 (by omega)
    subst hms
    clear h0 hr hm
    obtain ⟨i0, hi, _⟩ := In.infoI
    go_enter Try.func20, Try.ntmps20
    go_wp2_with (at_builtin; refine wpList_append_none rfl _ _ _ rfl w.heap.size 3 i0 1 Try.underlying22 hi _ _ _ rfl (unhide O0) _ _ rfl ?_)
    go_ret
    exact ⟨_, rfl, Below.refl _ _, In.lstV_nil _ _ _ _ _, O0⟩
end Nt
end Go.Proofs.Ytpmlpojefelbbaa
namespace Go.Proofs.Ytpmlpojefelbbaa
open Go.ChangeShapes Go.WideShapes Go.ChangeAt Go.RowKit
set_option linter.unusedVariables false
set_option linter.unusedSimpArgs false
set_option maxRecDepth 100000
attribute [local go_sem ↓] Go.wp_at_zero Go.wp_at_succ
namespace Rt
open W1
/-- Two intervals that have nothing in common. -/
def Dj (p q r s : Nat) : Prop := q ≤ r ∨ s ≤ p
/-- An interval without blocks of a kind. -/
def Fr (p q : Nat) (X : Nat → Prop) : Prop := ∀ k, p ≤ k → k < q → ¬ X k
/-- Seven lists in intervals of their own, which have none of the blocks X. -/
def Sev (W : World) (lo hi : Nat) (X : Nat → Prop) (a1 a2 a3 a4 a5 a6 a7 : Option Addr) (ls : List Lk.R) (tw : List Tu.R) (se : List Tu.R) (du : List Tu.R) (ss : List So.R) (es : List Tu.R) (la : List Ed.R) : Prop :=
  ∃ p1 q1 p2 q2 p3 q3 p4 q4 p5 q5 p6 q6 p7 q7 : Nat, ((lo ≤ p1 ∧ p1 ≤ q1 ∧ q1 ≤ hi) ∧ (lo ≤ p2 ∧ p2 ≤ q2 ∧ q2 ≤ hi) ∧ (lo ≤ p3 ∧ p3 ≤ q3 ∧ q3 ≤ hi) ∧ (lo ≤ p4 ∧ p4 ≤ q4 ∧ q4 ≤ hi) ∧ (lo ≤ p5 ∧ p5 ≤ q5 ∧ q5 ≤ hi) ∧ (lo ≤ p6 ∧ p6 ≤ q6 ∧ q6 ≤ hi) ∧ (lo ≤ p7 ∧ p7 ≤ q7 ∧ q7 ≤ hi)) ∧ (Dj p1 q1 p2 q2 ∧ Dj p1 q1 p3 q3 ∧ Dj p1 q1 p4 q4 ∧ Dj p1 q1 p5 q5 ∧ Dj p1 q1 p6 q6 ∧ Dj p1 q1 p7 q7 ∧ Dj p2 q2 p3 q3 ∧ Dj p2 q2 p4 q4 ∧ Dj p2 q2 p5 q5 ∧ Dj p2 q2 p6 q6 ∧ Dj p2 q2 p7 q7 ∧ Dj p3 q3 p4 q4 ∧ Dj p3 q3 p5 q5 ∧ Dj p3 q3 p6 q6 ∧ Dj p3 q3 p7 q7 ∧ Dj p4 q4 p5 q5 ∧ Dj p4 q4 p6 q6 ∧ Dj p4 q4 p7 q7 ∧ Dj p5 q5 p6 q6 ∧ Dj p5 q5 p7 q7 ∧ Dj p6 q6 p7 q7) ∧ (Fr p1 q1 X ∧ Fr p2 q2 X ∧ Fr p3 q3 X ∧ Fr p4 q4 X ∧ Fr p5 q5 X ∧ Fr p6 q6 X ∧ Fr p7 q7 X) ∧ Lk.Lst W a1 (ls) p1 q1 ∧ Tu.Lst W a2 (tw) p2 q2 ∧ Tu.Lst W a3 (se) p3 q3 ∧ Tu.Lst W a4 (du) p4 q4 ∧ So.Lst W a5 (ss) p5 q5 ∧ Tu.Lst W a6 (es) p6 q6 ∧ Ed.Lst W a7 (la) p7 q7
theorem Sev.below {W W' : World} {lo hi : Nat} {X : Nat → Prop} {a1 a2 a3 a4 a5 a6 a7 : Option Addr} {ls : List Lk.R} {tw : List Tu.R} {se : List Tu.R} {du : List Tu.R} {ss : List So.R} {es : List Tu.R} {la : List Ed.R} (h : Sev W lo hi X a1 a2 a3 a4 a5 a6 a7 ls tw se du ss es la) (hb : Below W.heap.size W W') : Sev W' lo hi X a1 a2 a3 a4 a5 a6 a7 ls tw se du ss es la := by
  obtain ⟨p1, q1, p2, q2, p3, q3, p4, q4, p5, q5, p6, q6, p7, q7, ⟨⟨u1, v1, w1⟩, ⟨u2, v2, w2⟩, ⟨u3, v3, w3⟩, ⟨u4, v4, w4⟩, ⟨u5, v5, w5⟩, ⟨u6, v6, w6⟩, ⟨u7, v7, w7⟩⟩, ⟨d12, d13, d14, d15, d16, d17, d23, d24, d25, d26, d27, d34, d35, d36, d37, d45, d46, d47, d56, d57, d67⟩, ⟨xx1, xx2, xx3, xx4, xx5, xx6, xx7⟩, h1, h2, h3, h4, h5, h6, h7⟩ := h
  exact ⟨p1, q1, p2, q2, p3, q3, p4, q4, p5, q5, p6, q6, p7, q7, ⟨⟨u1, v1, w1⟩, ⟨u2, v2, w2⟩, ⟨u3, v3, w3⟩, ⟨u4, v4, w4⟩, ⟨u5, v5, w5⟩, ⟨u6, v6, w6⟩, ⟨u7, v7, w7⟩⟩, ⟨d12, d13, d14, d15, d16, d17, d23, d24, d25, d26, d27, d34, d35, d36, d37, d45, d46, d47, d56, d57, d67⟩, ⟨xx1, xx2, xx3, xx4, xx5, xx6, xx7⟩, h1.below hb, h2.below hb, h3.below hb, h4.below hb, h5.below hb, h6.below hb, h7.below hb⟩
theorem Sev.mono {W : World} {lo hi lo' hi' : Nat} {X : Nat → Prop} {a1 a2 a3 a4 a5 a6 a7 : Option Addr} {ls : List Lk.R} {tw : List Tu.R} {se : List Tu.R} {du : List Tu.R} {ss : List So.R} {es : List Tu.R} {la : List Ed.R} (h : Sev W lo hi X a1 a2 a3 a4 a5 a6 a7 ls tw se du ss es la) (hl : lo' ≤ lo) (hh : hi ≤ hi') : Sev W lo' hi' X a1 a2 a3 a4 a5 a6 a7 ls tw se du ss es la := by
  obtain ⟨p1, q1, p2, q2, p3, q3, p4, q4, p5, q5, p6, q6, p7, q7, ⟨⟨u1, v1, w1⟩, ⟨u2, v2, w2⟩, ⟨u3, v3, w3⟩, ⟨u4, v4, w4⟩, ⟨u5, v5, w5⟩, ⟨u6, v6, w6⟩, ⟨u7, v7, w7⟩⟩, ⟨d12, d13, d14, d15, d16, d17, d23, d24, d25, d26, d27, d34, d35, d36, d37, d45, d46, d47, d56, d57, d67⟩, ⟨xx1, xx2, xx3, xx4, xx5, xx6, xx7⟩, h1, h2, h3, h4, h5, h6, h7⟩ := h
  exact ⟨p1, q1, p2, q2, p3, q3, p4, q4, p5, q5, p6, q6, p7, q7, ⟨⟨Nat.le_trans hl u1, v1, Nat.le_trans w1 hh⟩, ⟨Nat.le_trans hl u2, v2, Nat.le_trans w2 hh⟩, ⟨Nat.le_trans hl u3, v3, Nat.le_trans w3 hh⟩, ⟨Nat.le_trans hl u4, v4, Nat.le_trans w4 hh⟩, ⟨Nat.le_trans hl u5, v5, Nat.le_trans w5 hh⟩, ⟨Nat.le_trans hl u6, v6, Nat.le_trans w6 hh⟩, ⟨Nat.le_trans hl u7, v7, Nat.le_trans w7 hh⟩⟩, ⟨d12, d13, d14, d15, d16, d17, d23, d24, d25, d26, d27, d34, d35, d36, d37, d45, d46, d47, d56, d57, d67⟩, ⟨xx1, xx2, xx3, xx4, xx5, xx6, xx7⟩, h1, h2, h3, h4, h5, h6, h7⟩
theorem Sev.but {W W' : World} {lo hi L H : Nat} {X : Nat → Prop} {a1 a2 a3 a4 a5 a6 a7 : Option Addr} {ls : List Lk.R} {tw : List Tu.R} {se : List Tu.R} {du : List Tu.R} {ss : List So.R} {es : List Tu.R} {la : List Ed.R} (h : Sev W lo hi X a1 a2 a3 a4 a5 a6 a7 ls tw se du ss es la) (hs : W.heap.size ≤ W'.heap.size) (hb : ∀ k, k < W.heap.size → (k < L ∨ H ≤ k) → W'.heap[k]? = W.heap[k]?) (hd : hi ≤ L ∨ H ≤ lo) : Sev W' lo hi X a1 a2 a3 a4 a5 a6 a7 ls tw se du ss es la := by
  obtain ⟨p1, q1, p2, q2, p3, q3, p4, q4, p5, q5, p6, q6, p7, q7, ⟨⟨u1, v1, w1⟩, ⟨u2, v2, w2⟩, ⟨u3, v3, w3⟩, ⟨u4, v4, w4⟩, ⟨u5, v5, w5⟩, ⟨u6, v6, w6⟩, ⟨u7, v7, w7⟩⟩, ⟨d12, d13, d14, d15, d16, d17, d23, d24, d25, d26, d27, d34, d35, d36, d37, d45, d46, d47, d56, d57, d67⟩, ⟨xx1, xx2, xx3, xx4, xx5, xx6, xx7⟩, h1, h2, h3, h4, h5, h6, h7⟩ := h
  exact ⟨p1, q1, p2, q2, p3, q3, p4, q4, p5, q5, p6, q6, p7, q7, ⟨⟨u1, v1, w1⟩, ⟨u2, v2, w2⟩, ⟨u3, v3, w3⟩, ⟨u4, v4, w4⟩, ⟨u5, v5, w5⟩, ⟨u6, v6, w6⟩, ⟨u7, v7, w7⟩⟩, ⟨d12, d13, d14, d15, d16, d17, d23, d24, d25, d26, d27, d34, d35, d36, d37, d45, d46, d47, d56, d57, d67⟩, ⟨xx1, xx2, xx3, xx4, xx5, xx6, xx7⟩, h1.but (p := fun k => k < L ∨ H ≤ k) hs (fun k hk h => hb k hk h) (fun k h1 h2 => by omega), h2.but (p := fun k => k < L ∨ H ≤ k) hs (fun k hk h => hb k hk h) (fun k h1 h2 => by omega), h3.but (p := fun k => k < L ∨ H ≤ k) hs (fun k hk h => hb k hk h) (fun k h1 h2 => by omega), h4.but (p := fun k => k < L ∨ H ≤ k) hs (fun k hk h => hb k hk h) (fun k h1 h2 => by omega), h5.but (p := fun k => k < L ∨ H ≤ k) hs (fun k hk h => hb k hk h) (fun k h1 h2 => by omega), h6.but (p := fun k => k < L ∨ H ≤ k) hs (fun k hk h => hb k hk h) (fun k h1 h2 => by omega), h7.but (p := fun k => k < L ∨ H ≤ k) hs (fun k hk h => hb k hk h) (fun k h1 h2 => by omega)⟩
/-- What happens in those blocks leaves them alone. -/
theorem Sev.butX {W W' : World} {lo hi : Nat} {X : Nat → Prop} {a1 a2 a3 a4 a5 a6 a7 : Option Addr} {ls : List Lk.R} {tw : List Tu.R} {se : List Tu.R} {du : List Tu.R} {ss : List So.R} {es : List Tu.R} {la : List Ed.R} (h : Sev W lo hi X a1 a2 a3 a4 a5 a6 a7 ls tw se du ss es la) (hs : W.heap.size ≤ W'.heap.size) (hb : ∀ k, k < W.heap.size → ¬ X k → W'.heap[k]? = W.heap[k]?) : Sev W' lo hi X a1 a2 a3 a4 a5 a6 a7 ls tw se du ss es la := by
  obtain ⟨p1, q1, p2, q2, p3, q3, p4, q4, p5, q5, p6, q6, p7, q7, ⟨⟨u1, v1, w1⟩, ⟨u2, v2, w2⟩, ⟨u3, v3, w3⟩, ⟨u4, v4, w4⟩, ⟨u5, v5, w5⟩, ⟨u6, v6, w6⟩, ⟨u7, v7, w7⟩⟩, ⟨d12, d13, d14, d15, d16, d17, d23, d24, d25, d26, d27, d34, d35, d36, d37, d45, d46, d47, d56, d57, d67⟩, ⟨xx1, xx2, xx3, xx4, xx5, xx6, xx7⟩, h1, h2, h3, h4, h5, h6, h7⟩ := h
  exact ⟨p1, q1, p2, q2, p3, q3, p4, q4, p5, q5, p6, q6, p7, q7, ⟨⟨u1, v1, w1⟩, ⟨u2, v2, w2⟩, ⟨u3, v3, w3⟩, ⟨u4, v4, w4⟩, ⟨u5, v5, w5⟩, ⟨u6, v6, w6⟩, ⟨u7, v7, w7⟩⟩, ⟨d12, d13, d14, d15, d16, d17, d23, d24, d25, d26, d27, d34, d35, d36, d37, d45, d46, d47, d56, d57, d67⟩, ⟨xx1, xx2, xx3, xx4, xx5, xx6, xx7⟩, h1.but (p := fun k => ¬ X k) hs (fun k hk h => hb k hk h) xx1, h2.but (p := fun k => ¬ X k) hs (fun k hk h => hb k hk h) xx2, h3.but (p := fun k => ¬ X k) hs (fun k hk h => hb k hk h) xx3, h4.but (p := fun k => ¬ X k) hs (fun k hk h => hb k hk h) xx4, h5.but (p := fun k => ¬ X k) hs (fun k hk h => hb k hk h) xx5, h6.but (p := fun k => ¬ X k) hs (fun k hk h => hb k hk h) xx6, h7.but (p := fun k => ¬ X k) hs (fun k hk h => hb k hk h) xx7⟩
theorem Sev.set {W : World} {lo hi : Nat} {X : Nat → Prop} {a1 a2 a3 a4 a5 a6 a7 : Option Addr} {ls : List Lk.R} {tw : List Tu.R} {se : List Tu.R} {du : List Tu.R} {ss : List So.R} {es : List Tu.R} {la : List Ed.R} (h : Sev W lo hi X a1 a2 a3 a4 a5 a6 a7 ls tw se du ss es la) {a : Addr} (v : Value) (h1 : X a.block) : Sev (W.setCell a v) lo hi X a1 a2 a3 a4 a5 a6 a7 ls tw se du ss es la :=
  h.butX (by simp [World.setCell]) (fun k _ hk => Below.heap_setCell _ _ _ _ (fun e => hk (e ▸ h1)))
theorem Sev.of {W : World} {lo hi : Nat} {X : Nat → Prop} {a1 a2 a3 a4 a5 a6 a7 : Option Addr} {ls : List Lk.R} {tw : List Tu.R} {se : List Tu.R} {du : List Tu.R} {ss : List So.R} {es : List Tu.R} {la : List Ed.R} (h : RL W lo hi a1 a2 a3 a4 a5 a6 a7 ls tw se du ss es la) (hd : ∀ k, X k → hi ≤ k ∨ k < lo) : Sev W lo hi X a1 a2 a3 a4 a5 a6 a7 ls tw se du ss es la := by
  obtain ⟨b1, b2, b3, b4, b5, b6, ⟨o0, o1, o2, o3, o4, o5, o6⟩, h1, h2, h3, h4, h5, h6, h7⟩ := h
  exact ⟨lo, b1, b1, b2, b2, b3, b3, b4, b4, b5, b5, b6, b6, hi, ⟨⟨by omega, by omega, by omega⟩, ⟨by omega, by omega, by omega⟩, ⟨by omega, by omega, by omega⟩, ⟨by omega, by omega, by omega⟩, ⟨by omega, by omega, by omega⟩, ⟨by omega, by omega, by omega⟩, ⟨by omega, by omega, by omega⟩⟩, ⟨(by unfold Dj; omega), (by unfold Dj; omega), (by unfold Dj; omega), (by unfold Dj; omega), (by unfold Dj; omega), (by unfold Dj; omega), (by unfold Dj; omega), (by unfold Dj; omega), (by unfold Dj; omega), (by unfold Dj; omega), (by unfold Dj; omega), (by unfold Dj; omega), (by unfold Dj; omega), (by unfold Dj; omega), (by unfold Dj; omega), (by unfold Dj; omega), (by unfold Dj; omega), (by unfold Dj; omega), (by unfold Dj; omega), (by unfold Dj; omega), (by unfold Dj; omega)⟩, ⟨(fun k h1 h2 hx => by have := hd k hx; omega), (fun k h1 h2 hx => by have := hd k hx; omega), (fun k h1 h2 hx => by have := hd k hx; omega), (fun k h1 h2 hx => by have := hd k hx; omega), (fun k h1 h2 hx => by have := hd k hx; omega), (fun k h1 h2 hx => by have := hd k hx; omega), (fun k h1 h2 hx => by have := hd k hx; omega)⟩, h1, h2, h3, h4, h5, h6, h7⟩
theorem Sev.r1 {W : World} {lo hi : Nat} {X : Nat → Prop} {a1 a2 a3 a4 a5 a6 a7 : Option Addr} {ls : List Lk.R} {tw : List Tu.R} {se : List Tu.R} {du : List Tu.R} {ss : List So.R} {es : List Tu.R} {la : List Ed.R} (h : Sev W lo hi X a1 a2 a3 a4 a5 a6 a7 ls tw se du ss es la) : Lk.RM W a1 ls := by obtain ⟨p1, q1, p2, q2, p3, q3, p4, q4, p5, q5, p6, q6, p7, q7, ⟨⟨u1, v1, w1⟩, ⟨u2, v2, w2⟩, ⟨u3, v3, w3⟩, ⟨u4, v4, w4⟩, ⟨u5, v5, w5⟩, ⟨u6, v6, w6⟩, ⟨u7, v7, w7⟩⟩, ⟨d12, d13, d14, d15, d16, d17, d23, d24, d25, d26, d27, d34, d35, d36, d37, d45, d46, d47, d56, d57, d67⟩, ⟨xx1, xx2, xx3, xx4, xx5, xx6, xx7⟩, h1, h2, h3, h4, h5, h6, h7⟩ := h; exact h1.rm
theorem Sev.r2 {W : World} {lo hi : Nat} {X : Nat → Prop} {a1 a2 a3 a4 a5 a6 a7 : Option Addr} {ls : List Lk.R} {tw : List Tu.R} {se : List Tu.R} {du : List Tu.R} {ss : List So.R} {es : List Tu.R} {la : List Ed.R} (h : Sev W lo hi X a1 a2 a3 a4 a5 a6 a7 ls tw se du ss es la) : Tu.RM W a2 tw := by obtain ⟨p1, q1, p2, q2, p3, q3, p4, q4, p5, q5, p6, q6, p7, q7, ⟨⟨u1, v1, w1⟩, ⟨u2, v2, w2⟩, ⟨u3, v3, w3⟩, ⟨u4, v4, w4⟩, ⟨u5, v5, w5⟩, ⟨u6, v6, w6⟩, ⟨u7, v7, w7⟩⟩, ⟨d12, d13, d14, d15, d16, d17, d23, d24, d25, d26, d27, d34, d35, d36, d37, d45, d46, d47, d56, d57, d67⟩, ⟨xx1, xx2, xx3, xx4, xx5, xx6, xx7⟩, h1, h2, h3, h4, h5, h6, h7⟩ := h; exact h2.rm
theorem Sev.r3 {W : World} {lo hi : Nat} {X : Nat → Prop} {a1 a2 a3 a4 a5 a6 a7 : Option Addr} {ls : List Lk.R} {tw : List Tu.R} {se : List Tu.R} {du : List Tu.R} {ss : List So.R} {es : List Tu.R} {la : List Ed.R} (h : Sev W lo hi X a1 a2 a3 a4 a5 a6 a7 ls tw se du ss es la) : Tu.RM W a3 se := by obtain ⟨p1, q1, p2, q2, p3, q3, p4, q4, p5, q5, p6, q6, p7, q7, ⟨⟨u1, v1, w1⟩, ⟨u2, v2, w2⟩, ⟨u3, v3, w3⟩, ⟨u4, v4, w4⟩, ⟨u5, v5, w5⟩, ⟨u6, v6, w6⟩, ⟨u7, v7, w7⟩⟩, ⟨d12, d13, d14, d15, d16, d17, d23, d24, d25, d26, d27, d34, d35, d36, d37, d45, d46, d47, d56, d57, d67⟩, ⟨xx1, xx2, xx3, xx4, xx5, xx6, xx7⟩, h1, h2, h3, h4, h5, h6, h7⟩ := h; exact h3.rm
theorem Sev.r4 {W : World} {lo hi : Nat} {X : Nat → Prop} {a1 a2 a3 a4 a5 a6 a7 : Option Addr} {ls : List Lk.R} {tw : List Tu.R} {se : List Tu.R} {du : List Tu.R} {ss : List So.R} {es : List Tu.R} {la : List Ed.R} (h : Sev W lo hi X a1 a2 a3 a4 a5 a6 a7 ls tw se du ss es la) : Tu.RM W a4 du := by obtain ⟨p1, q1, p2, q2, p3, q3, p4, q4, p5, q5, p6, q6, p7, q7, ⟨⟨u1, v1, w1⟩, ⟨u2, v2, w2⟩, ⟨u3, v3, w3⟩, ⟨u4, v4, w4⟩, ⟨u5, v5, w5⟩, ⟨u6, v6, w6⟩, ⟨u7, v7, w7⟩⟩, ⟨d12, d13, d14, d15, d16, d17, d23, d24, d25, d26, d27, d34, d35, d36, d37, d45, d46, d47, d56, d57, d67⟩, ⟨xx1, xx2, xx3, xx4, xx5, xx6, xx7⟩, h1, h2, h3, h4, h5, h6, h7⟩ := h; exact h4.rm
theorem Sev.r5 {W : World} {lo hi : Nat} {X : Nat → Prop} {a1 a2 a3 a4 a5 a6 a7 : Option Addr} {ls : List Lk.R} {tw : List Tu.R} {se : List Tu.R} {du : List Tu.R} {ss : List So.R} {es : List Tu.R} {la : List Ed.R} (h : Sev W lo hi X a1 a2 a3 a4 a5 a6 a7 ls tw se du ss es la) : So.RM W a5 ss := by obtain ⟨p1, q1, p2, q2, p3, q3, p4, q4, p5, q5, p6, q6, p7, q7, ⟨⟨u1, v1, w1⟩, ⟨u2, v2, w2⟩, ⟨u3, v3, w3⟩, ⟨u4, v4, w4⟩, ⟨u5, v5, w5⟩, ⟨u6, v6, w6⟩, ⟨u7, v7, w7⟩⟩, ⟨d12, d13, d14, d15, d16, d17, d23, d24, d25, d26, d27, d34, d35, d36, d37, d45, d46, d47, d56, d57, d67⟩, ⟨xx1, xx2, xx3, xx4, xx5, xx6, xx7⟩, h1, h2, h3, h4, h5, h6, h7⟩ := h; exact h5.rm
theorem Sev.r6 {W : World} {lo hi : Nat} {X : Nat → Prop} {a1 a2 a3 a4 a5 a6 a7 : Option Addr} {ls : List Lk.R} {tw : List Tu.R} {se : List Tu.R} {du : List Tu.R} {ss : List So.R} {es : List Tu.R} {la : List Ed.R} (h : Sev W lo hi X a1 a2 a3 a4 a5 a6 a7 ls tw se du ss es la) : Tu.RM W a6 es := by obtain ⟨p1, q1, p2, q2, p3, q3, p4, q4, p5, q5, p6, q6, p7, q7, ⟨⟨u1, v1, w1⟩, ⟨u2, v2, w2⟩, ⟨u3, v3, w3⟩, ⟨u4, v4, w4⟩, ⟨u5, v5, w5⟩, ⟨u6, v6, w6⟩, ⟨u7, v7, w7⟩⟩, ⟨d12, d13, d14, d15, d16, d17, d23, d24, d25, d26, d27, d34, d35, d36, d37, d45, d46, d47, d56, d57, d67⟩, ⟨xx1, xx2, xx3, xx4, xx5, xx6, xx7⟩, h1, h2, h3, h4, h5, h6, h7⟩ := h; exact h6.rm
theorem Sev.r7 {W : World} {lo hi : Nat} {X : Nat → Prop} {a1 a2 a3 a4 a5 a6 a7 : Option Addr} {ls : List Lk.R} {tw : List Tu.R} {se : List Tu.R} {du : List Tu.R} {ss : List So.R} {es : List Tu.R} {la : List Ed.R} (h : Sev W lo hi X a1 a2 a3 a4 a5 a6 a7 ls tw se du ss es la) : Ed.RM W a7 la := by obtain ⟨p1, q1, p2, q2, p3, q3, p4, q4, p5, q5, p6, q6, p7, q7, ⟨⟨u1, v1, w1⟩, ⟨u2, v2, w2⟩, ⟨u3, v3, w3⟩, ⟨u4, v4, w4⟩, ⟨u5, v5, w5⟩, ⟨u6, v6, w6⟩, ⟨u7, v7, w7⟩⟩, ⟨d12, d13, d14, d15, d16, d17, d23, d24, d25, d26, d27, d34, d35, d36, d37, d45, d46, d47, d56, d57, d67⟩, ⟨xx1, xx2, xx3, xx4, xx5, xx6, xx7⟩, h1, h2, h3, h4, h5, h6, h7⟩ := h; exact h7.rm
end Rt
end Go.Proofs.Ytpmlpojefelbbaa
namespace Go.Proofs.Ytpmlpojefelbbaa
open Go.ChangeShapes Go.WideShapes Go.ChangeAt Go.RowKit
set_option linter.unusedVariables false
set_option linter.unusedSimpArgs false
attribute [local go_sem ↓] Go.wp_at_zero Go.wp_at_succ
namespace Ln
open W1 Lk
end Ln
end Go.Proofs.Ytpmlpojefelbbaa
namespace Go.Proofs.Ytpmlpojefelbbaa
open Go.ChangeShapes Go.WideShapes Go.ChangeAt Go.RowKit
set_option linter.unusedVariables false
set_option linter.unusedSimpArgs false
set_option maxRecDepth 100000
attribute [local go_sem ↓] Go.wp_at_zero Go.wp_at_succ
namespace Tp
open W1 Tu St Tw
end Tp
end Go.Proofs.Ytpmlpojefelbbaa
namespace Go.Proofs.Ytpmlpojefelbbaa
open Go.ChangeShapes Go.WideShapes Go.ChangeAt Go.RowKit
set_option linter.unusedVariables false
set_option linter.unusedSimpArgs false
set_option maxRecDepth 100000
attribute [local go_sem ↓] Go.wp_at_zero Go.wp_at_succ
namespace Tp
open W1 Tu St Tw
/-- A topology that can be read: both lists lie somewhere. -/
def RdT (w : World) (v : Value) (S : List So.R) (E : List R) : Prop := ∃ g o c h p d, v = .agg #[.slice (some ⟨g, o, none⟩) S.length c, .slice (some ⟨h, p, none⟩) E.length d] ∧ S.length ≤ c ∧ So.RM w (some ⟨g, o, none⟩) S ∧ Tu.RM w (some ⟨h, p, none⟩) E
theorem RdT.below {w w' : World} {v : Value} {S : List So.R} {E : List R} (h : RdT w v S E) (hb : Below w.heap.size w w') : RdT w' v S E := by
  obtain ⟨g, o, c, h, p, d, rfl, h1, h2, h3⟩ := h
  exact ⟨g, o, c, h, p, d, rfl, h1, h2.below hb, h3.below hb⟩
/-- A topology in memory of its own, that lies somewhere. -/
def OwT (w : World) (v : Value) (S : List So.R) (E : List R) (lo hi : Nat) : Prop := ∃ g c h d mid, v = .agg #[.slice (some ⟨g, 0, none⟩) S.length c, .slice (some ⟨h, 0, none⟩) E.length d] ∧ S.length ≤ c ∧ So.Lst w (some ⟨g, 0, none⟩) S lo mid ∧ Tu.Lst w (some ⟨h, 0, none⟩) E mid hi ∧ lo ≤ mid ∧ mid ≤ hi
theorem OwT.rd {w : World} {v : Value} {S : List So.R} {E : List R} {lo hi : Nat} (h : OwT w v S E lo hi) : RdT w v S E := by
  obtain ⟨g, c, h, d, mid, rfl, h1, h2, h3, _⟩ := h
  exact ⟨g, 0, c, h, 0, d, rfl, h1, h2.rm, h3.rm⟩
theorem OwT.below {w w' : World} {v : Value} {S : List So.R} {E : List R} {lo hi : Nat} (h : OwT w v S E lo hi) (hb : Below w.heap.size w w') : OwT w' v S E lo hi := by
  obtain ⟨g, c, h, d, mid, rfl, h1, h2, h3, h4⟩ := h
  exact ⟨g, c, h, d, mid, rfl, h1, h2.below hb, h3.below hb, h4⟩
theorem OwT.mono {w : World} {v : Value} {S : List So.R} {E : List R} {lo hi lo' hi' : Nat} (h : OwT w v S E lo hi) (h1 : lo' ≤ lo) (h2 : hi ≤ hi') : OwT w v S E lo' hi' := by
  obtain ⟨g, c, h, d, mid, rfl, q1, q2, q3, q4⟩ := h
  exact ⟨g, c, h, d, mid, rfl, q1, q2.mono h1 (Nat.le_refl _), q3.mono (Nat.le_refl _) h2, by omega⟩
end Tp
end Go.Proofs.Ytpmlpojefelbbaa
namespace Go.Proofs.Ytpmlpojefelbbaa
open Go.ChangeShapes Go.WideShapes Go.ChangeAt Go.RowKit
set_option linter.unusedVariables false
set_option linter.unusedSimpArgs false
set_option maxRecDepth 100000
attribute [local go_sem ↓] Go.wp_at_zero Go.wp_at_succ
namespace Rt
open W1
end Rt
end Go.Proofs.Ytpmlpojefelbbaa
namespace Go.Proofs.Ytpmlpojefelbbaa
open Go.ChangeShapes Go.WideShapes Go.ChangeAt Go.RowKit
set_option linter.unusedVariables false
set_option linter.unusedSimpArgs false
set_option maxRecDepth 100000
attribute [local go_sem ↓] Go.wp_at_zero Go.wp_at_succ
namespace Nt
open W1 Rt
/-- A net that lies between two bounds, and reads as these. -/
def RT (W : World) (lo hi : Nat) (a b d : Option Addr) (ms : List Rm) (qs : List Pl) (cs : List Int) (fs : List Fm.R) : Prop :=
  (ms = [] ∨ ∃ g, a = some ⟨g, 0, none⟩ ∧ lo ≤ g ∧ g < hi ∧ g < W.heap.size ∧ ∀ i, i < ms.length → W.rangeAt g (i * 13) (cl (ms.getD i Rm.zero) (qs.getD i Pl.zero)) ∧ Ow W lo hi (ms.getD i Rm.zero) (qs.getD i Pl.zero)) ∧ In.Lst W b cs lo hi ∧ Fm.Lst W d fs lo hi
theorem RT.below {W W' : World} {lo hi : Nat} {a b d : Option Addr} {ms : List Rm} {qs : List Pl} {cs : List Int} {fs : List Fm.R} (h : RT W lo hi a b d ms qs cs fs) (hb : Below W.heap.size W W') : RT W' lo hi a b d ms qs cs fs := by
  obtain ⟨h1, h2, h3⟩ := h
  refine ⟨?_, h2.below hb, h3.below hb⟩
  rcases h1 with h1 | ⟨g, rfl, e1, e2, e3, h1⟩
  · exact .inl h1
  · exact .inr ⟨g, rfl, e1, e2, Nat.lt_of_lt_of_le e3 hb.size, fun i hi => ⟨rng_under (h1 i hi).1 hb e3, (h1 i hi).2.below hb⟩⟩
theorem RT.but {W W' : World} {lo hi L H : Nat} {a b d : Option Addr} {ms : List Rm} {qs : List Pl} {cs : List Int} {fs : List Fm.R} (h : RT W lo hi a b d ms qs cs fs) (hs : W.heap.size ≤ W'.heap.size) (hb : ∀ k, k < W.heap.size → (k < L ∨ H ≤ k) → W'.heap[k]? = W.heap[k]?) (hd : hi ≤ L ∨ H ≤ lo) : RT W' lo hi a b d ms qs cs fs := by
  obtain ⟨h1, h2, h3⟩ := h
  refine ⟨?_, h2.but (p := fun k => k < L ∨ H ≤ k) hs (fun k hk h => hb k hk h) (fun k h1 h2 => by omega), h3.but (p := fun k => k < L ∨ H ≤ k) hs (fun k hk h => hb k hk h) (fun k h1 h2 => by omega)⟩
  rcases h1 with h1 | ⟨g, rfl, e1, e2, e3, h1⟩
  · exact .inl h1
  · exact .inr ⟨g, rfl, e1, e2, Nat.lt_of_lt_of_le e3 hs, fun i hi => ⟨rng_blk (h1 i hi).1 (hb g e3 (by omega)), (h1 i hi).2.but hs hb hd⟩⟩
theorem RT.mono {W : World} {lo hi lo' hi' : Nat} {a b d : Option Addr} {ms : List Rm} {qs : List Pl} {cs : List Int} {fs : List Fm.R} (h : RT W lo hi a b d ms qs cs fs) (h1 : lo' ≤ lo) (h2 : hi ≤ hi') : RT W lo' hi' a b d ms qs cs fs := by
  obtain ⟨h3, h4, h5⟩ := h
  refine ⟨?_, h4.mono h1 h2, h5.mono h1 h2⟩
  rcases h3 with h3 | ⟨g, rfl, e1, e2, e3, h3⟩
  · exact .inl h3
  · exact .inr ⟨g, rfl, by omega, by omega, e3, fun i hi => ⟨(h3 i hi).1, (h3 i hi).2.mono h1 h2⟩⟩
theorem RT.nr {W : World} {lo hi : Nat} {a b d : Option Addr} {ms : List Rm} {qs : List Pl} {cs : List Int} {fs : List Fm.R} (h : RT W lo hi a b d ms qs cs fs) : NR W a ms qs := by
  rcases h.1 with h1 | ⟨g, rfl, e1, e2, e3, h1⟩
  · exact .inl h1
  · exact .inr ⟨g, 0, rfl, fun i hi => ⟨by rw [Nat.zero_add]; exact (h1 i hi).1, (h1 i hi).2.rd⟩⟩
theorem RT.ri {W : World} {lo hi : Nat} {a b d : Option Addr} {ms : List Rm} {qs : List Pl} {cs : List Int} {fs : List Fm.R} (h : RT W lo hi a b d ms qs cs fs) : In.RM W b cs := h.2.1.rm
theorem RT.rf {W : World} {lo hi : Nat} {a b d : Option Addr} {ms : List Rm} {qs : List Pl} {cs : List Int} {fs : List Fm.R} (h : RT W lo hi a b d ms qs cs fs) : Fm.RM W d fs := h.2.2.rm
theorem MT.rt {W : World} {lo hi : Nat} {a b d : Option Addr} {ms : List Rm} {qs : List Pl} {cs : List Int} {fs : List Fm.R} (h : MT W lo hi a b d ms qs cs fs) : RT W lo hi a b d ms qs cs fs := by
  obtain ⟨f, p1, q1, p2, q2, p3, q3, e1, e2, e3, e4, e5, e6, h1, h2, h3⟩ := h
  refine ⟨?_, h2.mono e2.1 e2.2, h3.mono e3.1 e3.2⟩
  rcases h1 with h1 | ⟨g, rfl, h1, h2, h3, h4, h5, h6, h7⟩
  · exact .inl (List.eq_nil_of_length_eq_zero h1)
  · exact .inr ⟨g, rfl, by omega, by omega, h3, fun i hi => ⟨h7.1 i hi, (h7.2.2 i hi).mono (by have := h6 i hi; omega) (by have := h6 i hi; omega)⟩⟩
/-- Routers whose lists lie apart from their row. -/
def Sep (W : World) (v : Value) (lo : Nat) (xs : List (Rm × Pl)) : Prop := ∀ i, i < xs.length → ∃ f h, lo ≤ f ∧ f ≤ h ∧ h ≤ W.heap.size ∧ (∀ g, v.ownBlock = some g → g < f ∨ h ≤ g) ∧ Ow W f h (xs.getD i zP).1 (xs.getD i zP).2
theorem Sep.step {W W1 W2 W3 : World} {v v' : Value} {lo n base : Nat} {xs : List (Rm × Pl)} {ys : List Value} {m : Rm} {q : Pl} (h : Sep W v lo xs) (hlo : lo ≤ W.heap.size) (hv : ∀ g, v.ownBlock = some g → g < W.heap.size) (b1 : Below W.heap.size W W1) (ho : Ow W1 W.heap.size W1.heap.size m q) (b2 : Below W1.heap.size W1 W2) (hg : W2.grownBy W3 v.ownBlock) (hl : v'.ownBlock = v.ownBlock ∨ v'.ownBlock = some W2.heap.size) : Sep W3 v' lo (xs ++ [(m, q)]) := by
  have keep : ∀ f h m q, f ≤ h → h ≤ W2.heap.size → (∀ g, v.ownBlock = some g → g < f ∨ h ≤ g) → Ow W2 f h m q → (∀ g, v'.ownBlock = some g → g < f ∨ h ≤ g) ∧ Ow W3 f h m q := fun f h m q e1 e2 e3 e4 => by
    refine ⟨fun g e => ?_, ?_⟩
    · rcases hl with hl | hl
      · rw [hl] at e; exact e3 g e
      · rw [hl] at e; cases e; exact .inr e2
    · cases hw : v.ownBlock with
      | none => exact e4.but (Lo := 0) (Hi := 0) hg.size (fun k hk _ => hg.block k hk (by rw [hw]; simp)) (.inr (Nat.zero_le _))
      | some g => exact e4.but (Lo := g) (Hi := g + 1) hg.size (fun k hk h => hg.block k hk (by rw [hw]; intro e; cases e; omega)) (by have := e3 g hw; omega)
  intro i hi
  rw [List.length_append] at hi
  by_cases e : i < xs.length
  · obtain ⟨f, h, e1, e2, e3, e4, e5⟩ := h i e
    rw [getD_snoc_lt _ _ _ e]
    obtain ⟨k1, k2⟩ := keep f h _ _ e2 (by have := b1.size; have := b2.size; omega) e4 ((e5.below b1).below b2)
    exact ⟨f, h, e1, e2, by have := b1.size; have := b2.size; have := hg.size; omega, k1, k2⟩
  · rw [getD_snoc_eq _ _ _ (by simp at hi; omega)]
    obtain ⟨k1, k2⟩ := keep W.heap.size W1.heap.size m q b1.size b2.size (fun g e => .inl (hv g e)) (ho.below b2)
    exact ⟨W.heap.size, W1.heap.size, hlo, b1.size, by have := b2.size; have := hg.size; omega, k1, k2⟩
theorem Sep.but {W W' : World} {v : Value} {lo L H : Nat} {xs : List (Rm × Pl)} (h : Sep W v lo xs) (hs : W.heap.size ≤ W'.heap.size) (hb : ∀ k, k < W.heap.size → (k < L ∨ H ≤ k) → W'.heap[k]? = W.heap[k]?) (hd : H ≤ lo) : Sep W' v lo xs := fun i hi => by
  obtain ⟨f, k, e1, e2, e3, e4, e5⟩ := h i hi
  exact ⟨f, k, e1, e2, Nat.le_trans e3 hs, e4, e5.but hs hb (.inr (by omega))⟩
theorem Sep.below {W W' : World} {v : Value} {lo : Nat} {xs : List (Rm × Pl)} (h : Sep W v lo xs) (hb : Below W.heap.size W W') : Sep W' v lo xs := fun i hi => by
  obtain ⟨f, k, e1, e2, e3, e4, e5⟩ := h i hi
  exact ⟨f, k, e1, e2, Nat.le_trans e3 hb.size, e4, e5.below hb⟩
theorem ownN_bel {w w' : World} {base e k : Nat} {v : Value} {n : Nat} {xs : List Value} (h : w.ownsRow base e k v n xs) (hb : Below w.heap.size w w') : w'.ownsRow base e k v n xs := by
  refine h.kept (row := none) ⟨hb.os, hb.tape, hb.output, hb.size, fun k hk _ => hb.block k hk⟩ ?_
  cases v.ownBlock
  · exact .inl rfl
  · exact .inr (by simp)
/-- Integers and frames of one's own, wherever they come from. -/
theorem apOI {ops : Array Oper} {rest : List Oper} {o : Oper} {a : Act} {Q : Exit → Act → World → Prop} {w : World} {base : Nat} {v : Value} {xs : List Int} (hown : w.ownsRow base 3 1 v xs.length (In.flat xs)) (a0 : Option Addr) (c : Nat) (ms : List Int) (hr : In.RM w a0 ms) (hlen : xs.length + ms.length ≤ 4194304) (hbase : base ≤ w.heap.size)
    (hgd : o.guard = none) (s x : Operand) (ho : o.op = .call { callee := .builtin .append, args := #[s, x], argTypes := #[22, 22] }) (hs : a.eval s = v) (hx : a.eval x = .slice a0 ms.length c)
    (h : ∀ v' w', w'.ownsRow base 3 1 v' (xs ++ ms).length (In.flat (xs ++ ms)) → w.grownBy w' v.ownBlock → wpList Try.prog ops Q rest (a.put o.dst v') w') : wpList Try.prog ops Q (o :: rest) a w := by
  rcases hr with e0 | ⟨g, off, rfl, hcc⟩
  · subst e0
    obtain ⟨i0, hi, _⟩ := In.infoI
    exact wpList_append_none hgd s x _ ho base 3 i0 1 Try.underlying22 hi v _ _ hs hown a0 c hx (h v w (by rw [List.append_nil]; exact hown) (gb_reflC _ _))
  · exact In.wpList_apS hown g off ms.length c ms rfl (.inr ⟨g, off, rfl, hcc⟩) hlen hbase hgd s x ho hs hx h
end Nt
end Go.Proofs.Ytpmlpojefelbbaa
namespace Go.Proofs.Ytpmlpojefelbbaa
open Go.ChangeShapes Go.WideShapes Go.ChangeAt Go.RowKit
set_option linter.unusedVariables false
set_option linter.unusedSimpArgs false
set_option maxRecDepth 100000
attribute [local go_sem ↓] Go.wp_at_zero Go.wp_at_succ
namespace Nt
open W1 Rt
set_option maxHeartbeats 8000000 in
theorem markNt (a b d : Option Addr) (ca cb cd : Nat) (t : Int) (K : Int) (lo hi : Nat) (ms : List Rm) (qs : List Pl) (cs : List Int) (fs : List Fm.R) (w : World) (hm : ms.length ≤ 1048576) (hc : cs.length ≤ 1048576) (hf : fs.length ≤ 1048576) (hK : 0 ≤ K) (hK1 : K + totK ms cs fs ≤ 99999990) (hs : ∀ i, i < ms.length → Sm (ms.getD i Rm.zero)) (hlo : lo ≤ w.heap.size) (hhi : hi ≤ w.heap.size) (h : MT w lo hi a b d ms qs cs fs) :
    Calls Try.prog 11 #[.agg #[.slice a ms.length ca, .slice b cs.length cb, .slice d fs.length cd, .int .i64 t], .int .i64 K] w fun e w' => e = .returned (.int .i64 (K + totK ms cs fs)) ∧ w.heap.size ≤ w'.heap.size ∧ Below lo w w' ∧ MM w' a b d K ms qs cs fs lo hi ∧ ∀ k, k < w.heap.size → (k < lo ∨ hi ≤ k) → w'.heap[k]? = w.heap[k]? := by
  have b0 := bel_new w (.cells #[.slice a ms.length ca, .slice b cs.length cb, .slice d fs.length cd, .int .i64 t] 26)
  have HX0 := hide (nb_new w (.slice a ms.length ca) (.slice b cs.length cb) (.slice d fs.length cd) t 26)
  have HB0 := hide b0
  obtain ⟨f, p1, q1, p2, q2, p3, q3, e1, e2, e3, e4, e5, e6, h1, h2, h3⟩ := h.below b0
  have HL1 := hide h1
  have HL2 := hide h2
  have HL3 := hide h3
  have hz0 : (w.alloc (.cells #[.slice a ms.length ca, .slice b cs.length cb, .slice d fs.length cd, .int .i64 t] 26)).heap.size = w.heap.size + 1 := by simp
  obtain ⟨r, hr⟩ : ∃ r, K + sumK ms ms.length = r := ⟨_, rfl⟩
  have hsp := sumK_pos ms ms.length
  have hr0 : 0 ≤ r := by omega
  have hr1 : r + cs.length + 4 * fs.length ≤ 99999990 := by unfold totK at hK1; omega
  have HTK : Hid (r + (cs.length : Int) + 4 * (fs.length : Int) = K + totK ms cs fs) := hide (by unfold totK; omega)
  have C1 := hide (fun W h => markNF a ca p1 q1 ms.length f K ms (fun i => qs.getD i Pl.zero) W rfl hm hK (by omega) hs h)
  have C2 := hide (fun W h => In.markF b cb p2 q2 r cs W hr0 (by omega) hc h)
  have C3 := hide (fun W h => Fm.mkFF d cd p3 q3 (r + (cs.length : Int)) fs W (by omega) (by omega) hf h)
  rw [hr] at C1
  have HR := hide hr
  clear h h1 h2 h3 b0 hK1 hs hsp hr
  go_enter Try.func11, Try.ntmps11
  obtain ⟨x0, x1, x2, x3⟩ := unhide HX0
  go_wp2_with fail
  clear x0 x1 x2 x3
  generalize w.alloc (.cells #[.slice a ms.length ca, .slice b cs.length cb, .slice d fs.length cd, .int .i64 t] 26) = w0 at *
  refine (unhide C1 _ (unhide HL1)).mono ?_
  rintro e w1 ⟨rfl, z1, b1, l1, k1⟩
  have HX1 := hide ((unhide HX0).but (k1 w.heap.size (by omega) (.inr (by omega))))
  have HL1' := hide l1
  have HL2' := hide ((unhide HL2).but (p := fun k => k < p1 ∨ q1 ≤ k) z1 (fun k hk h => k1 k hk h) (fun k h1 h2 => by omega))
  have HL3' := hide ((unhide HL3).but (p := fun k => k < p1 ∨ q1 ≤ k) z1 (fun k hk h => k1 k hk h) (fun k h1 h2 => by omega))
  have HB1 := hide (((unhide HB0).mono hlo).trans (b1.mono (by omega)))
  have HO1 : Hid (∀ k, k < w.heap.size → (k < lo ∨ hi ≤ k) → w1.heap[k]? = w.heap[k]?) := hide (fun k hk h => (k1 k (by omega) (by omega)).trans ((unhide HB0).block k hk))
  clear b1 l1 k1 HL1 HL2 HL3 HX0 HB0 C1
  obtain ⟨x0, x1, x2, x3⟩ := unhide HX1
  go_wp2_with fail
  clear x0 x1 x2 x3
  refine (unhide C2 _ (unhide HL2')).mono ?_
  rintro e w2 ⟨rfl, z2, b2, l2, k2⟩
  have HX2 := hide ((unhide HX1).but (k2 w.heap.size (by omega) (.inr (by omega))))
  have HL1 := hide ((unhide HL1').but z2 k2 (by omega))
  have HL2 := hide l2
  have HL3 := hide ((unhide HL3').but (p := fun k => k < p2 ∨ q2 ≤ k) z2 (fun k hk h => k2 k hk h) (fun k h1 h2 => by omega))
  have HB2 := hide ((unhide HB1).trans (b2.mono (by omega)))
  have HO2 : Hid (∀ k, k < w.heap.size → (k < lo ∨ hi ≤ k) → w2.heap[k]? = w.heap[k]?) := hide (fun k hk h => (k2 k (by omega) (by omega)).trans (unhide HO1 k hk h))
  clear b2 l2 k2 HL1' HL2' HL3' HX1 HB1 HO1 C2
  obtain ⟨x0, x1, x2, x3⟩ := unhide HX2
  go_wp2_with fail
  clear x0 x1 x2 x3
  refine (unhide C3 _ (unhide HL3)).mono ?_
  rintro e w3 ⟨rfl, z3, b3, l3, k3⟩
  have HL1' := hide ((unhide HL1).but z3 k3 (by omega))
  have HL2' := hide ((unhide HL2).but (p := fun k => k < p3 ∨ q3 ≤ k) z3 (fun k hk h => k3 k hk h) (fun k h1 h2 => by omega))
  have HL3' := hide l3
  have HB3 := hide ((unhide HB2).trans (b3.mono (by omega)))
  have HO3 : Hid (∀ k, k < w.heap.size → (k < lo ∨ hi ≤ k) → w3.heap[k]? = w.heap[k]?) := hide (fun k hk h => (k3 k (by omega) (by omega)).trans (unhide HO2 k hk h))
  clear b3 l3 k3 HL1 HL2 HL3 HX2 HB2 HO2 C3
  go_wp2_with fail
  go_ret
  refine ⟨by rw [unhide HTK]; rfl, by omega, unhide HB3, ⟨f, p1, q1, p2, q2, p3, q3, ⟨e1, e2, e3⟩, unhide HL1', by rw [unhide HR]; exact unhide HL2', by rw [unhide HR]; exact unhide HL3'⟩, unhide HO3⟩
end Nt
end Go.Proofs.Ytpmlpojefelbbaa
namespace Go.Proofs.Ytpmlpojefelbbaa
open Go.ChangeShapes Go.WideShapes Go.ChangeAt Go.RowKit
set_option linter.unusedVariables false
set_option linter.unusedSimpArgs false
attribute [local go_sem ↓] Go.wp_at_zero Go.wp_at_succ
namespace Ln
open W1 Lk
end Ln
end Go.Proofs.Ytpmlpojefelbbaa
namespace Go.Proofs.Ytpmlpojefelbbaa
set_option linter.unusedVariables false
set_option linter.unusedSimpArgs false
namespace Gr
open W1 Tu St Tw
end Gr
end Go.Proofs.Ytpmlpojefelbbaa
namespace Go.Proofs.Ytpmlpojefelbbaa
open Go.ChangeShapes Go.WideShapes Go.ChangeAt Go.RowKit
set_option linter.unusedVariables false
set_option linter.unusedSimpArgs false
attribute [local go_sem ↓] Go.wp_at_zero Go.wp_at_succ
namespace Ln
open W1 Lk
end Ln
end Go.Proofs.Ytpmlpojefelbbaa
namespace Go.Proofs.Ytpmlpojefelbbaa
open Go.ChangeShapes Go.WideShapes Go.ChangeAt Go.RowKit
set_option linter.unusedVariables false
set_option linter.unusedSimpArgs false
attribute [local go_sem ↓] Go.wp_at_zero Go.wp_at_succ
namespace St
open W1 Tu
end St
end Go.Proofs.Ytpmlpojefelbbaa
namespace Go.Proofs.Ytpmlpojefelbbaa
open Go.ChangeShapes Go.WideShapes Go.ChangeAt Go.RowKit
set_option linter.unusedVariables false
set_option linter.unusedSimpArgs false
attribute [local go_sem ↓] Go.wp_at_zero Go.wp_at_succ
namespace St
open W1 Tu
end St
end Go.Proofs.Ytpmlpojefelbbaa
namespace Go.Proofs.Ytpmlpojefelbbaa
open Go.ChangeShapes Go.WideShapes Go.ChangeAt Go.RowKit
set_option linter.unusedVariables false
set_option linter.unusedSimpArgs false
attribute [local go_sem ↓] Go.wp_at_zero Go.wp_at_succ
namespace St
open W1 Tu
end St
end Go.Proofs.Ytpmlpojefelbbaa
namespace Go.Proofs.Ytpmlpojefelbbaa
open Go.ChangeShapes Go.WideShapes Go.ChangeAt Go.RowKit
set_option linter.unusedVariables false
set_option linter.unusedSimpArgs false
attribute [local go_sem ↓] Go.wp_at_zero Go.wp_at_succ
namespace St
open W1 Tu
theorem Upto.set {w : World} {g n p : Nat} {ms : List R} (x : R) (h : Upto w g n n ms) (hn : n = ms.length) (hp : p < n) : Upto (put w g (p * 3) x) g n n (ms.set p x) := by
  refine ⟨fun i hi => ?_, fun i hi => ⟨put_some _ _ _ _ _ _ (h.2 i hi).1, by rw [put_frozen]; exact (h.2 i hi).2⟩⟩
  by_cases e : i = p
  · subst e
    have : (ms.set i x).getD i R.zero = x := by rw [List.getD_eq_getElem?_getD, List.getElem?_set_self (by omega)]; rfl
    rw [this]
    exact put_at _ _ _ _ (fun k hk => (h.2 _ (by omega)).1)
  · have : (ms.set p x).getD i R.zero = ms.getD i R.zero := by rw [List.getD_eq_getElem?_getD, List.getD_eq_getElem?_getD, List.getElem?_set_ne (by omega)]
    rw [this]
    obtain ⟨h0, h1, h2⟩ := h.1 i (by omega)
    exact ⟨(put_far _ _ _ _ (by omega)).trans h0, (put_far _ _ _ _ (by omega)).trans h1, (put_far _ _ _ _ (by omega)).trans h2⟩
end St
end Go.Proofs.Ytpmlpojefelbbaa
namespace Go.Proofs.Ytpmlpojefelbbaa
open Go.ChangeShapes Go.WideShapes Go.ChangeAt Go.RowKit
set_option linter.unusedVariables false
set_option linter.unusedSimpArgs false
attribute [local go_sem ↓] Go.wp_at_zero Go.wp_at_succ
namespace St
open W1 Tu
end St
end Go.Proofs.Ytpmlpojefelbbaa
namespace Go.Proofs.Ytpmlpojefelbbaa
open Go.ChangeShapes Go.WideShapes Go.ChangeAt Go.RowKit
set_option linter.unusedVariables false
set_option linter.unusedSimpArgs false
set_option maxRecDepth 100000
attribute [local go_sem ↓] Go.wp_at_zero Go.wp_at_succ
namespace Gr
open W1 Tu St Tw
/-- A slice that lies somewhere. -/
def Fm (v : Value) (n : Nat) : Prop := ∃ g c, v = .slice (some ⟨g, 0, none⟩) n c
theorem lstV_nil (W : World) (a : Option Addr) (c lo hi : Nat) : LstV W (.slice a 0 c) [] lo hi := ⟨a, c, rfl, .inl rfl⟩
end Gr
end Go.Proofs.Ytpmlpojefelbbaa
namespace Go.Proofs.Ytpmlpojefelbbaa
open Go.ChangeShapes Go.WideShapes Go.ChangeAt Go.RowKit
set_option linter.unusedVariables false
set_option linter.unusedSimpArgs false
attribute [local go_sem ↓] Go.wp_at_zero Go.wp_at_succ
namespace Ln
open W1 Lk
/-- A link in a variable's block. -/
def Bx (w : World) (b : Nat) (m : R) : Prop := w.cell? ⟨b, 0, none⟩ = some (.int .i64 m.ad) ∧ w.cell? ⟨b, 1, none⟩ = some (.int .i64 m.hd) ∧ w.cell? ⟨b, 2, none⟩ = some (.int .i64 m.sy) ∧ w.cell? ⟨b, 3, none⟩ = some (.int .i64 m.ci) ∧ w.cell? ⟨b, 4, none⟩ = some (.int .i64 m.co) ∧ w.cell? ⟨b, 5, none⟩ = some (.int .i64 m.wl)
theorem Bx.below {w w' : World} {b : Nat} {m : R} (h : Bx w b m) (hb : Below w.heap.size w w') : Bx w' b m := by
  have hg : b < w.heap.size := World.block_lt_of_cell? _ _ h.1
  obtain ⟨h0, h1, h2, h3, h4, h5⟩ := h
  refine ⟨?_, ?_, ?_, ?_, ?_, ?_⟩ <;> (rw [hb.cell hg]; assumption)
theorem Bx.lt {w : World} {b : Nat} {m : R} (h : Bx w b m) : b < w.heap.size := World.block_lt_of_cell? _ _ h.1
theorem Bx.drew {w : World} {b : Nat} {m : R} (h : Bx w b m) : Bx w.drew b m := h
end Ln
end Go.Proofs.Ytpmlpojefelbbaa
namespace Go.Proofs.Ytpmlpojefelbbaa
open Go.ChangeShapes Go.WideShapes Go.ChangeAt Go.RowKit
set_option linter.unusedVariables false
namespace Mtr
open W1
def met (c : Nat) : Int := (257 + (c % 256 : Nat)) * 2 ^ (c / 256) - 256
/-- The least code whose metric is n or more. -/
def mcode (n : Int) : Nat := cnt met 4096 n
end Mtr
end Go.Proofs.Ytpmlpojefelbbaa
namespace Go.Proofs.Ytpmlpojefelbbaa
open Go.ChangeShapes Go.WideShapes Go.ChangeAt Go.RowKit
set_option linter.unusedVariables false
namespace Tim
open W1
end Tim
end Go.Proofs.Ytpmlpojefelbbaa
namespace Go.Proofs.Ytpmlpojefelbbaa
open Go.ChangeShapes Go.WideShapes Go.ChangeAt Go.RowKit
set_option linter.unusedVariables false
set_option linter.unusedSimpArgs false
attribute [local go_sem ↓] Go.wp_at_zero Go.wp_at_succ
namespace Av
open W1 Ed
/-- A metric that has a code of its own. -/
def exM (n : Int) : Bool := Mtr.met (Mtr.mcode n) == n
def toldB (n : Int) : Bool := inB n 1 16744192 && exM n
def okN (m : R) : Bool := inB m.ad 1 8 && toldB m.mt
end Av
end Go.Proofs.Ytpmlpojefelbbaa
namespace Go.Proofs.Ytpmlpojefelbbaa
open Go.ChangeShapes Go.WideShapes Go.ChangeAt Go.RowKit
set_option linter.unusedVariables false
set_option linter.unusedSimpArgs false
attribute [local go_sem ↓] Go.wp_at_zero Go.wp_at_succ
namespace Av
open W1 Ed
/-- An edge in a variable's block. -/
def Bx (w : World) (b : Nat) (m : R) : Prop := w.cell? ⟨b, 0, none⟩ = some (.int .i64 m.ad) ∧ w.cell? ⟨b, 1, none⟩ = some (.int .i64 m.mt)
theorem Bx.below {w w' : World} {b : Nat} {m : R} (h : Bx w b m) (hb : Below w.heap.size w w') : Bx w' b m := by
  have hg : b < w.heap.size := World.block_lt_of_cell? _ _ h.1
  obtain ⟨h0, h1⟩ := h
  refine ⟨?_, ?_⟩ <;> (rw [hb.cell hg]; assumption)
theorem Bx.drew {w : World} {b : Nat} {m : R} (h : Bx w b m) : Bx w.drew b m := h
end Av
end Go.Proofs.Ytpmlpojefelbbaa
namespace Go.Proofs.Ytpmlpojefelbbaa
open Go.ChangeShapes Go.WideShapes Go.ChangeAt Go.RowKit
set_option linter.unusedVariables false
set_option linter.unusedSimpArgs false
set_option maxRecDepth 100000
attribute [local go_sem ↓] Go.wp_at_zero Go.wp_at_succ
namespace Rt
open W1
end Rt
end Go.Proofs.Ytpmlpojefelbbaa
namespace Go.Proofs.Ytpmlpojefelbbaa
open Go.ChangeShapes Go.WideShapes Go.ChangeAt Go.RowKit
set_option linter.unusedVariables false
set_option linter.unusedSimpArgs false
set_option maxRecDepth 100000
attribute [local go_sem ↓] Go.wp_at_zero Go.wp_at_succ
namespace Nt
open W1 Rt
/-- All places below n. -/
def allI (n : Nat) (p : Nat → Bool) : Bool := (List.range n).all p
theorem allI_no {n : Nat} {p : Nat → Bool} {j : Nat} (h : j < n) (hp : p j = false) : allI n p = false := by
  unfold allI
  rw [List.all_eq_false]
  exact ⟨j, List.mem_range.2 h, by rw [hp]; simp⟩
theorem allI_yes {n : Nat} {p : Nat → Bool} (h : ∀ i, i < n → p i = true) : allI n p = true := by
  unfold allI
  rw [List.all_eq_true]
  exact fun i hi => h i (List.mem_range.1 hi)
theorem up_to {p : Nat → Bool} {j : Nat} (h : ∀ i, i < j → p i = true) (hj : p j = true) : ∀ i, i < j + 1 → p i = true := fun i hi => by
  by_cases e : i = j
  · subst e; exact hj
  · exact h i (by omega)
/-- A cost at a place of n routers' rows. -/
def cok (cs : List Int) (n i : Nat) : Bool := inB (cs.getD i 0) 0 256 && (!(decide (i / n = i % n)) || cs.getD i 0 == 0)
def costB (cs : List Int) (n : Nat) : Bool := cs.length == n * n && allI cs.length (cok cs n)
theorem diag {n i : Nat} (h1 : 1 ≤ n) (h6 : n ≤ 6) (hi : i < n * n) : (i % (n + 1) = 0) ↔ (i / n = i % n) := by
  have key : ∀ n, n < 7 → 1 ≤ n → ∀ i, i < 36 → i < n * n → ((i % (n + 1) = 0) ↔ (i / n = i % n)) := by decide +kernel
  exact key n (by omega) h1 i (Nat.lt_of_lt_of_le hi (Nat.mul_le_mul h6 h6)) hi
end Nt
end Go.Proofs.Ytpmlpojefelbbaa
namespace Go.Proofs.Ytpmlpojefelbbaa
open Go.ChangeShapes Go.WideShapes Go.ChangeAt Go.RowKit
set_option linter.unusedVariables false
set_option linter.unusedSimpArgs false
set_option maxRecDepth 100000
attribute [local go_sem ↓] Go.wp_at_zero Go.wp_at_succ
namespace Nt
open W1 Rt
theorem belN (w : World) (n : Nat) : Below w.heap.size w (w.drewN n) := by
  have h := Below.refl w.heap.size w
  exact ⟨h.os, h.tape, h.output, h.size, h.block⟩
theorem isCost (x : Int) (w : World) : Calls Try.prog 32 #[.int .i64 x] w fun e w' => e = .returned (.bool (inB x 0 256)) ∧ w' = w := by
  go_enter Try.func32, Try.ntmps32
  go_wp2_with (go_at_call 18; refine (within _ _ _ _).mono ?_; rintro e w_ ⟨rfl, rfl⟩)
  go_ret
  exact ⟨rfl, rfl⟩
set_option maxHeartbeats 8000000 in
theorem l13Costs (a : Option Addr) (cs : List Int) (cap n : Nat) (w : World) (hm : cs.length ≤ 1048576) (h1 : 1 ≤ n) (h6 : n ≤ 6) (hr : In.RM w a cs) :
    Calls Try.prog 16 #[.slice a cs.length cap, .int .i64 n] w fun e w' => e = .returned (.bool (costB cs n)) ∧ Below w.heap.size w w' := by
  have HR := hide hr
  clear hr
  have E : Hid (costB cs n = (cs.length == n * n && allI cs.length (cok cs n))) := hide rfl
  obtain ⟨N2, hN2⟩ : ∃ N2 : Nat, n * n = N2 := ⟨_, rfl⟩
  have hmul : (n : Int) * (n : Int) = (N2 : Int) := by rw [← hN2]; simp
  have hle : N2 ≤ 36 := by rw [← hN2]; exact Nat.mul_le_mul h6 h6
  rw [hN2] at E
  clear hN2
  obtain ⟨C, hC⟩ : ∃ C, cs.length = C := ⟨_, rfl⟩
  rw [hC] at hm E ⊢
  have HC := hide hC
  clear hC
  have hn1 : (1 : Int) ≤ (n : Int) := by omega
  have hn6 : (n : Int) ≤ 6 := by omega
  have hn0 : ¬ (n : Int) = 0 := by omega
  go_enter Try.func16, Try.ntmps16
  go_wp2
  go_loopw [5] (fun i wr => ∃ j : Nat, j ≤ C ∧ i = .int .i64 j ∧ Hid (∀ i, i < j → cok cs n i = true) ∧ Hid (∃ q, wr = w.drewN q)) (fun i _ => C - (intOf i).toNat)
  case atStart => exact ⟨0, by omega, rfl, hide (fun i hi => absurd hi (Nat.not_lt_zero i)), hide ⟨0, rfl⟩⟩
  case round =>
    obtain ⟨j, hj, rfl, hall, hwd⟩ := hrel
    by_cases hlt : (j : Int) < (C : Int)
    · have k0 : (0 : Int) ≤ (j : Int) := by omega
      have hlen : j < cs.length := by rw [unhide HC]; omega
      have hbl : Below w.heap.size w wr := by obtain ⟨q, rfl⟩ := unhide hwd; exact belN w q
      rcases (unhide HR).below hbl with e0 | ⟨g, off, rfl, hc⟩
      · exfalso; rw [e0] at hlen; simp at hlen
      have c0 := hc j hlen
      have HBL := hide hbl
      clear hc hbl
      have HCK : Hid (cok cs n j = (inB (cs.getD j 0) 0 256 && (!(decide (j / n = j % n)) || cs.getD j 0 == 0))) := hide rfl
      generalize cs.getD j 0 = x at *
      have hq : (j : Int) / (n : Int) = ((j / n : Nat) : Int) := by simp
      have hr : (j : Int) % (n : Int) = ((j % n : Nat) : Int) := by simp
      have hq2 : (j : Int).tdiv (n : Int) = ((j / n : Nat) : Int) := by simp
      have hr2 : (j : Int).tmod (n : Int) = ((j % n : Nat) : Int) := by rw [Int.tmod_eq_emod_of_nonneg (by omega)]; simp
      have HE : Hid ((((j / n : Nat) : Int) == ((j % n : Nat) : Int)) = decide (j / n = j % n)) := hide (by rw [Bool.eq_iff_iff]; simp; omega)
      have hqb : ((j / n : Nat) : Int) ≤ 1048576 := by have := Nat.div_le_self j n; omega
      have hrb : ((j % n : Nat) : Int) ≤ 6 := by have := Nat.mod_lt j (show 0 < n by omega); omega
      generalize j / n = Qn at *
      generalize j % n = Rn at *
      have hn0' : ¬ n = 0 := by omega
      have hwq : IntKind.i64.wrap (Qn : Int) = (Qn : Int) := by rw [IntKind.wrap_i64]; omega
      have hwr : IntKind.i64.wrap (Rn : Int) = (Rn : Int) := by rw [IntKind.wrap_i64]; omega
      have KC := hide (fun W => l01In x 0 256 W)
      have HNO := hide (fun h => allI_no (p := cok cs n) hlen h)
      have HUP := hide (fun h => up_to (p := cok cs n) (unhide hall) h)
      rw [unhide HC] at HNO
      clear hlen
      cases hin : inB x 0 256
      · have EB := hide (unhide HNO (by rw [unhide HCK, hin]; rfl))
        rw [hin] at KC
        clear hin
        go_wp2_with fail
        refine wp_region_noPanic ?_
        refine wp_region_held_drew (S := fun w' => w'.cell? ⟨g, off + j, none⟩ = some (.int .i64 x)) (by kernel_rfl) (c0) (fun hHeld => ?_)
        refine Rg.t 0 12 ?_
        refine Rg.t 1 13 ?_
        refine Rg.t 2 14 ?_
        refine Rg.t 3 15 ?_
        (refine Rg.o 4 (fun K hK => ?_); go_simp)
        refine (unhide KC _).mono ?_
        rintro e w1 ⟨rfl, hw1⟩
        subst hw1
        refine hK.out _ _ (by first | exact c0 | exact hHeld) (fun hHeld => ?_)
        clear hK
        (try simp only [Act.put, List.setIfInBounds_toArray, List.set_cons_zero, List.set_cons_succ])
        refine Rg.t 5 17 ?_
        refine Rg.t 6 18 ?_
        refine Rg.s 7 19 ?_
        refine Rg.s 8 20 ?_
        refine Rg.s 9 21 ?_
        refine Rg.s 10 22 ?_
        refine Rg.s 11 23 ?_
        refine Rg.s 12 24 ?_
        refine Rg.s 13 25 ?_
        refine Rg.s 14 26 ?_
        refine Rg.s 15 27 ?_
        refine Rg.s 16 28 ?_
        refine Rg.s 17 29 ?_
        refine Rg.s 18 30 ?_
        refine Rg.s 19 31 ?_
        refine Rg.s 20 32 ?_
        refine Rg.t 21 33 ?_
        refine wpAnyH_done (by kernel_rfl) (NoPanic.normal ?_) _
        clear hHeld
        go_wp2_with fail
        go_ret
        exact ⟨ret_bool (by rw [unhide E, unhide EB]; simp), (unhide HBL).drew⟩
      rw [hin] at KC
      have HIN := hide hin
      clear hin
      cases hd : ((Qn : Int) == (Rn : Int))
      · have OK := hide (unhide HUP (by rw [unhide HCK, unhide HIN, ← unhide HE, hd]; rfl))
        clear HNO HUP
        go_wp2_with fail
        refine wp_region_noPanic ?_
        refine wp_region_held_drew (S := fun w' => w'.cell? ⟨g, off + j, none⟩ = some (.int .i64 x)) (by kernel_rfl) (c0) (fun hHeld => ?_)
        refine Rg.t 0 12 ?_
        refine Rg.t 1 13 ?_
        refine Rg.t 2 14 ?_
        refine Rg.t 3 15 ?_
        (refine Rg.o 4 (fun K hK => ?_); go_simp)
        refine (unhide KC _).mono ?_
        rintro e w1 ⟨rfl, hw1⟩
        subst hw1
        refine hK.out _ _ (by first | exact c0 | exact hHeld) (fun hHeld => ?_)
        clear hK
        (try simp only [Act.put, List.setIfInBounds_toArray, List.set_cons_zero, List.set_cons_succ])
        refine Rg.t 5 17 ?_
        refine Rg.t 6 18 ?_
        refine Rg.t 7 19 ?_
        refine Rg.t 8 20 ?_
        refine Rg.t 9 21 ?_
        refine Rg.t 10 22 ?_
        refine Rg.t 11 23 ?_
        refine Rg.t 12 24 ?_
        refine Rg.t 13 25 ?_
        refine Rg.t 14 26 ?_
        refine Rg.s 15 27 ?_
        refine Rg.s 16 28 ?_
        refine Rg.s 17 29 ?_
        refine Rg.s 18 30 ?_
        refine Rg.s 19 31 ?_
        refine Rg.t 20 32 ?_
        refine Rg.t 21 33 ?_
        refine wpAnyH_done (by kernel_rfl) (NoPanic.normal ?_) _
        clear hHeld
        go_wp2_with fail
        go_roundw
        case rel => exact ⟨j + 1, by omega, by go_num, OK, hide (by obtain ⟨q, hq⟩ := unhide hwd; exact ⟨q + 1, by rw [hq]; rfl⟩)⟩
        case measure => simp [intOf]; omega
      cases hx : (x != 0)
      · have OK := hide (unhide HUP (by rw [unhide HCK, unhide HIN]; have : (x == 0) = true := (by simpa using hx); rw [this]; simp))
        clear HNO HUP
        go_wp2_with fail
        refine wp_region_noPanic ?_
        refine wp_region_held_drew (S := fun w' => w'.cell? ⟨g, off + j, none⟩ = some (.int .i64 x)) (by kernel_rfl) (c0) (fun hHeld => ?_)
        refine Rg.t 0 12 ?_
        refine Rg.t 1 13 ?_
        refine Rg.t 2 14 ?_
        refine Rg.t 3 15 ?_
        (refine Rg.o 4 (fun K hK => ?_); go_simp)
        refine (unhide KC _).mono ?_
        rintro e w1 ⟨rfl, hw1⟩
        subst hw1
        refine hK.out _ _ (by first | exact c0 | exact hHeld) (fun hHeld => ?_)
        clear hK
        (try simp only [Act.put, List.setIfInBounds_toArray, List.set_cons_zero, List.set_cons_succ])
        refine Rg.t 5 17 ?_
        refine Rg.t 6 18 ?_
        refine Rg.t 7 19 ?_
        refine Rg.t 8 20 ?_
        refine Rg.t 9 21 ?_
        refine Rg.t 10 22 ?_
        refine Rg.t 11 23 ?_
        refine Rg.t 12 24 ?_
        refine Rg.t 13 25 ?_
        refine Rg.t 14 26 ?_
        refine Rg.t 15 27 ?_
        refine Rg.t 16 28 ?_
        refine Rg.t 17 29 ?_
        refine Rg.t 18 30 ?_
        refine Rg.t 19 31 ?_
        refine Rg.t 20 32 ?_
        refine Rg.t 21 33 ?_
        refine wpAnyH_done (by kernel_rfl) (NoPanic.normal ?_) _
        clear hHeld
        go_wp2_with fail
        go_roundw
        case rel => exact ⟨j + 1, by omega, by go_num, OK, hide (by obtain ⟨q, hq⟩ := unhide hwd; exact ⟨q + 1, by rw [hq]; rfl⟩)⟩
        case measure => simp [intOf]; omega
      · have EB := hide (unhide HNO (by rw [unhide HCK, unhide HIN, ← unhide HE, hd]; have : (x == 0) = false := (by simpa using hx); rw [this]; rfl))
        clear HNO HUP
        go_wp2_with fail
        refine wp_region_noPanic ?_
        refine wp_region_held_drew (S := fun w' => w'.cell? ⟨g, off + j, none⟩ = some (.int .i64 x)) (by kernel_rfl) (c0) (fun hHeld => ?_)
        refine Rg.t 0 12 ?_
        refine Rg.t 1 13 ?_
        refine Rg.t 2 14 ?_
        refine Rg.t 3 15 ?_
        (refine Rg.o 4 (fun K hK => ?_); go_simp)
        refine (unhide KC _).mono ?_
        rintro e w1 ⟨rfl, hw1⟩
        subst hw1
        refine hK.out _ _ (by first | exact c0 | exact hHeld) (fun hHeld => ?_)
        clear hK
        (try simp only [Act.put, List.setIfInBounds_toArray, List.set_cons_zero, List.set_cons_succ])
        refine Rg.t 5 17 ?_
        refine Rg.t 6 18 ?_
        refine Rg.t 7 19 ?_
        refine Rg.t 8 20 ?_
        refine Rg.t 9 21 ?_
        refine Rg.t 10 22 ?_
        refine Rg.t 11 23 ?_
        refine Rg.t 12 24 ?_
        refine Rg.t 13 25 ?_
        refine Rg.t 14 26 ?_
        refine Rg.t 15 27 ?_
        refine Rg.t 16 28 ?_
        refine Rg.t 17 29 ?_
        refine Rg.t 18 30 ?_
        refine Rg.t 19 31 ?_
        refine Rg.t 20 32 ?_
        refine Rg.t 21 33 ?_
        refine wpAnyH_done (by kernel_rfl) (NoPanic.normal ?_) _
        clear hHeld
        go_wp2_with fail
        go_ret
        exact ⟨ret_bool (by rw [unhide E, unhide EB]; simp), (unhide HBL).drew⟩
    · obtain rfl : j = C := by omega
      have EA := hide (allI_yes (unhide hall))
      have HBL : Hid (Below w.heap.size w wr) := hide (by obtain ⟨q, rfl⟩ := unhide hwd; exact belN w q)
      have HEE : Hid (((j : Int) == (N2 : Int)) = (j == N2)) := hide (by rw [Bool.eq_iff_iff]; simp; omega)
      go_wp2_with fail
      go_ret
      exact ⟨ret_bool (by rw [unhide E, unhide EA, Bool.and_true]; first | exact unhide HEE | (rw [← unhide HEE]; simp)), unhide HBL⟩
set_option maxHeartbeats 8000000 in
theorem areCosts (a : Option Addr) (cs : List Int) (cap n : Nat) (w : World) (hm : cs.length ≤ 1048576) (h1 : 1 ≤ n) (h6 : n ≤ 6) (hr : In.RM w a cs) :
    Calls Try.prog 19 #[.slice a cs.length cap, .int .i64 n] w fun e w' => e = .returned (.bool (costB cs n)) ∧ Below w.heap.size w w' := by
  have HR := hide hr
  clear hr
  have E : Hid (costB cs n = (cs.length == n * n && allI cs.length (cok cs n))) := hide rfl
  have HDG := hide (fun i (hi : i < n * n) => diag h1 h6 hi)
  obtain ⟨N2, hN2⟩ : ∃ N2 : Nat, n * n = N2 := ⟨_, rfl⟩
  have hmul : (n : Int) * (n : Int) = (N2 : Int) := by rw [← hN2]; simp
  have hle : N2 ≤ 36 := by rw [← hN2]; exact Nat.mul_le_mul h6 h6
  rw [hN2] at E HDG
  clear hN2
  obtain ⟨C, hC⟩ : ∃ C, cs.length = C := ⟨_, rfl⟩
  rw [hC] at hm E ⊢
  have HC := hide hC
  clear hC
  have hn1 : (1 : Int) ≤ (n : Int) := by omega
  have hn6 : (n : Int) ≤ 6 := by omega
  cases hcn : ((C : Int) != (N2 : Int))
  rotate_left
  · go_enter Try.func19, Try.ntmps19
    go_wp2_with fail
    go_ret
    exact ⟨ret_bool (by rw [unhide E]; have : (C == N2) = false := (by simp at hcn ⊢; omega); rw [this]; rfl), Below.refl _ _⟩
  have hCN : C = N2 := by simp at hcn; omega
  have HCN := hide hCN
  have E2 : Hid (costB cs n = allI C (cok cs n)) := hide (by rw [unhide E, hCN]; simp)
  have HDG2 := hide (fun i (hi : i < C) => unhide HDG i (by omega))
  clear HDG E hCN
  go_enter Try.func19, Try.ntmps19
  go_wp2_with fail
  go_loop [15] (fun i => ∃ j : Nat, j ≤ C ∧ i = .int .i64 j ∧ Hid (∀ i, i < j → cok cs n i = true)) (fun i => C - (intOf i).toNat)
  case atStart => exact ⟨0, by omega, rfl, hide (fun i hi => absurd hi (Nat.not_lt_zero i))⟩
  case round =>
    obtain ⟨j, hj, rfl, hall⟩ := hrel
    by_cases hlt : (j : Int) < (C : Int)
    · have k0 : (0 : Int) ≤ (j : Int) := by omega
      have hlen : j < cs.length := by rw [unhide HC]; omega
      rcases unhide HR with e0 | ⟨g, off, rfl, hc⟩
      · exfalso; rw [e0] at hlen; simp at hlen
      have c0 := hc j hlen
      clear hc
      have HCK : Hid (cok cs n j = (inB (cs.getD j 0) 0 256 && (!(decide (j / n = j % n)) || cs.getD j 0 == 0))) := hide rfl
      have HDJ := hide (unhide HDG2 j (by omega))
      generalize cs.getD j 0 = x at *
      have hr : (j : Int) % ((n : Int) + 1) = ((j % (n + 1) : Nat) : Int) := by simp
      have hr2 : (j : Int).tmod ((n : Int) + 1) = ((j % (n + 1) : Nat) : Int) := by rw [Int.tmod_eq_emod_of_nonneg (by omega)]; simp
      have HE : Hid ((((j % (n + 1) : Nat) : Int) == 0) = decide (j / n = j % n)) := hide (by rw [Bool.eq_iff_iff]; have := unhide HDJ; simp; omega)
      have hrb : ((j % (n + 1) : Nat) : Int) ≤ 7 := by have := Nat.mod_lt j (show 0 < n + 1 by omega); omega
      have hn1p : ¬ ((n : Int) + 1 = 0) := by omega
      generalize j % (n + 1) = Rn at *
      have HNO := hide (fun h => allI_no (p := cok cs n) hlen h)
      have HUP := hide (fun h => up_to (p := cok cs n) (unhide hall) h)
      rw [unhide HC] at HNO
      have KC := hide (fun W => isCost x W)
      clear hlen
      cases hin : inB x 0 256
      · have EB := hide (unhide HNO (by rw [unhide HCK, hin]; rfl))
        rw [hin] at KC
        clear hin HNO HUP
        go_wp2_with (go_at_call 32; refine (unhide KC _).mono ?_; rintro e w_ ⟨rfl, rfl⟩)
        go_ret
        exact ⟨ret_bool (by rw [unhide E2, unhide EB]), Below.refl _ _⟩
      rw [hin] at KC
      have HIN := hide hin
      clear hin
      cases hd : ((Rn : Int) == 0)
      · have OK := hide (unhide HUP (by rw [unhide HCK, unhide HIN, ← unhide HE, hd]; rfl))
        clear HNO HUP
        go_wp2_with (go_at_call 32; refine (unhide KC _).mono ?_; rintro e w_ ⟨rfl, rfl⟩)
        go_round
        case rel => exact ⟨j + 1, by omega, by go_num, OK⟩
        case measure => simp [intOf]; omega
      cases hx : (x != 0)
      · have OK := hide (unhide HUP (by rw [unhide HCK, unhide HIN]; have : (x == 0) = true := (by simpa using hx); rw [this]; simp))
        clear HNO HUP
        go_wp2_with (go_at_call 32; refine (unhide KC _).mono ?_; rintro e w_ ⟨rfl, rfl⟩)
        go_round
        case rel => exact ⟨j + 1, by omega, by go_num, OK⟩
        case measure => simp [intOf]; omega
      · have EB := hide (unhide HNO (by rw [unhide HCK, unhide HIN, ← unhide HE, hd]; have : (x == 0) = false := (by simpa using hx); rw [this]; rfl))
        clear HNO HUP
        go_wp2_with (go_at_call 32; refine (unhide KC _).mono ?_; rintro e w_ ⟨rfl, rfl⟩)
        go_ret
        exact ⟨ret_bool (by rw [unhide E2, unhide EB]), Below.refl _ _⟩
    · obtain rfl : j = C := by omega
      have EA := hide (allI_yes (unhide hall))
      go_wp2_with fail
      go_ret
      exact ⟨ret_bool (by rw [unhide E2, unhide EA]), Below.refl _ _⟩
end Nt
end Go.Proofs.Ytpmlpojefelbbaa
namespace Go.Proofs.Ytpmlpojefelbbaa
open Go.ChangeShapes Go.WideShapes Go.ChangeAt Go.RowKit
set_option linter.unusedVariables false
set_option linter.unusedSimpArgs false
set_option maxRecDepth 100000
attribute [local go_sem ↓] Go.wp_at_zero Go.wp_at_succ
namespace Rt
open W1
end Rt
end Go.Proofs.Ytpmlpojefelbbaa
namespace Go.Proofs.Ytpmlpojefelbbaa
open Go.ChangeShapes Go.WideShapes Go.ChangeAt Go.RowKit
set_option linter.unusedVariables false
set_option linter.unusedSimpArgs false
set_option maxRecDepth 100000
attribute [local go_sem ↓] Go.wp_at_zero Go.wp_at_succ
namespace Nt
open W1 Rt
end Nt
end Go.Proofs.Ytpmlpojefelbbaa
namespace Go.Proofs.Ytpmlpojefelbbaa
open Go.ChangeShapes Go.WideShapes Go.ChangeAt Go.RowKit
set_option linter.unusedVariables false
set_option linter.unusedSimpArgs false
attribute [local go_sem ↓] Go.wp_at_zero Go.wp_at_succ
namespace Ln
open W1 Lk
/-- A link's block that may be written. -/
def LV (w : World) (b : Nat) (m : R) : Prop := w.heap[b]? = some (.cells #[.int .i64 m.ad, .int .i64 m.hd, .int .i64 m.sy, .int .i64 m.ci, .int .i64 m.co, .int .i64 m.wl] 73 (0, 0))
theorem LV.cells {w : World} {b : Nat} {m : R} (h : LV w b m) : At w b 0 m := by
  unfold LV at h; refine ⟨?_, ?_, ?_, ?_, ?_, ?_⟩ <;> simp [World.cell?, h]
theorem LV.free {w : World} {b : Nat} {m : R} (h : LV w b m) (i : Nat) : w.frozen? ⟨b, i, none⟩ = false := by unfold LV at h; simp [World.frozen?, h]
theorem LV.lt {w : World} {b : Nat} {m : R} (h : LV w b m) : b < w.heap.size := by
  rcases Nat.lt_or_ge b w.heap.size with hlt | hge
  · exact hlt
  · unfold LV at h; rw [Array.getElem?_eq_none hge] at h; cases h
theorem LV.below {w w' : World} {b : Nat} {m : R} (h : LV w b m) (hb : Below w.heap.size w w') : LV w' b m := (hb.block b h.lt).trans h
end Ln
end Go.Proofs.Ytpmlpojefelbbaa
namespace Go.Proofs.Ytpmlpojefelbbaa
open Go.ChangeShapes Go.WideShapes Go.ChangeAt Go.RowKit
set_option linter.unusedVariables false
set_option linter.unusedSimpArgs false
attribute [local go_sem ↓] Go.wp_at_zero Go.wp_at_succ
namespace Ln
open W1 Lk
end Ln
end Go.Proofs.Ytpmlpojefelbbaa
namespace Go.Proofs.Ytpmlpojefelbbaa
open Go.ChangeShapes Go.WideShapes Go.ChangeAt Go.RowKit
set_option linter.unusedVariables false
set_option linter.unusedSimpArgs false
set_option maxRecDepth 100000
attribute [local go_sem ↓] Go.wp_at_zero Go.wp_at_succ
namespace Rt
open W1
end Rt
end Go.Proofs.Ytpmlpojefelbbaa
namespace Go.Proofs.Ytpmlpojefelbbaa
open Go.ChangeShapes Go.WideShapes Go.ChangeAt Go.RowKit
set_option linter.unusedVariables false
set_option linter.unusedSimpArgs false
set_option maxRecDepth 100000
attribute [local go_sem ↓] Go.wp_at_zero Go.wp_at_succ
namespace Nt
open W1 Rt
end Nt
end Go.Proofs.Ytpmlpojefelbbaa
namespace Go.Proofs.Ytpmlpojefelbbaa
open Go.ChangeShapes Go.WideShapes Go.ChangeAt Go.RowKit
set_option linter.unusedVariables false
set_option linter.unusedSimpArgs false
set_option maxRecDepth 100000
attribute [local go_sem ↓] Go.wp_at_zero Go.wp_at_succ
namespace Nt
open W1 Rt
end Nt
end Go.Proofs.Ytpmlpojefelbbaa
namespace Go.Proofs.Ytpmlpojefelbbaa
open Go.ChangeShapes Go.WideShapes Go.ChangeAt Go.RowKit
set_option linter.unusedVariables false
set_option linter.unusedSimpArgs false
set_option maxRecDepth 100000
attribute [local go_sem ↓] Go.wp_at_zero Go.wp_at_succ
namespace Nt
open W1 Rt
end Nt
end Go.Proofs.Ytpmlpojefelbbaa
namespace Go.Proofs.Ytpmlpojefelbbaa
open Go.ChangeShapes Go.WideShapes Go.ChangeAt Go.RowKit
set_option linter.unusedVariables false
set_option linter.unusedSimpArgs false
set_option maxRecDepth 100000
attribute [local go_sem ↓] Go.wp_at_zero Go.wp_at_succ
namespace Nt
open W1 Rt
end Nt
namespace Na
open W1 Rt Nt
def r64 (m : Rm) : Prop := m.ls.length ≤ 64 ∧ m.tw.length ≤ 64 ∧ m.se.length ≤ 64 ∧ m.du.length ≤ 64 ∧ m.ss.length ≤ 64 ∧ m.es.length ≤ 64 ∧ m.la.length ≤ 64
theorem r64_sm {m : Rm} (h : r64 m) : Sm m := by unfold r64 at h; unfold Sm; omega
theorem r64_k {m : Rm} (h : r64 m) : mkK m ≤ 2000 := by unfold r64 at h; unfold mkK; omega
/-- A net as small as a right one. -/
def smN (ms : List Rm) (cs : List Int) (fs : List Fm.R) : Prop := ms.length ≤ 6 ∧ (∀ i, i < ms.length → r64 (ms.getD i Rm.zero)) ∧ cs.length ≤ 36 ∧ fs.length ≤ 200
theorem sumK_small {ms : List Rm} (h : ∀ i, i < ms.length → r64 (ms.getD i Rm.zero)) : ∀ j, j ≤ ms.length → sumK ms j ≤ 2000 * (j : Int)
  | 0, _ => by simp [sumK]
  | j + 1, hj => by have := sumK_small h j (by omega); have := r64_k (h j (by omega)); simp only [sumK]; omega
theorem smN_k {ms : List Rm} {cs : List Int} {fs : List Fm.R} (h : smN ms cs fs) : 1 + totK ms cs fs ≤ 99990 := by
  obtain ⟨h1, h2, h3, h4⟩ := h
  have := sumK_small h2 ms.length (Nat.le_refl _)
  unfold totK; omega
theorem smN_nil : smN [] [] [] := ⟨by simp, fun i hi => absurd hi (Nat.not_lt_zero i), by simp, by simp⟩
/-- A net that is answered in memory of its own: by the program, by the model. -/
def GotM (v : Value) (w w' : World) (ms : List Rm) (cs : List Int) (fs : List Fm.R) (t : Int) : Prop := ∃ a b d ca cb cd qs, v = .agg #[.slice a ms.length ca, .slice b cs.length cb, .slice d fs.length cd, .int .i64 t] ∧ MT w' w.heap.size w'.heap.size a b d ms qs cs fs
def GotR (v : Value) (w w' : World) (ms : List Rm) (cs : List Int) (fs : List Fm.R) (t : Int) : Prop := ∃ a b d ca cb cd qs, v = .agg #[.slice a ms.length ca, .slice b cs.length cb, .slice d fs.length cd, .int .i64 t] ∧ RT w' w.heap.size w'.heap.size a b d ms qs cs fs
theorem gotM_nil {w w' : World} (h : w.heap.size ≤ w'.heap.size) : GotM (.agg #[.slice none 0 0, .slice none 0 0, .slice none 0 0, .int .i64 0]) w w' [] [] [] 0 := by
  refine ⟨none, none, none, 0, 0, 0, [], rfl, fun _ => 0, w.heap.size, w.heap.size, w.heap.size, w.heap.size, w.heap.size, w.heap.size, ⟨Nat.le_refl _, h⟩, ⟨Nat.le_refl _, h⟩, ⟨Nat.le_refl _, h⟩, .inl (Nat.le_refl _), .inl (Nat.le_refl _), .inl (Nat.le_refl _), .inl rfl, .inl rfl, .inl rfl⟩
theorem gotR_nil (w w' : World) : GotR (.agg #[.slice none 0 0, .slice none 0 0, .slice none 0 0, .int .i64 0]) w w' [] [] [] 0 :=
  ⟨none, none, none, 0, 0, 0, [], rfl, .inl rfl, .inl rfl, .inl rfl⟩
theorem resultsNC {fn : Func} {p q : Tmp} (h : fn.results = #[.cell p 26, .tmp q]) (tmps : Array Value) (w : World) {b : Nat} {v1 v2 v3 : Value} {t : Int} (hp : tmps.getD p undef = .pointer (some ⟨b, 0, none⟩)) (hg : NB w b v1 v2 v3 t) {v : Value} (hv : tmps.getD q undef = v) : (results fn tmps).run Try.prog w = .ok (.tuple #[.agg #[v1, v2, v3, .int .i64 t], v]) w := by
  have hp' : tmps[p]?.getD undef = .pointer (some ⟨b, 0, none⟩) := by simpa using hp
  have hv' : tmps[q]?.getD undef = v := by simpa using hv
  simp only [results, h]
  simp [Sem.run_bind, hp', hv', asAddr, run_loadVar_mid w b 0 26 [v1, v2, v3, .int .i64 t] _ (nb_range hg) infoN.1 infoN.2.1 infoN.2.2, Result.andThen]
end Na
namespace Nt
end Nt
end Go.Proofs.Ytpmlpojefelbbaa
namespace Go.Proofs.Ytpmlpojefelbbaa
open Go.ChangeShapes Go.WideShapes Go.ChangeAt Go.RowKit
set_option linter.unusedVariables false
set_option linter.unusedSimpArgs false
attribute [local go_sem ↓] Go.wp_at_zero Go.wp_at_succ
namespace Rt
open W1
def okN (x y z : Int) : Bool := inB x 1 8 && (inB y 0 7 && inB z 0 65535)
def pickN (x y z v : Int) : Int := if okN x y z = true then v else 0
def codeN (x y z : Int) : Int := if okN x y z = true then 0 else 4
theorem isWillN (n : Int) (w : World) : Calls Try.prog 34 #[.int .i64 n] w fun e w' => e = .returned (.bool (inB n 0 7)) ∧ w' = w := by
  go_enter Try.func34, Try.ntmps34
  go_wp2_with (go_at_call 18; refine (within _ _ _ _).mono ?_; rintro e w' ⟨rfl, rfl⟩)
  go_ret
  exact ⟨rfl, rfl⟩
end Rt
end Go.Proofs.Ytpmlpojefelbbaa
