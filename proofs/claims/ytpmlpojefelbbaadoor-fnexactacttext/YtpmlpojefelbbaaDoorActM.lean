/-
  Acts' texts: mathematics, and what both sides share.
-/
import Derived.Test.YtpmlpojefelbbaaDoorActN
namespace Go.Proofs.YtpmlpojefelbbaaDoor
open Go.ChangeShapes Go.WideShapes Go.ChangeAt Go.RowKit
set_option linter.unusedVariables false
set_option linter.unusedSimpArgs false
set_option maxRecDepth 100000
attribute [local go_sem ↓] Go.wp_at_zero Go.wp_at_succ
attribute [local go_sem] Go.strOfNums_size ByteArray.size_append
namespace Ac
open W1 Di

def sgB (zs : List Int) : Bool := zs.all (fun z => inB z 0 1)
theorem sg_no {zs : List Int} {j : Nat} (h : j < zs.length) (hp : inB (zs.getD j 0) 0 1 = false) : sgB zs = false := by
  unfold sgB
  rw [List.all_eq_false]
  refine ⟨zs.getD j 0, ?_, by show ¬ (inB (zs.getD j 0) 0 1 = true); rw [hp]; simp⟩
  rw [List.getD_eq_getElem?_getD, List.getElem?_eq_getElem h]; exact List.getElem_mem h
theorem sg_yes {zs : List Int} (h : ∀ i, i < zs.length → inB (zs.getD i 0) 0 1 = true) : sgB zs = true := by
  unfold sgB
  rw [List.all_eq_true]
  intro z hz
  obtain ⟨i, hi, rfl⟩ := List.mem_iff_getElem.1 hz
  have := h i hi
  rwa [List.getD_eq_getElem?_getD, List.getElem?_eq_getElem hi] at this
theorem sg_at {zs : List Int} (h : sgB zs = true) {i : Nat} (hi : i < zs.length) : zs.getD i 0 = 0 ∨ zs.getD i 0 = 1 := by
  unfold sgB at h
  rw [List.all_eq_true] at h
  have h2 := h (zs.getD i 0) (by rw [List.getD_eq_getElem?_getD, List.getElem?_eq_getElem hi]; exact List.getElem_mem hi)
  try dsimp only at h2
  generalize zs.getD i 0 = x at h2 ⊢
  have h3 : 0 ≤ x ∧ x ≤ 1 := by simpa [inB] using h2
  omega
/-- The text of the first j signs. -/
def sgT (zs : List Int) : Nat → ByteArray
  | 0 => ByteArray.empty
  | j + 1 => sgT zs j ++ tx (zs.getD j 0)
theorem tx0 : tx 0 = ⟨#[48]⟩ := by rw [show (0 : Int) = ((0 : Nat) : Int) from rfl, tx_nat, ← dig_one (by omega)]; rfl
theorem tx1 : tx 1 = ⟨#[49]⟩ := by rw [show (1 : Int) = ((1 : Nat) : Int) from rfl, tx_nat, ← dig_one (by omega)]; rfl
theorem sgT_size {zs : List Int} (h : sgB zs = true) : ∀ j, j ≤ zs.length → (sgT zs j).size = j
  | 0, _ => rfl
  | j + 1, hj => by
    unfold sgT
    rw [ByteArray.size_append, sgT_size h j (by omega)]
    rcases sg_at h (i := j) (by omega) with e | e
    · rw [e, tx0]; rfl
    · rw [e, tx1]; rfl
def Same (w w' : World) : Prop := w' = w
def toldB (zs : List Int) : Bool := (decide (1 ≤ zs.length) && decide (zs.length ≤ 60)) && sgB zs
def sB (xs : List UInt8) : ByteArray := ⟨xs.toArray⟩
def sTicks : ByteArray := ⟨#[116, 105, 99, 107, 115, 32]⟩
def sLossy : ByteArray := ⟨#[108, 111, 115, 115, 121, 32]⟩
def sCost : ByteArray := ⟨#[99, 111, 115, 116, 32]⟩
def sRest : ByteArray := ⟨#[114, 101, 115, 116, 97, 114, 116, 32]⟩
def s32 : ByteArray := ⟨#[32]⟩
/-- An act's text, and its code. -/
def acT (k a b n : Int) (zs : List Int) : ByteArray :=
  if k = 1 then sTicks ++ tx n else if k = 2 then (if toldB zs = true then ((sLossy ++ tx n) ++ s32) ++ sgT zs zs.length else ByteArray.empty) else if k = 3 then ((((sCost ++ tx a) ++ s32) ++ tx b) ++ s32) ++ tx n else if k = 4 then ((sRest ++ tx a) ++ s32) ++ tx n else ByteArray.empty
def acE (k : Int) (zs : List Int) : Int := if k = 1 then 0 else if k = 2 then (if toldB zs = true then 0 else 1) else if k = 3 then 0 else if k = 4 then 0 else 3
def Bx6 (w : World) (g : Nat) (k a b n : Int) (v : Value) (s : ByteArray) : Prop := w.cell? ⟨g, 0, none⟩ = some (.int .i64 k) ∧ w.cell? ⟨g, 1, none⟩ = some (.int .i64 a) ∧ w.cell? ⟨g, 2, none⟩ = some (.int .i64 b) ∧ w.cell? ⟨g, 3, none⟩ = some (.int .i64 n) ∧ w.cell? ⟨g, 4, none⟩ = some v ∧ w.cell? ⟨g, 5, none⟩ = some (.string s)
theorem bx6_new (w : World) (k a b n : Int) (v : Value) (s : ByteArray) (t : Nat) : Bx6 (w.alloc (.cells #[.int .i64 k, .int .i64 a, .int .i64 b, .int .i64 n, v, .string s] t)) w.heap.size k a b n v s := by
  refine ⟨?_, ?_, ?_, ?_, ?_, ?_⟩ <;> simp [World.cell?_alloc_new]
theorem Bx6.lt {w : World} {g : Nat} {k a b n : Int} {v : Value} {s : ByteArray} (h : Bx6 w g k a b n v s) : g < w.heap.size := World.block_lt_of_cell? _ _ h.1
theorem Bx6.below {w w' : World} {g : Nat} {k a b n : Int} {v : Value} {s : ByteArray} (h : Bx6 w g k a b n v s) (hb : Below w.heap.size w w') : Bx6 w' g k a b n v s := by
  have hg := h.lt
  obtain ⟨h0, h1, h2, h3, h4, h5⟩ := h
  exact ⟨(hb.cell (p := ⟨g, 0, none⟩) hg).trans h0, (hb.cell (p := ⟨g, 1, none⟩) hg).trans h1, (hb.cell (p := ⟨g, 2, none⟩) hg).trans h2, (hb.cell (p := ⟨g, 3, none⟩) hg).trans h3, (hb.cell (p := ⟨g, 4, none⟩) hg).trans h4, (hb.cell (p := ⟨g, 5, none⟩) hg).trans h5⟩
theorem bel_new6 (w : World) (x : Obj) : Below w.heap.size w (w.alloc x) := (Below.refl _ _).alloc (Nat.le_refl _) _
def i64B (n : Int) : Prop := -9223372036854775808 ≤ n ∧ n ≤ 9223372036854775807
set_option maxHeartbeats 4000000 in
theorem specLose (l : Option Addr) (zs : List Int) (c : Nat) (w : World) (hm : zs.length ≤ 1048576) (hr : In.RM w l zs) :
    Calls Tryd.prog 16 #[.slice l zs.length c] w fun e w' => e = .returned (.bool (sgB zs)) ∧ w' = w := by
  have KW := hide (fun z W => l01In z 0 1 W)
  have HNO := hide (fun (j : Nat) (h : j < zs.length) hp => sg_no (zs := zs) h hp)
  have HYES := hide (fun h => sg_yes (zs := zs) h)
  have HR := hide hr
  obtain ⟨n, hN⟩ : ∃ n, zs.length = n := ⟨_, rfl⟩
  have HN := hide hN
  rw [hN] at hm HNO HYES ⊢
  obtain ⟨R, hR⟩ : ∃ r, sgB zs = r := ⟨_, rfl⟩
  rw [hR] at HNO HYES ⊢
  clear hN hr hR
  go_enter Tryd.func16, Tryd.ntmps16
  go_wp2_with fail
  go_loopw [3] (fun i wr => ∃ j : Nat, j ≤ n ∧ i = .int .i64 j ∧ Hid (Same w wr) ∧ Hid (∀ i, i < j → inB (zs.getD i 0) 0 1 = true)) (fun i _ => n - (intOf i).toNat)
  case atStart => exact ⟨0, by omega, rfl, hide (show Same _ _ from rfl), hide (fun i hi => absurd hi (Nat.not_lt_zero i))⟩
  case round =>
    obtain ⟨j, hj, rfl, hwr, hwl⟩ := hrel
    obtain rfl : wr = w := unhide hwr
    by_cases hlt : (j : Int) < (n : Int)
    · have k0 : (0 : Int) ≤ (j : Int) := by omega
      have hjn : j < n := by omega
      rcases unhide HR with e0 | ⟨g, off, rfl, hc⟩
      · exfalso; have := unhide HN; rw [e0] at this; simp at this; omega
      have c0 := hc j (by rw [unhide HN]; exact hjn)
      have HS := hide (fun (hq : inB (zs.getD j 0) 0 1 = true) (i : Nat) (hi : i < j + 1) => show inB (zs.getD i 0) 0 1 = true by
        by_cases e : i = j
        · rw [e]; exact hq
        · exact unhide hwl i (by omega))
      have HNJ := hide (unhide HNO j hjn)
      clear hc hwl
      generalize zs.getD j 0 = z at c0 HS HNJ
      cases hq : inB z 0 1
      · obtain rfl := (unhide HNJ hq)
        have KZ := hide (fun W => unhide KW z W)
        rw [hq] at KZ
        clear hq
        go_wp2_with (first | (go_at_call 26; refine (unhide KZ _).mono ?_; rintro e w_ ⟨rfl, rfl⟩))
        (try rw [Exit.noGoto_ret])
        go_ret
        first | exact ⟨rfl, rfl⟩ | trivial
      · have KZ := hide (fun W => unhide KW z W)
        have HS2 := hide (unhide HS hq)
        rw [hq] at KZ
        clear hq
        go_wp2_with (first | (go_at_call 26; refine (unhide KZ _).mono ?_; rintro e w_ ⟨rfl, rfl⟩))
        go_roundw
        case rel => exact ⟨j + 1, by omega, by go_num, hide (show Same _ _ from rfl), HS2⟩
        case measure => simp [intOf]; omega
    · obtain rfl : j = n := by omega
      obtain rfl := unhide HYES (unhide hwl)
      go_wp2_with fail
      go_ret
      first | exact ⟨rfl, rfl⟩ | trivial
set_option maxHeartbeats 4000000 in
theorem implSigns (l : Option Addr) (zs : List Int) (c : Nat) (w : World) (hm : zs.length ≤ 1048576) (hr : In.RM w l zs) :
    Calls Tryd.prog 40 #[.slice l zs.length c] w fun e w' => e = .returned (.bool (sgB zs)) ∧ w' = w := by
  have KW := hide (fun z W => within z 0 1 W)
  have HNO := hide (fun (j : Nat) (h : j < zs.length) hp => sg_no (zs := zs) h hp)
  have HYES := hide (fun h => sg_yes (zs := zs) h)
  have HR := hide hr
  obtain ⟨n, hN⟩ : ∃ n, zs.length = n := ⟨_, rfl⟩
  have HN := hide hN
  rw [hN] at hm HNO HYES ⊢
  obtain ⟨R, hR⟩ : ∃ r, sgB zs = r := ⟨_, rfl⟩
  rw [hR] at HNO HYES ⊢
  clear hN hr hR
  go_enter Tryd.func40, Tryd.ntmps40
  go_wp2_with fail
  go_loopw [7] (fun i wr => ∃ j : Nat, j ≤ n ∧ i = .int .i64 j ∧ Hid (Same w wr) ∧ Hid (∀ i, i < j → inB (zs.getD i 0) 0 1 = true)) (fun i _ => n - (intOf i).toNat)
  case atStart => exact ⟨0, by omega, rfl, hide (show Same _ _ from rfl), hide (fun i hi => absurd hi (Nat.not_lt_zero i))⟩
  case round =>
    obtain ⟨j, hj, rfl, hwr, hwl⟩ := hrel
    obtain rfl : wr = w := unhide hwr
    by_cases hlt : (j : Int) < (n : Int)
    · have k0 : (0 : Int) ≤ (j : Int) := by omega
      have hjn : j < n := by omega
      rcases unhide HR with e0 | ⟨g, off, rfl, hc⟩
      · exfalso; have := unhide HN; rw [e0] at this; simp at this; omega
      have c0 := hc j (by rw [unhide HN]; exact hjn)
      have HS := hide (fun (hq : inB (zs.getD j 0) 0 1 = true) (i : Nat) (hi : i < j + 1) => show inB (zs.getD i 0) 0 1 = true by
        by_cases e : i = j
        · rw [e]; exact hq
        · exact unhide hwl i (by omega))
      have HNJ := hide (unhide HNO j hjn)
      clear hc hwl
      generalize zs.getD j 0 = z at c0 HS HNJ
      cases hq : inB z 0 1
      · obtain rfl := (unhide HNJ hq)
        have KZ := hide (fun W => unhide KW z W)
        rw [hq] at KZ
        clear hq
        go_wp2_with (first | (go_at_call 39; refine (unhide KZ _).mono ?_; rintro e w_ ⟨rfl, rfl⟩))
        (try rw [Exit.noGoto_ret])
        go_ret
        first | exact ⟨rfl, rfl⟩ | trivial
      · have KZ := hide (fun W => unhide KW z W)
        have HS2 := hide (unhide HS hq)
        rw [hq] at KZ
        clear hq
        go_wp2_with (first | (go_at_call 39; refine (unhide KZ _).mono ?_; rintro e w_ ⟨rfl, rfl⟩))
        go_roundw
        case rel => exact ⟨j + 1, by omega, by go_num, hide (show Same _ _ from rfl), HS2⟩
        case measure => simp [intOf]; omega
    · obtain rfl : j = n := by omega
      obtain rfl := unhide HYES (unhide hwl)
      go_wp2_with fail
      go_ret
      first | exact ⟨rfl, rfl⟩ | trivial
end Ac
end Go.Proofs.YtpmlpojefelbbaaDoor
