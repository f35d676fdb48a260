/-
  Contracts of the program's MessageText and of the model's, for every message: the text of a right one, or none and the code, where the library's table of powers of ten lies as its initialiser lays it. They change nothing that was there.
-/
import Derived.Test.YtmelbilepfnmjahDoorTxtS
import Derived.Test.YtmelbilepfnmjahDoorShelf
import Derived.Lib.AppendIntMem
namespace Go.Proofs.YtmelbilepfnmjahDoor
open Go.ChangeShapes Go.WideShapes Go.ChangeAt Go.RowKit
set_option linter.unusedVariables false
set_option linter.unusedSimpArgs false
attribute [local go_sem] ByteArray.size_append
namespace Tx
open W1 Di
abbrev Tab (w : World) : Prop := Lib.TabIs Tryd.prog w "internal/strconv.uint64pow10" .u64 Lib.pow10Tab
theorem itoa (n : Int) (h0 : 0 ≤ n) (h1 : n ≤ 65535) (w : World) (ht : Tab w) :
    Calls Tryd.prog 12 #[.int .i64 n] w fun e w' => e = .returned (.string (num n)) ∧ Below w.heap.size w w' := by
  refine (Tryd.strconv_Itoa n (by omega) (by omega) w ht).mono ?_
  rintro e w' ⟨rfl, k, os, rfl⟩
  refine ⟨?_, Lib.below_grow _ _ (Nat.le_refl _) _ _⟩
  obtain ⟨u, rfl⟩ := Int.eq_ofNat_of_zero_le h0
  rw [Lib.itoa_nonneg]; rfl
theorem typeWord (k : Nat) (k1 : 1 ≤ k) (k2 : k ≤ 2) (w : World) : Calls Tryd.prog 11 #[.int .i64 (k : Int)] w fun e w' => e = .returned (.string (kw k)) ∧ w' = w := by
  obtain rfl | rfl : k = 1 ∨ k = 2 := by omega
  all_goals
    go_enter Tryd.func11, Tryd.ntmps11
    go_wp2
    go_ret
    exact ⟨rfl, rfl⟩
/-- The text behind j numbers, as the program makes it. -/
def txt (k : Nat) (ns : List Int) : Nat → ByteArray
  | 0 => kw k
  | j + 1 => txt k ns j ++ (sp ++ num (ns.getD j 0))
theorem txt_all (k : Nat) (og sq hl hp n : Int) : txt k [og, sq, hl, hp, n] 5 = text k og sq hl hp n := by
  simp only [txt, text, List.getD_cons_zero, List.getD_cons_succ, ByteArray.append_assoc]
theorem txt_size (k : Nat) (ns : List Int) (h : ∀ n ∈ ns, n ≤ 65535) : ∀ j, (txt k ns j).size ≤ 5 + 6 * j
  | 0 => kw_size k
  | j + 1 => by
    have := txt_size k ns h j
    have h2 : (num (ns.getD j 0)).size ≤ 5 := by
      refine num_size _ ?_
      rw [List.getD_eq_getElem?_getD]
      cases e : ns[j]? with
      | none => simp
      | some x => exact h x (List.mem_of_getElem? e)
    have h3 : sp.size = 1 := rfl
    simp only [txt, ByteArray.size_append]
    omega

set_option maxHeartbeats 2000000 in
theorem implText (k : Nat) (og sq hl hp : Int) (body : ByteArray) (w : World) (k1 : 1 ≤ k) (k2 : k ≤ 2) (hk : okB k og sq hl hp body = true) (ht : Tab w) :
    Calls Tryd.prog 7 #[.agg #[.int .i64 (k : Int), .int .i64 og, .int .i64 sq, .int .i64 hl, .int .i64 hp, .string body]] w
      fun e w' => e = .returned (.tuple #[.string (text k og sq hl hp body.size), .int .i64 0]) ∧ Below w.heap.size w w' := by
  obtain ⟨o0, o1, s0, s1, l0, l1, p0, p1, bz⟩ : 1 ≤ og ∧ og ≤ 8 ∧ 0 ≤ sq ∧ sq ≤ 65535 ∧ 0 ≤ hl ∧ hl ≤ 255 ∧ 0 ≤ hp ∧ hp ≤ 255 ∧ (body.size : Int) ≤ 120 := by
    simp [okB, inB] at hk; omega
  have HT := hide (Lib.tabBelow_of_tabIs ht)
  clear ht
  have HA := hide (txt_all k og sq hl hp body.size)
  have HZ := hide (txt_size k [og, sq, hl, hp, (body.size : Int)] (by intro n hn; simp at hn; omega))
  go_enter Tryd.func7, Tryd.ntmps7
  go_wp2_with fail
  refine (implOK _ _ _ _ _ _ _).mono ?_
  rintro e w1 ⟨rfl, b1⟩
  rw [hk]
  clear hk
  have hs1 : w.heap.size + 1 ≤ w1.heap.size := by have := b1.size; simp at this; omega
  obtain ⟨hc, hf⟩ := bcell b1
  have c0 : w1.cell? ⟨w.heap.size, 0, none⟩ = some (.int .i64 (k : Int)) := by rw [hc _ _ (by simp)]; simp
  have c1 : w1.cell? ⟨w.heap.size, 1, none⟩ = some (.int .i64 og) := by rw [hc _ _ (by simp)]; simp
  have c2 : w1.cell? ⟨w.heap.size, 2, none⟩ = some (.int .i64 sq) := by rw [hc _ _ (by simp)]; simp
  have c3 : w1.cell? ⟨w.heap.size, 3, none⟩ = some (.int .i64 hl) := by rw [hc _ _ (by simp)]; simp
  have c4 : w1.cell? ⟨w.heap.size, 4, none⟩ = some (.int .i64 hp) := by rw [hc _ _ (by simp)]; simp
  have c5 : w1.cell? ⟨w.heap.size, 5, none⟩ = some (.string body) := by rw [hc _ _ (by simp)]; simp
  have B1 := hide (((Below.refl w.heap.size w).alloc (Nat.le_refl _) _).trans (b1.mono (by simp)))
  clear hc hf b1
  go_wp2_with fail
  refine (typeWord k k1 k2 _).mono ?_
  rintro e w2 ⟨rfl, rfl⟩
  go_wp2_with fail
  clear c0 c1 c2 c3 c4 c5
  go_loopw [4, 25] (fun v i wr => ∃ (j : Nat) (S : ByteArray), j ≤ 5 ∧ i = .int .i64 j ∧ v = .string S ∧ Hid (S = txt k [og, sq, hl, hp, (body.size : Int)] j) ∧ Hid (Below w.heap.size w wr)) (fun _ i _ => 5 - (intOf i).toNat)
  case atStart => exact ⟨0, _, by omega, rfl, rfl, hide rfl, B1⟩
  case round =>
    obtain ⟨j, S, hj, rfl, rfl, hS, hbl⟩ := hrel
    have hSz : S.size ≤ 5 + 6 * j := by rw [unhide hS]; exact unhide HZ j
    by_cases hlt : j < 5
    · obtain rfl | rfl | rfl | rfl | rfl : j = 0 ∨ j = 1 ∨ j = 2 ∨ j = 3 ∨ j = 4 := by omega
      · have hnz := num_size og (by omega)
        have hix : ∀ W : World, (Instr.index 33 (.agg #[.int .i64 og, .int .i64 sq, .int .i64 hl, .int .i64 hp, .int .i64 ((body.size : Nat) : Int)]) (.int .i64 0)).run Tryd.prog W = .ok (.int .i64 og) W := fun _ => by kernel_rfl
        go_wp2_with fail
        refine (itoa og (by omega) (by omega) _ (unhide HT _ (unhide hbl))).mono ?_
        rintro e w3 ⟨rfl, b3⟩
        have hb3 := hide ((unhide hbl).trans (b3.mono (unhide hbl).size))
        have hSn : Hid (S ++ (sp ++ num og) = txt k [og, sq, hl, hp, (body.size : Int)] 1) := hide (by rw [unhide hS]; rfl)
        generalize num og = d at *
        have hadd : ¬ (9223372036854775807 < S.size + (1 + d.size)) := by omega
        have hadd2 : ¬ (9223372036854775807 < 1 + d.size) := by omega
        clear b3
        go_wp2_with fail
        go_roundw
        case rel => exact ⟨1, _, by omega, by go_num, rfl, hSn, hb3⟩
        case measure => simp [intOf]
      · have hnz := num_size sq (by omega)
        have hix : ∀ W : World, (Instr.index 33 (.agg #[.int .i64 og, .int .i64 sq, .int .i64 hl, .int .i64 hp, .int .i64 ((body.size : Nat) : Int)]) (.int .i64 1)).run Tryd.prog W = .ok (.int .i64 sq) W := fun _ => by kernel_rfl
        go_wp2_with fail
        refine (itoa sq (by omega) (by omega) _ (unhide HT _ (unhide hbl))).mono ?_
        rintro e w3 ⟨rfl, b3⟩
        have hb3 := hide ((unhide hbl).trans (b3.mono (unhide hbl).size))
        have hSn : Hid (S ++ (sp ++ num sq) = txt k [og, sq, hl, hp, (body.size : Int)] 2) := hide (by rw [unhide hS]; rfl)
        generalize num sq = d at *
        have hadd : ¬ (9223372036854775807 < S.size + (1 + d.size)) := by omega
        have hadd2 : ¬ (9223372036854775807 < 1 + d.size) := by omega
        clear b3
        go_wp2_with fail
        go_roundw
        case rel => exact ⟨2, _, by omega, by go_num, rfl, hSn, hb3⟩
        case measure => simp [intOf]
      · have hnz := num_size hl (by omega)
        have hix : ∀ W : World, (Instr.index 33 (.agg #[.int .i64 og, .int .i64 sq, .int .i64 hl, .int .i64 hp, .int .i64 ((body.size : Nat) : Int)]) (.int .i64 2)).run Tryd.prog W = .ok (.int .i64 hl) W := fun _ => by kernel_rfl
        go_wp2_with fail
        refine (itoa hl (by omega) (by omega) _ (unhide HT _ (unhide hbl))).mono ?_
        rintro e w3 ⟨rfl, b3⟩
        have hb3 := hide ((unhide hbl).trans (b3.mono (unhide hbl).size))
        have hSn : Hid (S ++ (sp ++ num hl) = txt k [og, sq, hl, hp, (body.size : Int)] 3) := hide (by rw [unhide hS]; rfl)
        generalize num hl = d at *
        have hadd : ¬ (9223372036854775807 < S.size + (1 + d.size)) := by omega
        have hadd2 : ¬ (9223372036854775807 < 1 + d.size) := by omega
        clear b3
        go_wp2_with fail
        go_roundw
        case rel => exact ⟨3, _, by omega, by go_num, rfl, hSn, hb3⟩
        case measure => simp [intOf]
      · have hnz := num_size hp (by omega)
        have hix : ∀ W : World, (Instr.index 33 (.agg #[.int .i64 og, .int .i64 sq, .int .i64 hl, .int .i64 hp, .int .i64 ((body.size : Nat) : Int)]) (.int .i64 3)).run Tryd.prog W = .ok (.int .i64 hp) W := fun _ => by kernel_rfl
        go_wp2_with fail
        refine (itoa hp (by omega) (by omega) _ (unhide HT _ (unhide hbl))).mono ?_
        rintro e w3 ⟨rfl, b3⟩
        have hb3 := hide ((unhide hbl).trans (b3.mono (unhide hbl).size))
        have hSn : Hid (S ++ (sp ++ num hp) = txt k [og, sq, hl, hp, (body.size : Int)] 4) := hide (by rw [unhide hS]; rfl)
        generalize num hp = d at *
        have hadd : ¬ (9223372036854775807 < S.size + (1 + d.size)) := by omega
        have hadd2 : ¬ (9223372036854775807 < 1 + d.size) := by omega
        clear b3
        go_wp2_with fail
        go_roundw
        case rel => exact ⟨4, _, by omega, by go_num, rfl, hSn, hb3⟩
        case measure => simp [intOf]
      · have hnz := num_size (body.size : Int) (by omega)
        have hix : ∀ W : World, (Instr.index 33 (.agg #[.int .i64 og, .int .i64 sq, .int .i64 hl, .int .i64 hp, .int .i64 ((body.size : Nat) : Int)]) (.int .i64 4)).run Tryd.prog W = .ok (.int .i64 (body.size : Int)) W := fun _ => by kernel_rfl
        go_wp2_with fail
        refine (itoa (body.size : Int) (by omega) (by omega) _ (unhide HT _ (unhide hbl))).mono ?_
        rintro e w3 ⟨rfl, b3⟩
        have hb3 := hide ((unhide hbl).trans (b3.mono (unhide hbl).size))
        have hSn : Hid (S ++ (sp ++ num (body.size : Int)) = txt k [og, sq, hl, hp, (body.size : Int)] 5) := hide (by rw [unhide hS]; rfl)
        generalize num (body.size : Int) = d at *
        have hadd : ¬ (9223372036854775807 < S.size + (1 + d.size)) := by omega
        have hadd2 : ¬ (9223372036854775807 < 1 + d.size) := by omega
        clear b3
        go_wp2_with fail
        go_roundw
        case rel => exact ⟨5, _, by omega, by go_num, rfl, hSn, hb3⟩
        case measure => simp [intOf]
    · obtain rfl : j = 5 := by omega
      go_wp2_with fail
      go_ret2
      exact ⟨by rw [← unhide HA, ← unhide hS]; rfl, unhide hbl⟩

set_option maxHeartbeats 1000000 in
theorem specV (ty og sq hl hp : Int) (body : ByteArray) (w : World) :
    Calls Tryd.prog 5 #[.agg #[.int .i64 ty, .int .i64 og, .int .i64 sq, .int .i64 hl, .int .i64 hp, .string body]] w
      fun e w' => e = .returned (textV ty og sq hl hp body) ∧ Below w.heap.size w w' := by
  cases hk : okB ty og sq hl hp body
  · have hv := hide (show textV ty og sq hl hp body = .tuple #[.string ⟨#[]⟩, .int .i64 1] from by unfold textV; rw [hk]; rfl)
    go_enter Tryd.func5, Tryd.ntmps5
    go_wp2_with fail
    refine (specOK _ _ _ _ _ _ _).mono ?_
    rintro e w1 ⟨rfl, b1⟩
    rw [hk]
    clear hk
    go_wp2_with fail
    go_ret2
    exact ⟨by rw [unhide hv]; rfl, ((Below.refl w.heap.size w).alloc (Nat.le_refl _) _).trans (b1.mono (by simp))⟩
  · obtain ⟨t1, t2⟩ : 1 ≤ ty ∧ ty ≤ 2 := by simp [okB, inB] at hk; omega
    obtain ⟨k, rfl⟩ := Int.eq_ofNat_of_zero_le (show 0 ≤ ty by omega)
    have hv : textV k og sq hl hp body = .tuple #[.string (text k og sq hl hp body.size), .int .i64 0] := by unfold textV; rw [hk]; rfl
    rw [hv]
    exact specText k og sq hl hp body w (by omega) (by omega) hk
set_option maxHeartbeats 1000000 in
theorem implV (ty og sq hl hp : Int) (body : ByteArray) (w : World) (ht : Tab w) :
    Calls Tryd.prog 7 #[.agg #[.int .i64 ty, .int .i64 og, .int .i64 sq, .int .i64 hl, .int .i64 hp, .string body]] w
      fun e w' => e = .returned (textV ty og sq hl hp body) ∧ Below w.heap.size w w' := by
  cases hk : okB ty og sq hl hp body
  · have hv := hide (show textV ty og sq hl hp body = .tuple #[.string ⟨#[]⟩, .int .i64 1] from by unfold textV; rw [hk]; rfl)
    clear ht
    go_enter Tryd.func7, Tryd.ntmps7
    go_wp2_with fail
    refine (implOK _ _ _ _ _ _ _).mono ?_
    rintro e w1 ⟨rfl, b1⟩
    rw [hk]
    clear hk
    go_wp2_with fail
    go_ret2
    exact ⟨by rw [unhide hv]; rfl, ((Below.refl w.heap.size w).alloc (Nat.le_refl _) _).trans (b1.mono (by simp))⟩
  · obtain ⟨t1, t2⟩ : 1 ≤ ty ∧ ty ≤ 2 := by simp [okB, inB] at hk; omega
    obtain ⟨k, rfl⟩ := Int.eq_ofNat_of_zero_le (show 0 ≤ ty by omega)
    have hv : textV k og sq hl hp body = .tuple #[.string (text k og sq hl hp body.size), .int .i64 0] := by unfold textV; rw [hk]; rfl
    rw [hv]
    exact implText k og sq hl hp body w (by omega) (by omega) hk ht
end Tx
end Go.Proofs.YtmelbilepfnmjahDoor
