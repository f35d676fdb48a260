/-
  A message's bytes tell it again, with what stands behind them left; cut they tell none.
-/
import Derived.Test.YtmelbilepfnmjaaDoorEncC
import Derived.Test.YtmelbilepfnmjaaDoorDecM
import Derived.Test.YtmelbilepfnmjaaDoorU8
namespace Go.Proofs.YtmelbilepfnmjaaDoor
open Go.ChangeShapes Go.WideShapes Go.ChangeAt Go.RowKit
set_option linter.unusedVariables false
namespace Mx
open W1 By De Ms En
theorem fld_head {zs : List Int} {rest : List UInt8} (h : ∀ z ∈ zs, 0 ≤ z ∧ z ≤ 255) {i : Nat} (hi : i < zs.length) : fld (zs.map (fun n => UInt8.ofNat n.toNat) ++ rest) i = zs.getD i 0 := by
  unfold fld
  have hz := h zs[i] (List.getElem_mem hi)
  rw [List.getD_eq_getElem?_getD, List.getD_eq_getElem?_getD, List.getElem?_append_left (by simpa using hi), List.getElem?_map, List.getElem?_eq_getElem hi]
  simp
  omega
variable {ty og sq hl hp : Int} {body : ByteArray}
theorem enc_eq (h : okB ty og sq hl hp body = true) : enc ty og sq hl hp body = (head ty og sq hl hp body.size).map (fun n => UInt8.ofNat n.toNat) ++ body.data.toList := by
  unfold enc; rw [if_pos h, msgStr_data]
theorem enc_len (h : okB ty og sq hl hp body = true) : (enc ty og sq hl hp body).length = 8 + body.size := by
  rw [enc_eq h, List.length_append, List.length_map]; simp [head]
theorem head_in (h : okB ty og sq hl hp body = true) : ∀ z ∈ head ty og sq hl hp body.size, 0 ≤ z ∧ z ≤ 255 := by
  obtain ⟨t0, t1, o0, o1, s0, s1, l0, l1, p0, p1, bz⟩ := okB_bounds h
  intro z hz
  unfold head at hz
  simp at hz
  rcases hz with rfl | rfl | rfl | rfl | rfl | rfl | rfl | rfl <;> omega
theorem flds (h : okB ty og sq hl hp body = true) (t : List UInt8) : fld (enc ty og sq hl hp body ++ t) 0 = ty ∧ two (enc ty og sq hl hp body ++ t) 1 = 8 + body.size ∧ fld (enc ty og sq hl hp body ++ t) 3 = og ∧ two (enc ty og sq hl hp body ++ t) 4 = sq ∧ fld (enc ty og sq hl hp body ++ t) 6 = hl ∧ fld (enc ty og sq hl hp body ++ t) 7 = hp := by
  obtain ⟨t0, t1, o0, o1, s0, s1, l0, l1, p0, p1, bz⟩ := okB_bounds h
  have hf : ∀ i, i < 8 → fld (enc ty og sq hl hp body ++ t) i = (head ty og sq hl hp body.size).getD i 0 := fun i hi => by
    rw [enc_eq h, List.append_assoc]; exact fld_head (head_in h) (by simpa [head] using hi)
  unfold two
  rw [hf 0 (by omega), hf 1 (by omega), hf (1 + 1) (by omega), hf 3 (by omega), hf 4 (by omega), hf (4 + 1) (by omega), hf 6 (by omega), hf 7 (by omega)]
  refine ⟨rfl, ?_, rfl, ?_, rfl, rfl⟩
  · show 256 * ((8 + (body.size : Int)) / 256) + (8 + (body.size : Int)) % 256 = _; omega
  · show 256 * (sq / 256) + sq % 256 = _; omega
theorem body_of (h : okB ty og sq hl hp body = true) (t : List UInt8) : bodyOf (enc ty og sq hl hp body ++ t) = body := by
  unfold bodyOf
  rw [(flds h t).2.1]
  apply ByteArray.ext
  apply Array.ext'
  show ((enc ty og sq hl hp body ++ t).take ((8 + (body.size : Int)).toNat)).drop 8 = body.data.toList
  rw [show (8 + (body.size : Int)).toNat = (enc ty og sq hl hp body).length by rw [enc_len h]; omega, List.take_left, enc_eq h]
  have hl8 : ((head ty og sq hl hp body.size).map (fun n => UInt8.ofNat n.toNat)).length = 8 := by simp [head]
  rw [← hl8, List.drop_left]
theorem dec_yes (h : okB ty og sq hl hp body = true) (t : List UInt8) (ht : t.length ≤ 1) : decV (enc ty og sq hl hp body ++ t) = .tuple #[.agg #[.int .i64 ty, .int .i64 og, .int .i64 sq, .int .i64 hl, .int .i64 hp, .string body], .int .i64 ((enc ty og sq hl hp body).length : Int), .int .i64 0] := by
  obtain ⟨t0, t1, o0, o1, s0, s1, l0, l1, p0, p1, bz⟩ := okB_bounds h
  obtain ⟨f0, f1, f3, f4, f6, f7⟩ := flds h t
  have hl' := enc_len h
  have hb := body_of h t
  have hd : decB (enc ty og sq hl hp body ++ t) = true := by
    unfold decB
    rw [f0, f1, f3, f4, f6, f7, hb, h, List.length_append, decide_eq_true (by omega), decide_eq_true (by omega), decide_eq_true (by omega)]; rfl
  rw [decV_yes (by rw [List.length_append]; omega) hd, f0, f1, f3, f4, f6, f7, hb, hl']
  rfl
theorem dec_cut (h : okB ty og sq hl hp body = true) {k : Nat} (hk : k < (enc ty og sq hl hp body).length) : decV ((enc ty og sq hl hp body).take k) = .tuple #[.agg #[.int .i64 0, .int .i64 0, .int .i64 0, .int .i64 0, .int .i64 0, .string ⟨#[]⟩], .int .i64 0, .int .i64 3] := by
  obtain ⟨t0, t1, o0, o1, s0, s1, l0, l1, p0, p1, bz⟩ := okB_bounds h
  have hl' := enc_len h
  have htl : ((enc ty og sq hl hp body).take k).length = k := by rw [List.length_take]; omega
  refine decV_no (by rw [htl]; omega) ?_
  unfold decB
  rw [htl]
  by_cases h8 : 8 ≤ k
  · have ht : two ((enc ty og sq hl hp body).take k) 1 = 8 + body.size := by
      have h1 := (flds h []).2.1
      rw [List.append_nil] at h1
      rw [← h1]
      unfold two fld
      rw [List.getD_eq_getElem?_getD, List.getD_eq_getElem?_getD, List.getD_eq_getElem?_getD, List.getD_eq_getElem?_getD, List.getElem?_take_of_lt (by omega), List.getElem?_take_of_lt (by omega)]
    rw [ht, decide_eq_false (p := (8 : Int) + body.size ≤ k) (by omega)]; simp
  · rw [decide_eq_false h8]; rfl
theorem nums_fl (bs : List UInt8) : U8.fl (bs.map fun b => (b.toNat : Int)) = bs.map fun b => Value.int .u8 b.toNat := by
  unfold U8.fl; rw [List.map_map]; rfl
theorem r8_of {w : World} {g : Nat} {bs : List UInt8} (h : Reads w (some ⟨g, 0, none⟩) bs) : U8.R8 w g 0 (bs.map fun b => (b.toNat : Int)) := by
  intro i hi
  rw [List.length_map] at hi
  rcases h with e | ⟨g', off', e, hc⟩
  · rw [e] at hi; simp at hi
  · cases e
    rw [hc i hi, List.getD_eq_getElem?_getD, List.getD_eq_getElem?_getD, List.getElem?_map, List.getElem?_eq_getElem hi]; rfl
theorem reads_take {w : World} {g : Nat} {bs : List UInt8} (h : Reads w (some ⟨g, 0, none⟩) bs) (k : Nat) : Reads w (some ⟨g, 0, none⟩) (bs.take k) := by
  rcases h with e | ⟨g', off', e, hc⟩
  · exact .inl (by rw [e]; simp)
  · refine .inr ⟨g', off', e, fun i hi => ?_⟩
    rw [List.length_take] at hi
    rw [hc i (by omega), List.getD_eq_getElem?_getD, List.getD_eq_getElem?_getD, List.getElem?_take_of_lt (by omega)]
theorem cap_of {w : World} {base g n cap : Nat} {xs : List Value} (h : w.ownsRow base 5 1 (.slice (some ⟨g, 0, none⟩) n cap) n xs) : n ≤ cap ∧ cap ≤ maxLen := by
  rcases h.2 with ⟨e, _⟩ | ⟨g', cap', cur, hv, _, _, h1, h2, _⟩
  · cases e
  · cases hv; exact ⟨h1, h2⟩
end Mx
end Go.Proofs.YtmelbilepfnmjaaDoor
