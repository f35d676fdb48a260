/-
  Contracts of DecodeMessage, the program's and the model's, of the laws' copy of a slice of bytes and of their look whether two messages are alike.
-/
import Derived.Test.YtpknahhdapmcoaaDecI
namespace Go.Proofs.Ytpknahhdapmcoaa
open Go.ChangeShapes Go.WideShapes Go.ChangeAt Go.RowKit
set_option linter.unusedVariables false
set_option maxRecDepth 100000
set_option linter.unusedSimpArgs false
namespace De
open W1 By
theorem info5 : ∃ i, Try.prog.info? 5 = some i ∧ i.zero = some (.int .u8 0) ∧ i.size = 1 ∧ i.bytes = 1 := by
  have h : (Try.prog.info? 5).map (fun i => (i.zero, i.size, i.bytes)) = some (some (.int .u8 0), 1, 1) := by kernel_rfl
  obtain ⟨i, hi, he⟩ := Option.map_eq_some_iff.1 h
  simp only [Prod.mk.injEq] at he
  exact ⟨i, hi, he.1, he.2.1, he.2.2⟩
/-- The first j bytes stand there, and all the cells may be written. -/
def Upto (w : World) (g n j : Nat) (bs : List UInt8) : Prop :=
  (∀ i, i < j → w.cell? ⟨g, i, none⟩ = some (.int .u8 (bs.getD i 0).toNat)) ∧ ∀ i, i < n → (w.cell? ⟨g, i, none⟩).isSome = true ∧ w.frozen? ⟨g, i, none⟩ = false
theorem Upto.step {w : World} {g n j : Nat} {bs : List UInt8} (h : Upto w g n j bs) (hj : j < n) : Upto (w.setCell ⟨g, j, none⟩ (.int .u8 (bs.getD j 0).toNat)) g n (j + 1) bs := by
  obtain ⟨v, hv⟩ := Option.isSome_iff_exists.1 (h.2 j hj).1
  refine ⟨fun i hi => ?_, fun i hi => ⟨?_, by rw [World.frozen?_setCell]; exact (h.2 i hi).2⟩⟩
  · by_cases e : i = j
    · subst e; rw [World.cell?_setCell_same _ _ _ hv]
    · rw [World.cell?_setCell_other _ _ _ _ (by simp <;> omega)]; exact h.1 i (by omega)
  · by_cases e : i = j
    · subst e; rw [World.cell?_setCell_same _ _ _ hv]; rfl
    · rw [World.cell?_setCell_other _ _ _ _ (by simp <;> omega)]; exact (h.2 i hi).1


theorem nextV_yes {bs : List UInt8} (h : decB bs = true) : nextV bs = .tuple #[.agg #[.int .i64 (fld bs 0), .int .i64 (fld bs 3), .int .i64 (two bs 4), .int .i64 (fld bs 6), .int .i64 (fld bs 7), .string (bodyOf bs)], .int .i64 (two bs 1), .bool true] := by unfold nextV; rw [if_pos h]
/-- What DecodeMessage answers. -/
def decV (bs : List UInt8) : Value := if 65536 < bs.length then .tuple #[.agg #[.int .i64 0, .int .i64 0, .int .i64 0, .int .i64 0, .int .i64 0, .string ⟨#[]⟩], .int .i64 0, .int .i64 2] else if decB bs = true then .tuple #[.agg #[.int .i64 (fld bs 0), .int .i64 (fld bs 3), .int .i64 (two bs 4), .int .i64 (fld bs 6), .int .i64 (fld bs 7), .string (bodyOf bs)], .int .i64 (two bs 1), .int .i64 0] else .tuple #[.agg #[.int .i64 0, .int .i64 0, .int .i64 0, .int .i64 0, .int .i64 0, .string ⟨#[]⟩], .int .i64 0, .int .i64 3]
theorem decV_long {bs : List UInt8} (h : 65536 < bs.length) : decV bs = .tuple #[.agg #[.int .i64 0, .int .i64 0, .int .i64 0, .int .i64 0, .int .i64 0, .string ⟨#[]⟩], .int .i64 0, .int .i64 2] := by unfold decV; rw [if_pos h]
theorem decV_yes {bs : List UInt8} (h : ¬ 65536 < bs.length) (hk : decB bs = true) : decV bs = .tuple #[.agg #[.int .i64 (fld bs 0), .int .i64 (fld bs 3), .int .i64 (two bs 4), .int .i64 (fld bs 6), .int .i64 (fld bs 7), .string (bodyOf bs)], .int .i64 (two bs 1), .int .i64 0] := by unfold decV; rw [if_neg h, if_pos hk]
theorem decV_no {bs : List UInt8} (h : ¬ 65536 < bs.length) (hk : decB bs = false) : decV bs = .tuple #[.agg #[.int .i64 0, .int .i64 0, .int .i64 0, .int .i64 0, .int .i64 0, .string ⟨#[]⟩], .int .i64 0, .int .i64 3] := by unfold decV; rw [if_neg h, if_neg (by simp [hk])]
theorem conv_all {w : World} {g off cap : Nat} {bs : List UInt8} (h : Reads w (some ⟨g, off, none⟩) bs) :
    Sem.run Try.prog (convert 22 9 (.slice (some ⟨g, off, none⟩) bs.length cap)) w = .ok (.string ⟨bs.toArray⟩) w := by
  have hb := run_convert_bytes_arg (P := Try.prog) w 22 5 Try.underlying22 Try.underlying5 g off bs.length cap (bs.map fun b => (b.toNat : Int))
    (by rw [List.length_map]) (fun i hi => ?_) 9 Try.underlying9
  · rw [hb]
    congr 2
    apply ByteArray.ext
    apply Array.ext'
    rw [strOfNums_data]
    rw [List.map_map]
    have : ((fun n : Int => UInt8.ofNat n.toNat) ∘ fun b : UInt8 => (b.toNat : Int)) = id := by
      funext b
      simp
    rw [this, List.map_id]
  · rcases h with h | ⟨g', off', e, hc⟩
    · subst h; simp at hi
    · cases e
      rw [hc i hi]
      congr 2
      rw [List.getD_eq_getElem?_getD, List.getD_eq_getElem?_getD, List.getElem?_map, List.getElem?_eq_getElem hi]
      rfl




/-- What DecodeMessage answers, taken apart. -/
theorem decV_form (bs : List UInt8) : ∃ ty og sq hl hp body n c, decV bs = .tuple #[.agg #[.int .i64 ty, .int .i64 og, .int .i64 sq, .int .i64 hl, .int .i64 hp, .string body], .int .i64 n, .int .i64 c] := by
  unfold decV
  split
  · exact ⟨_, _, _, _, _, _, _, _, rfl⟩
  · split
    · exact ⟨_, _, _, _, _, _, _, _, rfl⟩
    · exact ⟨_, _, _, _, _, _, _, _, rfl⟩
theorem reads_below {w w' : World} {a : Option Addr} {bs : List UInt8} (h : Reads w a bs) (hb : Below w.heap.size w w') : Reads w' a bs := by
  rcases h with h | ⟨g, off, rfl, hc⟩
  · exact .inl h
  · refine .inr ⟨g, off, rfl, fun i hi => ?_⟩
    rw [hb.cell (World.block_lt_of_cell? _ _ (hc i hi))]; exact hc i hi
end De
end Go.Proofs.Ytpknahhdapmcoaa
