/-
  Contracts of DecodeMessage, the program's and the model's, of the laws' copy of a slice of bytes and of their look whether two messages are alike.
-/
import Derived.Test.YtmelbilepfnmjaaDoorDecI
namespace Go.Proofs.YtmelbilepfnmjaaDoor
open Go.ChangeShapes Go.WideShapes Go.ChangeAt Go.RowKit
set_option linter.unusedVariables false
set_option maxRecDepth 100000
set_option linter.unusedSimpArgs false
namespace De
open W1 By
theorem info5 : ∃ i, Tryd.prog.info? 5 = some i ∧ i.zero = some (.int .u8 0) ∧ i.size = 1 ∧ i.bytes = 1 := by
  have h : (Tryd.prog.info? 5).map (fun i => (i.zero, i.size, i.bytes)) = some (some (.int .u8 0), 1, 1) := by kernel_rfl
  obtain ⟨i, hi, he⟩ := Option.map_eq_some_iff.1 h
  simp only [Prod.mk.injEq] at he
  exact ⟨i, hi, he.1, he.2.1, he.2.2⟩
/-- The first j bytes stand there, and all the cells may be written. -/
def Upto (w : World) (g n j : Nat) (bs : List UInt8) : Prop :=
  (∀ i, i < j → w.cell? ⟨g, i, none⟩ = some (.int .u8 (bs.getD i 0).toNat)) ∧ ∀ i, i < n → (w.cell? ⟨g, i, none⟩).isSome = true ∧ w.frozen? ⟨g, i, none⟩ = false
theorem Upto.step {w : World} {g n j : Nat} {bs : List UInt8} (h : Upto w g n j bs) (hj : j < n) : Upto (w.setCell ⟨g, j, none⟩ (.int .u8 (bs.getD j 0).toNat)) g n (j + 1) bs := by
  obtain ⟨v, hv⟩ := Option.isSome_iff_exists.1 (h.2 j hj).1
  refine ⟨fun i hi => ?_, fun i hi => ⟨?_, by rw [World.frozen?_setCell]; exact (h.2 i hi).2⟩⟩
  · by_cases e : i = j
    · subst e; rw [World.cell?_setCell_same _ _ _ hv]
    · rw [World.cell?_setCell_other _ _ _ _ (by simp <;> omega)]; exact h.1 i (by omega)
  · by_cases e : i = j
    · subst e; rw [World.cell?_setCell_same _ _ _ hv]; rfl
    · rw [World.cell?_setCell_other _ _ _ _ (by simp <;> omega)]; exact (h.2 i hi).1


theorem nextV_yes {bs : List UInt8} (h : decB bs = true) : nextV bs = .tuple #[.agg #[.int .i64 (fld bs 0), .int .i64 (fld bs 3), .int .i64 (two bs 4), .int .i64 (fld bs 6), .int .i64 (fld bs 7), .string (bodyOf bs)], .int .i64 (two bs 1), .bool true] := by unfold nextV; rw [if_pos h]
/-- What DecodeMessage answers. -/
def decV (bs : List UInt8) : Value := if 65536 < bs.length then .tuple #[.agg #[.int .i64 0, .int .i64 0, .int .i64 0, .int .i64 0, .int .i64 0, .string ⟨#[]⟩], .int .i64 0, .int .i64 2] else if decB bs = true then .tuple #[.agg #[.int .i64 (fld bs 0), .int .i64 (fld bs 3), .int .i64 (two bs 4), .int .i64 (fld bs 6), .int .i64 (fld bs 7), .string (bodyOf bs)], .int .i64 (two bs 1), .int .i64 0] else .tuple #[.agg #[.int .i64 0, .int .i64 0, .int .i64 0, .int .i64 0, .int .i64 0, .string ⟨#[]⟩], .int .i64 0, .int .i64 3]
theorem decV_long {bs : List UInt8} (h : 65536 < bs.length) : decV bs = .tuple #[.agg #[.int .i64 0, .int .i64 0, .int .i64 0, .int .i64 0, .int .i64 0, .string ⟨#[]⟩], .int .i64 0, .int .i64 2] := by unfold decV; rw [if_pos h]
theorem decV_yes {bs : List UInt8} (h : ¬ 65536 < bs.length) (hk : decB bs = true) : decV bs = .tuple #[.agg #[.int .i64 (fld bs 0), .int .i64 (fld bs 3), .int .i64 (two bs 4), .int .i64 (fld bs 6), .int .i64 (fld bs 7), .string (bodyOf bs)], .int .i64 (two bs 1), .int .i64 0] := by unfold decV; rw [if_neg h, if_pos hk]
theorem decV_no {bs : List UInt8} (h : ¬ 65536 < bs.length) (hk : decB bs = false) : decV bs = .tuple #[.agg #[.int .i64 0, .int .i64 0, .int .i64 0, .int .i64 0, .int .i64 0, .string ⟨#[]⟩], .int .i64 0, .int .i64 3] := by unfold decV; rw [if_neg h, if_neg (by simp [hk])]
theorem conv_all {w : World} {g off cap : Nat} {bs : List UInt8} (h : Reads w (some ⟨g, off, none⟩) bs) :
    Sem.run Tryd.prog (convert 22 9 (.slice (some ⟨g, off, none⟩) bs.length cap)) w = .ok (.string ⟨bs.toArray⟩) w := by
  have hb := run_convert_bytes_arg (P := Tryd.prog) w 22 5 Tryd.underlying22 Tryd.underlying5 g off bs.length cap (bs.map fun b => (b.toNat : Int))
    (by rw [List.length_map]) (fun i hi => ?_) 9 Tryd.underlying9
  · rw [hb]
    congr 2
    apply ByteArray.ext
    apply Array.ext'
    rw [strOfNums_data]
    rw [List.map_map]
    have : ((fun n : Int => UInt8.ofNat n.toNat) ∘ fun b : UInt8 => (b.toNat : Int)) = id := by
      funext b
      simp
    rw [this, List.map_id]
  · rcases h with h | ⟨g', off', e, hc⟩
    · subst h; simp at hi
    · cases e
      rw [hc i hi]
      congr 2
      rw [List.getD_eq_getElem?_getD, List.getD_eq_getElem?_getD, List.getElem?_map, List.getElem?_eq_getElem hi]
      rfl



set_option maxHeartbeats 2000000 in
theorem implDec (g : Nat) (bs : List UInt8) (cap : Nat) (w : World) (hm : bs.length ≤ 1048576) (hcap : bs.length ≤ cap) (hcm : cap ≤ maxLen) (hr : Reads w (some ⟨g, 0, none⟩) bs) :
    Calls Tryd.prog 7 #[.slice (some ⟨g, 0, none⟩) bs.length cap] w fun e w' => e = .returned (decV bs) ∧ Below w.heap.size w w' := by
  have HR := hide hr
  clear hr
  by_cases hl : 65536 < bs.length
  · rw [decV_long hl]
    have hl' : (65536 : Int) < bs.length := by omega
    go_enter Tryd.func7, Tryd.ntmps7
    go_wp2
    refine bodyPost_ret (v := .tuple #[.agg #[.int .i64 0, .int .i64 0, .int .i64 0, .int .i64 0, .int .i64 0, .string ⟨#[]⟩], .int .i64 0, .int .i64 2]) (by simp [results, Tryd.results7, go_sem]) rfl ⟨rfl, ?_⟩
    exact ((Below.refl w.heap.size w).alloc (Nat.le_refl _) _)
  · have hl' : ¬ (65536 : Int) < bs.length := by omega
    go_enter Tryd.func7, Tryd.ntmps7
    go_wp2_with fail
    refine (readMessage _ bs cap _ hm hcap hcm (reads_alloc (unhide HR) _)).mono ?_
    rintro e w1 ⟨rfl, b1⟩
    have hz1 : w.heap.size + 1 ≤ w1.heap.size := by have := b1.size; simp at this; omega
    have hb1 : Below w.heap.size w w1 := ((Below.refl w.heap.size w).alloc (Nat.le_refl _) _).trans (b1.mono (by simp))
    have HB := hide hb1
    obtain ⟨c1, f1⟩ := bcell b1
    have d0 : w1.cell? ⟨w.heap.size, 0, none⟩ = some (.int .i64 0) := by rw [c1 _ _ (by simp)]; simp
    have d1 : w1.cell? ⟨w.heap.size, 1, none⟩ = some (.int .i64 0) := by rw [c1 _ _ (by simp)]; simp
    have d2 : w1.cell? ⟨w.heap.size, 2, none⟩ = some (.int .i64 0) := by rw [c1 _ _ (by simp)]; simp
    have d3 : w1.cell? ⟨w.heap.size, 3, none⟩ = some (.int .i64 0) := by rw [c1 _ _ (by simp)]; simp
    have d4 : w1.cell? ⟨w.heap.size, 4, none⟩ = some (.int .i64 0) := by rw [c1 _ _ (by simp)]; simp
    have d5 : w1.cell? ⟨w.heap.size, 5, none⟩ = some (.string ⟨#[]⟩) := by rw [c1 _ _ (by simp)]; simp
    have z0 : w1.frozen? ⟨w.heap.size, 0, none⟩ = false := by rw [f1 _ _ (by simp)]; simp
    have z1 : w1.frozen? ⟨w.heap.size, 1, none⟩ = false := by rw [f1 _ _ (by simp)]; simp
    have z2 : w1.frozen? ⟨w.heap.size, 2, none⟩ = false := by rw [f1 _ _ (by simp)]; simp
    have z3 : w1.frozen? ⟨w.heap.size, 3, none⟩ = false := by rw [f1 _ _ (by simp)]; simp
    have z4 : w1.frozen? ⟨w.heap.size, 4, none⟩ = false := by rw [f1 _ _ (by simp)]; simp
    have z5 : w1.frozen? ⟨w.heap.size, 5, none⟩ = false := by rw [f1 _ _ (by simp)]; simp
    have hne : ¬ w.heap.size = w1.heap.size := by omega
    have zz : ∀ (o : Obj) (k : Nat), (w1.alloc o).frozen? ⟨w.heap.size, k, none⟩ = false := fun o k => by rw [World.frozen?_alloc_old _ _ _ (by simpa using hne), f1 _ _ (by simp)]; simp
    have hne2 : ¬ w1.heap.size = w.heap.size := by omega
    have dd0 : ∀ o : Obj, (w1.alloc o).cell? ⟨w.heap.size, 0, none⟩ = some (.int .i64 0) := fun o => by rw [World.cell?_alloc_lt _ _ _ (by show w.heap.size < _; omega)]; exact d0
    have dd1 : ∀ o : Obj, (w1.alloc o).cell? ⟨w.heap.size, 1, none⟩ = some (.int .i64 0) := fun o => by rw [World.cell?_alloc_lt _ _ _ (by show w.heap.size < _; omega)]; exact d1
    have dd2 : ∀ o : Obj, (w1.alloc o).cell? ⟨w.heap.size, 2, none⟩ = some (.int .i64 0) := fun o => by rw [World.cell?_alloc_lt _ _ _ (by show w.heap.size < _; omega)]; exact d2
    have dd3 : ∀ o : Obj, (w1.alloc o).cell? ⟨w.heap.size, 3, none⟩ = some (.int .i64 0) := fun o => by rw [World.cell?_alloc_lt _ _ _ (by show w.heap.size < _; omega)]; exact d3
    have dd4 : ∀ o : Obj, (w1.alloc o).cell? ⟨w.heap.size, 4, none⟩ = some (.int .i64 0) := fun o => by rw [World.cell?_alloc_lt _ _ _ (by show w.heap.size < _; omega)]; exact d4
    have dd5 : ∀ o : Obj, (w1.alloc o).cell? ⟨w.heap.size, 5, none⟩ = some (.string ⟨#[]⟩) := fun o => by rw [World.cell?_alloc_lt _ _ _ (by show w.heap.size < _; omega)]; exact d5
    clear hb1 b1 c1 f1
    cases hk : decB bs
    · rw [nextV_no hk]
      have hf := hide (decV_no hl hk)
      clear hk
      go_wp2_with fail
      refine bodyPost_ret (v := .tuple #[.agg #[.int .i64 0, .int .i64 0, .int .i64 0, .int .i64 0, .int .i64 0, .string ⟨#[]⟩], .int .i64 0, .int .i64 3]) (by simp [results, Tryd.results7, go_sem, dd0, dd1, dd2, dd3, dd4, dd5]) rfl ⟨by rw [unhide hf], ?_⟩
      exact ((((((((unhide HB).alloc (unhide HB).size _).setCell (p := ⟨w.heap.size, 0, none⟩) (Nat.le_refl _) _).setCell (p := ⟨w.heap.size, 1, none⟩) (Nat.le_refl _) _).setCell (p := ⟨w.heap.size, 2, none⟩) (Nat.le_refl _) _).setCell (p := ⟨w.heap.size, 3, none⟩) (Nat.le_refl _) _).setCell (p := ⟨w.heap.size, 4, none⟩) (Nat.le_refl _) _).setCell (p := ⟨w.heap.size, 5, none⟩) (Nat.le_refl _) _)
    · rw [nextV_yes hk]
      have hf := hide (decV_yes hl hk)
      clear hk
      go_wp2_with fail
      refine bodyPost_ret (v := .tuple #[.agg #[.int .i64 (fld bs 0), .int .i64 (fld bs 3), .int .i64 (two bs 4), .int .i64 (fld bs 6), .int .i64 (fld bs 7), .string (bodyOf bs)], .int .i64 (two bs 1), .int .i64 0]) (by simp [results, Tryd.results7, go_sem, dd0, dd1, dd2, dd3, dd4, dd5]) rfl ⟨by rw [unhide hf], ?_⟩
      exact ((((((((unhide HB).alloc (unhide HB).size _).setCell (p := ⟨w.heap.size, 0, none⟩) (Nat.le_refl _) _).setCell (p := ⟨w.heap.size, 1, none⟩) (Nat.le_refl _) _).setCell (p := ⟨w.heap.size, 2, none⟩) (Nat.le_refl _) _).setCell (p := ⟨w.heap.size, 3, none⟩) (Nat.le_refl _) _).setCell (p := ⟨w.heap.size, 4, none⟩) (Nat.le_refl _) _).setCell (p := ⟨w.heap.size, 5, none⟩) (Nat.le_refl _) _)

/-- What DecodeMessage answers, taken apart. -/
theorem decV_form (bs : List UInt8) : ∃ ty og sq hl hp body n c, decV bs = .tuple #[.agg #[.int .i64 ty, .int .i64 og, .int .i64 sq, .int .i64 hl, .int .i64 hp, .string body], .int .i64 n, .int .i64 c] := by
  unfold decV
  split
  · exact ⟨_, _, _, _, _, _, _, _, rfl⟩
  · split
    · exact ⟨_, _, _, _, _, _, _, _, rfl⟩
    · exact ⟨_, _, _, _, _, _, _, _, rfl⟩
theorem reads_below {w w' : World} {a : Option Addr} {bs : List UInt8} (h : Reads w a bs) (hb : Below w.heap.size w w') : Reads w' a bs := by
  rcases h with h | ⟨g, off, rfl, hc⟩
  · exact .inl h
  · refine .inr ⟨g, off, rfl, fun i hi => ?_⟩
    rw [hb.cell (World.block_lt_of_cell? _ _ (hc i hi))]; exact hc i hi
end De
end Go.Proofs.YtmelbilepfnmjaaDoor
