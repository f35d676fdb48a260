/-
  Contract of the model's DecodeHello.
-/
import Derived.Test.YtmelbilepfnmjakHelG
namespace Go.Proofs.Ytmelbilepfnmjak
open Go.ChangeShapes Go.WideShapes Go.ChangeAt Go.RowKit
set_option linter.unusedVariables false
set_option linter.unusedSimpArgs false
attribute [local go_sem ↓] Go.wp_at_zero Go.wp_at_succ
namespace Hl
open W1 Nb De
theorem dec_big {bs : List UInt8} (h : 65536 < bs.length) : decG bs = false := by
  cases h' : decG bs
  · rfl
  · have h1 : lenB bs = true := by unfold decG at h'; rw [Bool.and_eq_true] at h'; exact h'.1
    have := len_eq h1
    have := n_le bs
    omega
set_option maxRecDepth 100000 in
set_option maxHeartbeats 1000000 in
theorem specDecode (s : ByteArray) (w : World) (hm : s.size ≤ 1048576) :
    Calls Try.prog 23 #[.string s] w fun e w' => ∃ v, e = .returned (.tuple #[.agg #[.int .i64 (decX s.data.toList), .int .i64 (decY s.data.toList), v], .int .i64 (decE s.data.toList)]) ∧ Below w.heap.size w w' ∧ Nb.LstV w' v (decL s.data.toList) w.heap.size w'.heap.size := by
  have HDL : Hid (s.data.toList.length = s.size) := hide (by simp)
  generalize hbs : s.data.toList = bs at *
  have HBS := hide hbs
  clear hbs
  have A0 : Hid (Below w.heap.size w (w.alloc (.cells #[.int .i64 0, .int .i64 0, .slice none 0 0] 38))) := hide ((Below.refl _ _).alloc (Nat.le_refl _) _)
  have V0 : Hid (HV (w.alloc (.cells #[.int .i64 0, .int .i64 0, .slice none 0 0] 38)) w.heap.size 0 0 (.slice none 0 0)) := hide (hv_new _ _ _ _)
  have Z0 : Hid ((w.alloc (.cells #[.int .i64 0, .int .i64 0, .slice none 0 0] 38)).heap.size = w.heap.size + 1) := hide (by simp)
  by_cases hbig : (65536 : Int) < s.size
  · have hg : decG bs = false := dec_big (by have := unhide HDL; omega)
    have he : decE bs = 2 := by unfold decE; rw [if_pos (by have := unhide HDL; omega)]
    obtain ⟨e1, e2, e3⟩ := dec_no hg
    rw [e1, e2, e3, he]
    clear hg he e1 e2 e3
    go_enter Try.func23, Try.ntmps23
    go_wp2_with fail
    refine bodyPost_ret (v := .tuple #[.agg #[.int .i64 0, .int .i64 0, .slice none 0 0], .int .i64 2]) (by simp [results, Try.results23, go_sem]) rfl ⟨_, rfl, ?_, Nb.lstV_nil _ _ _ _ _⟩
    repeat (first | exact Below.refl _ _ | refine Below.setCell ?_ (by simp <;> omega) _ | refine Below.alloc ?_ (by simp <;> omega) _)
  have HE : Hid (decE bs = if decG bs = true then 0 else 3) := hide (by unfold decE; rw [if_neg (by have := unhide HDL; omega)])
  cases hg : decG bs
  · obtain ⟨e1, e2, e3⟩ := dec_no hg
    have he := unhide HE
    rw [hg, if_neg (by simp)] at he
    rw [e1, e2, e3, he]
    have E1 := hide e1
    have E2 := hide e2
    have E3 := hide e3
    have EG := hide hg
    clear e1 e2 e3 he hg HE
    go_enter Try.func23, Try.ntmps23
    go_wp2_with fail
    refine (l04Decode s _ hm).mono ?_
    rintro e w1 ⟨v, rfl, b1, l1⟩
    rw [unhide HBS, unhide E1, unhide E2, unhide EG] at ⊢
    have T1 := hide ((unhide V0).below b1)
    have D1 := hide ((unhide A0).trans (b1.mono (unhide A0).size))
    obtain ⟨av, cv, rfl, hlst⟩ := l1
    clear b1 hlst
    obtain ⟨x0, x1, x2⟩ := (unhide T1).bx
    have y0 := (unhide T1).free 0
    have y1 := (unhide T1).free 1
    have y2 := (unhide T1).free 2
    have hlw := (unhide T1).lt
    rw [unhide HBS, unhide E3]
    go_wp2_with fail
    refine bodyPost_ret (v := .tuple #[.agg #[.int .i64 0, .int .i64 0, .slice none 0 0], .int .i64 3]) (by simp [results, Try.results23, go_sem, x0, x1, x2, hlw]) rfl ⟨_, rfl, ?_, Nb.lstV_nil _ _ _ _ _⟩
    have hBB := unhide D1
    repeat (first | exact hBB | refine Below.setCell ?_ (by simp <;> omega) _ | refine Below.alloc ?_ (by simp [World.setCell] <;> omega) _)
  · have he := unhide HE
    rw [hg, if_pos rfl] at he
    rw [he]
    have EG := hide hg
    clear he hg HE
    go_enter Try.func23, Try.ntmps23
    go_wp2_with fail
    refine (l04Decode s _ hm).mono ?_
    rintro e w1 ⟨v, rfl, b1, l1⟩
    rw [unhide HBS, unhide EG]
    have T1 := hide ((unhide V0).below b1)
    have D1 := hide ((unhide A0).trans (b1.mono (unhide A0).size))
    rw [unhide HBS, unhide Z0] at l1
    obtain ⟨av, cv, rfl, hlst⟩ := l1
    have HL := hide hlst
    clear b1 hlst
    obtain ⟨x0, x1, x2⟩ := (unhide T1).bx
    have y0 := (unhide T1).free 0
    have y1 := (unhide T1).free 1
    have y2 := (unhide T1).free 2
    have hlw := (unhide T1).lt
    go_wp2_with fail
    refine bodyPost_ret (v := .tuple #[.agg #[.int .i64 (decX bs), .int .i64 (decY bs), .slice av (decL bs).length cv], .int .i64 0]) (by simp [results, Try.results23, go_sem, x0, x1, x2, hlw]) rfl ⟨_, rfl, ?_, av, cv, rfl, ?_⟩
    · have hBB := unhide D1
      repeat (first | exact hBB | refine Below.setCell ?_ (by simp <;> omega) _ | refine Below.alloc ?_ (by simp [World.setCell] <;> omega) _)
    · refine ((unhide HL).but (p := fun k => k ≠ w.heap.size) (by simp [World.setCell]) (fun k hk hp => ?_) (fun k h1 h2 => by omega)).mono (by omega) (by simp [World.setCell])
      rw [Below.heap_alloc _ _ _ (by simpa [World.setCell] using hk), Below.heap_setCell _ _ _ _ hp, Below.heap_setCell _ _ _ _ hp, Below.heap_setCell _ _ _ _ hp]
end Hl
end Go.Proofs.Ytmelbilepfnmjak
