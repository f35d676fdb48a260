/-
  Contract of the program's DecodeHello.
-/
import Derived.Test.YtmelbilepfnmjakHelJ
import Derived.Test.YtmelbilepfnmjakHelH
import Derived.Lib.ConvBytes
namespace Go.Proofs.Ytmelbilepfnmjak
open Go.ChangeShapes Go.WideShapes Go.ChangeAt Go.RowKit
set_option linter.unusedVariables false
set_option linter.unusedSimpArgs false
attribute [local go_sem ↓] Go.wp_at_zero Go.wp_at_succ
namespace Hl
open W1 Nb De
theorem below_bytes (w : World) (e : TypeId) (s : ByteArray) : Below w.heap.size w (Lib.bytesWorld w e s) :=
  ⟨rfl, rfl, rfl, by rw [Lib.bytesWorld_size]; omega, fun k hk => Lib.bytesWorld_at_old w e s k hk⟩
set_option maxRecDepth 100000 in
set_option maxHeartbeats 1000000 in
theorem implDecode (s : ByteArray) (w : World) (hm : s.size ≤ 1048576) :
    Calls Try.prog 24 #[.string s] w fun e w' => ∃ v, e = .returned (.tuple #[.agg #[.int .i64 (decX s.data.toList), .int .i64 (decY s.data.toList), v], .int .i64 (decE s.data.toList)]) ∧ Below w.heap.size w w' ∧ Nb.LstV w' v (decL s.data.toList) w.heap.size w'.heap.size := by
  have HDL : Hid (s.data.toList.length = s.size) := hide (by simp)
  have A0 : Hid (Below w.heap.size w (w.alloc (.cells #[.int .i64 0, .int .i64 0, .slice none 0 0] 38))) := hide ((Below.refl _ _).alloc (Nat.le_refl _) _)
  have V0 : Hid (HV (w.alloc (.cells #[.int .i64 0, .int .i64 0, .slice none 0 0] 38)) w.heap.size 0 0 (.slice none 0 0)) := hide (hv_new _ _ _ _)
  have Z0 : Hid ((w.alloc (.cells #[.int .i64 0, .int .i64 0, .slice none 0 0] 38)).heap.size = w.heap.size + 1) := hide (by simp)
  by_cases hbig : (65536 : Int) < s.size
  · have hg : decG s.data.toList = false := dec_big (by have := unhide HDL; omega)
    have he : decE s.data.toList = 2 := by unfold decE; rw [if_pos (by have := unhide HDL; omega)]
    obtain ⟨e1, e2, e3⟩ := dec_no hg
    rw [e1, e2, e3, he]
    clear hg he e1 e2 e3
    go_enter Try.func24, Try.ntmps24
    go_wp2_with fail
    refine bodyPost_ret (v := .tuple #[.agg #[.int .i64 0, .int .i64 0, .slice none 0 0], .int .i64 2]) (by simp [results, Try.results24, go_sem]) rfl ⟨_, rfl, ?_, Nb.lstV_nil _ _ _ _ _⟩
    repeat (first | exact Below.refl _ _ | refine Below.setCell ?_ (by simp <;> omega) _ | refine Below.alloc ?_ (by simp <;> omega) _)
  have HE : Hid (decE s.data.toList = if decG s.data.toList = true then 0 else 3) := hide (by unfold decE; rw [if_neg (by have := unhide HDL; omega)])
  have HCV := hide (Lib.run_convert_string_bytes (P := Try.prog) (w.alloc (.cells #[.int .i64 0, .int .i64 0, .slice none 0 0] 38)) 9 77 5 s Try.underlying9 Try.underlying77 Try.underlying5)
  have HBW := hide (below_bytes (w.alloc (.cells #[.int .i64 0, .int .i64 0, .slice none 0 0] 38)) 5 s)
  have HRB : Hid (∀ i, i < s.data.toList.length → (Lib.bytesWorld (w.alloc (.cells #[.int .i64 0, .int .i64 0, .slice none 0 0] 38)) 5 s).cell? ⟨(w.alloc (.cells #[.int .i64 0, .int .i64 0, .slice none 0 0] 38)).heap.size, 0 + i, none⟩ = some (.int .u8 (fld s.data.toList i))) := hide (fun i hi => by
    rw [Nat.zero_add, Lib.bytesWorld_cell _ _ s i (by rw [← unhide HDL]; exact hi)]; rfl)
  have hge := grownCap_ge (w.alloc (.cells #[.int .i64 0, .int .i64 0, .slice none 0 0] 38)) s.size 0 5
  have hle := grownCap_le_maxLen (w.alloc (.cells #[.int .i64 0, .int .i64 0, .slice none 0 0] 38)) s.size 0 5 (by unfold maxLen; omega)
  rw [unhide Z0] at HRB HCV
  generalize hcp : grownCap (w.alloc (.cells #[.int .i64 0, .int .i64 0, .slice none 0 0] 38)) s.size 0 5 = cp at *
  clear hcp
  have V1 := hide ((unhide V0).below (unhide HBW))
  have A1 := hide ((unhide A0).trans ((unhide HBW).mono (unhide A0).size))
  generalize hBW : Lib.bytesWorld (w.alloc (.cells #[.int .i64 0, .int .i64 0, .slice none 0 0] 38)) 5 s = WB at *
  clear hBW V0 A0 HBW
  have hconv := unhide HCV
  clear HCV
  have HRH := hide (readHello (w.heap.size + 1) cp s.data.toList WB (by have := unhide HDL; omega) (by have := unhide HDL; omega) hle (unhide HRB))
  rw [unhide HDL] at HRH
  clear HRB
  cases hg : decG s.data.toList
  · obtain ⟨e1, e2, e3⟩ := dec_no hg
    have he := unhide HE
    rw [hg, if_neg (by simp)] at he
    rw [e1, e2, e3, he]
    have EG := hide hg
    clear e1 e2 e3 he hg HE
    go_enter Try.func24, Try.ntmps24
    go_wp2_with fail
    refine (unhide HRH).mono ?_
    rintro e w1 ⟨⟨X, Y, a, m, c, rfl, _⟩, b1⟩
    rw [unhide EG]
    have T1 := hide ((unhide V1).below b1)
    have D1 := hide ((unhide A1).trans (b1.mono (unhide A1).size))
    clear b1 hconv
    obtain ⟨x0, x1, x2⟩ := (unhide T1).bx
    have y0 := (unhide T1).free 0
    have y1 := (unhide T1).free 1
    have y2 := (unhide T1).free 2
    have hlw := (unhide T1).lt
    go_wp2_with fail
    refine bodyPost_ret (v := .tuple #[.agg #[.int .i64 0, .int .i64 0, .slice none 0 0], .int .i64 3]) (by simp [results, Try.results24, go_sem, x0, x1, x2, hlw]) rfl ⟨_, rfl, ?_, Nb.lstV_nil _ _ _ _ _⟩
    have hBB := unhide D1
    repeat (first | exact hBB | refine Below.setCell ?_ (by simp <;> omega) _ | refine Below.alloc ?_ (by simp [World.setCell] <;> omega) _)
  · have he := unhide HE
    rw [hg, if_pos rfl] at he
    obtain ⟨e1, e2, e3⟩ := dec_yes hg
    rw [e1, e2, e3, he]
    have EG := hide hg
    clear he hg HE e1 e2 e3
    have hWs : w.heap.size + 1 ≤ WB.heap.size := (unhide V1).lt
    go_enter Try.func24, Try.ntmps24
    go_wp2_with fail
    refine (unhide HRH).mono ?_
    rintro e w1 ⟨⟨X, Y, a, m, c, rfl, hyes⟩, b1⟩
    rw [unhide EG]
    obtain ⟨rfl, rfl, hl⟩ := hyes (unhide EG)
    obtain ⟨av, cv, hsl, hlst⟩ := hl
    cases hsl
    have HL := hide hlst
    have T1 := hide ((unhide V1).below b1)
    have D1 := hide ((unhide A1).trans (b1.mono (unhide A1).size))
    have hs1 : WB.heap.size ≤ w1.heap.size := b1.size
    clear b1 hconv hlst hyes
    obtain ⟨x0, x1, x2⟩ := (unhide T1).bx
    have y0 := (unhide T1).free 0
    have y1 := (unhide T1).free 1
    have y2 := (unhide T1).free 2
    have hlw := (unhide T1).lt
    go_wp2_with fail
    refine bodyPost_ret (v := .tuple #[.agg #[.int .i64 (fld s.data.toList 0), .int .i64 (timOf s.data.toList), .slice a (grps s.data.toList (nOf s.data.toList)).length c], .int .i64 0]) (by simp [results, Try.results24, go_sem, x0, x1, x2, hlw]) rfl ⟨_, rfl, ?_, a, c, rfl, ?_⟩
    · have hBB := unhide D1
      repeat (first | exact hBB | refine Below.setCell ?_ (by simp <;> omega) _ | refine Below.alloc ?_ (by simp [World.setCell] <;> omega) _)
    · refine ((unhide HL).but (p := fun k => k ≠ w.heap.size) (by simp [World.setCell]) (fun k hk hp => ?_) (fun k h1 h2 => by omega)).mono (by omega) (by simp [World.setCell])
      rw [Below.heap_alloc _ _ _ (by simpa [World.setCell] using hk), Below.heap_setCell _ _ _ _ hp, Below.heap_setCell _ _ _ _ hp, Below.heap_setCell _ _ _ _ hp]
end Hl
end Go.Proofs.Ytmelbilepfnmjak
