/-
  Contracts: SetPut, both (written by mkput2.py).
-/
import Derived.Test.YtmelbilepfnmjajSetY
namespace Go.Proofs.Ytmelbilepfnmjaj
open Go.ChangeShapes Go.WideShapes Go.ChangeAt Go.RowKit
set_option linter.unusedVariables false
set_option linter.unusedSimpArgs false
attribute [local go_sem ↓] Go.wp_at_zero Go.wp_at_succ
namespace St
open W1 Tu
set_option maxHeartbeats 2000000 in
theorem specPut (g off : Nat) (ms : List R) (cap : Nat) (x : R) (w : World) (hcap : cap = ms.length) (hm : ms.length ≤ 1048576) (hr : RM w (some ⟨g, off, none⟩) ms) :
    Calls Try.prog 10 #[.slice (some ⟨g, off, none⟩) ms.length cap, x.value] w fun e w' => ∃ v, e = .returned (.tuple #[v, .int .i64 (putE ms x)]) ∧ Below w.heap.size w w' ∧ LstV w' v (putA ms x) w.heap.size w'.heap.size := by
  subst hcap
  obtain ⟨key, til, val⟩ := x
  unfold R.value
  have HR := hide hr
  clear hr
  have HBA : Hid (Below w.heap.size w (w.alloc (.cells #[.int .i64 key, .int .i64 til, .int .i64 val] 30))) := hide ((Below.refl _ _).alloc (Nat.le_refl _) _)
  have HX : Hid (Bx (w.alloc (.cells #[.int .i64 key, .int .i64 til, .int .i64 val] 30)) w.heap.size ⟨key, til, val⟩) := hide (by refine ⟨?_, ?_, ?_⟩ <;> simp [World.cell?_alloc_new])
  by_cases hbig : (4096 : Int) < ms.length
  · have hc := code_long (ms := ms) (by omega)
    have h1 : putA ms ⟨key, til, val⟩ = [] := by unfold putA; rw [if_neg (fun h => by rw [hc] at h; cases h.1)]
    have h2 : putE ms ⟨key, til, val⟩ = 2 := by unfold putE; rw [hc]; rfl
    rw [h1, h2]
    clear h1 h2 hc
    go_enter Try.func10, Try.ntmps10
    go_wp2_with fail
    go_ret2
    exact ⟨_, rfl, (unhide HBA).alloc (unhide HBA).size _, lstV_nil _ _ _ _ _⟩
  have hsm : ms.length ≤ 4096 := by omega
  cases hs : setB ms
  · have hc := code_bad (by omega) hs
    have h1 : putA ms ⟨key, til, val⟩ = [] := by unfold putA; rw [if_neg (fun h => by rw [hc] at h; cases h.1)]
    have h2 : putE ms ⟨key, til, val⟩ = 1 := by unfold putE; rw [hc]; rfl
    rw [h1, h2]
    have HS := hide hs
    clear h1 h2 hc hs
    go_enter Try.func10, Try.ntmps10
    go_wp2_with fail
    refine (specOK _ ms _ _ hm ((unhide HR).below (unhide HBA))).mono ?_
    rintro e w1 ⟨rfl, b1⟩
    rw [unhide HS]
    have hb1 := hide ((unhide HBA).trans (b1.mono (unhide HBA).size))
    clear b1
    go_wp2_with fail
    go_ret2
    exact ⟨_, rfl, (unhide hb1).alloc (unhide hb1).size _, lstV_nil _ _ _ _ _⟩
  have hc := code_zero hs
  have h64 := setB_len hs
  have HS := hide hs
  cases hx : okR ⟨key, til, val⟩
  · have h1 : putA ms ⟨key, til, val⟩ = [] := by unfold putA; rw [if_neg (fun h => by rw [hx] at h; cases h.2)]
    have h2 : putE ms ⟨key, til, val⟩ = 1 := by unfold putE; rw [if_pos hc, if_neg (by simp [hx])]
    rw [h1, h2]
    have HXK := hide hx
    clear h1 h2 hc hs hx
    go_enter Try.func10, Try.ntmps10
    go_wp2_with fail
    refine (specOK _ ms _ _ hm ((unhide HR).below (unhide HBA))).mono ?_
    rintro e w1 ⟨rfl, b1⟩
    rw [unhide HS]
    have hb1 := hide ((unhide HBA).trans (b1.mono (unhide HBA).size))
    obtain ⟨z0, z1, z2⟩ := (unhide HX).below b1
    dsimp only at z0 z1 z2
    clear b1
    go_wp2_with fail
    refine (l03Tuple key til val _).mono ?_
    rintro e w2 ⟨rfl, b2⟩
    rw [unhide HXK]
    have hb2 := hide ((unhide hb1).trans (b2.mono (unhide hb1).size))
    clear b2 z0 z1 z2
    go_wp2_with fail
    go_ret2
    exact ⟨_, rfl, (unhide hb2).alloc (unhide hb2).size _, lstV_nil _ _ _ _ _⟩
  have h1 : putA ms ⟨key, til, val⟩ = putL ms ⟨key, til, val⟩ := by unfold putA; rw [if_pos ⟨hc, hx⟩]
  have h2 : putE ms ⟨key, til, val⟩ = putC ms ⟨key, til, val⟩ := by unfold putE; rw [if_pos hc, if_pos hx]
  rw [h1, h2]
  have HXK := hide hx
  clear h1 h2 hc hs hx
  go_enter Try.func10, Try.ntmps10
  go_wp2_with fail
  refine (specOK _ ms _ _ hm ((unhide HR).below (unhide HBA))).mono ?_
  rintro e w1 ⟨rfl, b1⟩
  rw [unhide HS]
  have hb1 := hide ((unhide HBA).trans (b1.mono (unhide HBA).size))
  have X1 := hide ((unhide HX).below b1)
  obtain ⟨z0, z1, z2⟩ := unhide X1
  dsimp only at z0 z1 z2
  clear b1
  go_wp2_with fail
  refine (l03Tuple key til val _).mono ?_
  rintro e w2 ⟨rfl, b2⟩
  rw [unhide HXK]
  have hb2 := hide ((unhide hb1).trans (b2.mono (unhide hb1).size))
  clear z0 z1 z2
  obtain ⟨z0, z1, z2⟩ := (unhide X1).below b2
  dsimp only at z0 z1 z2
  clear b2
  go_wp2_with fail
  refine (l03Put g off ms _ key til val _ h64 ((unhide HR).below (unhide hb2))).mono ?_
  rintro e w3 ⟨v, rfl, b3, hl⟩
  have hb3 := hide ((unhide hb2).trans (b3.mono (unhide hb2).size))
  have HL := hide (hl.mono (unhide hb2).size (Nat.le_refl _))
  clear b3 hl z0 z1 z2
  go_wp2_with fail
  go_ret2
  exact ⟨_, rfl, unhide hb3, unhide HL⟩
end St
end Go.Proofs.Ytmelbilepfnmjaj
