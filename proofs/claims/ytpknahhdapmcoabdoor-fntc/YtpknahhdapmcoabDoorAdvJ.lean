/-
  Contracts of the program's reader: the edges, a whole advertisement; and of DecodeTc.
-/
import Derived.Test.YtpknahhdapmcoabDoorAdvS
namespace Go.Proofs.YtpknahhdapmcoabDoor
open Go.ChangeShapes Go.WideShapes Go.ChangeAt Go.RowKit
set_option linter.unusedVariables false
set_option linter.unusedSimpArgs false
attribute [local go_sem ↓] Go.wp_at_zero Go.wp_at_succ
namespace Av
open W1 Ed De
theorem own_but {p : Nat} {w w' : World} {base : Nat} {v : Value} {n : Nat} {xs : List Value} (h : w.ownsRow base 54 2 v n xs) (hb : But p w w') (hp : p < base) : w'.ownsRow base 54 2 v n xs := by
  refine h.kept (row := some p) ⟨hb.os, hb.tape, hb.output, hb.size, fun k hk hne => hb.block k hk (fun e => hne (by rw [e]))⟩ ?_
  cases hv : v.ownBlock with
  | none => exact .inl rfl
  | some k =>
    refine .inr (fun e => ?_)
    have := (h.lt k hv).1
    have := Option.some.inj e
    omega
theorem But.grown {p : Nat} {w w1 w2 : World} {r : Option Nat} (h : But p w w1) (hg : w1.grownBy w2 r) (hr : ∀ k, r = some k → w.heap.size ≤ k) : But p w w2 :=
  ⟨hg.os.trans h.os, hg.tape.trans h.tape, hg.output.trans h.output, Nat.le_trans h.size hg.size, fun k hk hp => (hg.block k (Nat.lt_of_lt_of_le hk h.size) (fun e => by have := hr k e.symm; omega)).trans (h.block k hk hp)⟩
theorem But.alloc {p : Nat} {w w1 : World} (h : But p w w1) (o : Obj) : But p w (w1.alloc o) := h.trans (But.of_below ((Below.refl _ _).alloc (Nat.le_refl _) _))
theorem But.setNew {p b : Nat} {w w1 : World} (h : But p w w1) (hb : w.heap.size ≤ b) (o : Nat) (v : Value) : But p w (w1.setCell ⟨b, o, none⟩ v) :=
  ⟨h.os, h.tape, h.output, by simpa [World.setCell] using h.size, fun k hk hp => (Below.heap_setCell _ _ _ _ (by show k ≠ b; omega)).trans (h.block k hk hp)⟩
theorem Rd.grown {w w' : World} {p i : Nat} {bs : List UInt8} {sp : Bool} {r : Option Nat} (h : Rd w p bs i sp) (hg : w.grownBy w' r) (hne : some p ≠ r) : Rd w' p bs i sp :=
  let ⟨s, h1, h2⟩ := h; ⟨s, h1, (hg.block p h2.lt hne).trans h2⟩
theorem Rd.setOther {w : World} {p i b o : Nat} {bs : List UInt8} {sp : Bool} {v : Value} (h : Rd w p bs i sp) (hne : p ≠ b) : Rd (w.setCell ⟨b, o, none⟩ v) p bs i sp :=
  let ⟨s, h1, h2⟩ := h; ⟨s, h1, (Below.heap_setCell _ _ _ _ hne).trans h2⟩
def lenV : Value → Nat
  | .slice _ n _ => n
  | _ => 0
set_option maxRecDepth 100000 in
set_option maxHeartbeats 2000000 in
theorem redges (p : Nat) (bs : List UInt8) (c : Nat) (sp : Bool) (w : World) (hm : bs.length ≤ 1048576) (hc : c ≤ 255) (h : Rd w p bs 4 sp) :
    Calls Tryd.prog 91 #[.pointer (some ⟨p, 0, none⟩), .int .i64 c] w fun e w' => ∃ (v : Value) (j : Nat), e = .returned v ∧ j ≤ c ∧ (j = c ∨ spN bs sp j = true) ∧ But p w w' ∧ Rd w' p bs (4 + 3 * j) (spN bs sp j) ∧ Ed.LstV w' v (egrps bs j) w.heap.size w'.heap.size := by
  have HH := hide h
  have hplt := h.lt
  clear h
  go_enter Tryd.func91, Tryd.ntmps91
  go_wp2_with fail
  go_loopw [5] (fun v wr => ∃ (j : Nat) (a : Option Addr) (cap : Nat), j ≤ c ∧ v = .slice a j cap ∧ Hid (wr.ownsRow w.heap.size 54 2 v (egrps bs j).length (Ed.flat (egrps bs j))) ∧ Hid (Rd wr p bs (4 + 3 * j) (spN bs sp j)) ∧ Hid (But p w wr)) (fun v _ => c - lenV v)
  case atStart => exact ⟨0, none, 0, by omega, rfl, hide (Ed.own_nil _ _), HH, hide (But.refl _ _)⟩
  case round =>
    obtain ⟨j, a, cap, hj, rfl, how, hrd, hbt⟩ := hrel
    have hsz := (unhide hbt).size
    have HEX : Hid (∀ W : World, W = wr → (j = c ∨ spN bs sp j = true) → ∃ (v : Value) (j' : Nat), Ending.returned (.slice a j cap) = .returned v ∧ j' ≤ c ∧ (j' = c ∨ spN bs sp j' = true) ∧ But p w W ∧ Rd W p bs (4 + 3 * j') (spN bs sp j') ∧ Ed.LstV W v (egrps bs j') w.heap.size W.heap.size) := hide (fun W hW hor => by
      subst hW
      exact ⟨_, j, rfl, hj, hor, unhide hbt, unhide hrd, Ed.lst_own rfl (unhide how)⟩)
    by_cases hlt : (j : Int) < (c : Int)
    · obtain ⟨s, hs, hd⟩ := unhide hrd
      have c1 := hd.c1
      have HD := hide hd
      clear hd hs
      cases hsp : spN bs sp j
      · have HST : Hid (spN bs sp (j + 1) = (spN bs sp j || decide (bs.length ≤ 4 + 3 * j) || decide (bs.length ≤ 6 + 3 * j) || !metG bs (5 + 3 * j))) := hide rfl
        rw [hsp] at c1
        clear hsp
        have HGS : Hid (egrps bs (j + 1) = egrps bs j ++ [⟨fld bs (4 + 3 * j), metV bs (5 + 3 * j)⟩]) := hide (egrps_succ bs j)
        have HL : Hid ((egrps bs j).length = j) := hide (egrps_len bs j)
        go_wp2_with fail
        clear c1
        refine (one p bs (4 + 3 * j) _ _ hm (unhide hrd)).mono ?_
        rintro e w1 ⟨rfl, b1, r1⟩
        have B1 := hide ((unhide hbt).trans b1)
        have O1 := hide (own_but (unhide how) b1 hplt)
        have R1 := hide r1
        clear b1 r1
        go_wp2_with fail
        refine (rmetric p bs (4 + 3 * j + 1) _ _ hm (unhide R1)).mono ?_
        rintro e w2 ⟨rfl, b2, r2⟩
        have B2 := hide ((unhide B1).trans b2)
        have O2 := hide (own_but (unhide O1) b2 hplt)
        have R2 : Hid (Rd w2 p bs (4 + 3 * (j + 1)) (spN bs sp (j + 1))) := hide (by rw [unhide HST, show 4 + 3 * (j + 1) = 4 + 3 * j + 1 + 2 by omega, show 6 + 3 * j = 4 + 3 * j + 1 + 1 by omega, show 5 + 3 * j = 4 + 3 * j + 1 by omega]; exact r2)
        have E5 : 4 + 3 * j + 1 = 5 + 3 * j := by omega
        rw [E5]
        clear b2 r2 E5
        have hs2 := (unhide B2).size
        have RN := hide (Ed.rm_new w2 ⟨fld bs (4 + 3 * j), metV bs (5 + 3 * j)⟩)
        have P3 := hide ((unhide O2).alloc (.cells #[.int .i64 (fld bs (4 + 3 * j)), .int .i64 (metV bs (5 + 3 * j))] 54))
        have B3 := hide ((unhide B2).alloc (.cells #[.int .i64 (fld bs (4 + 3 * j)), .int .i64 (metV bs (5 + 3 * j))] 54))
        have R3 := hide ((unhide R2).below ((Below.refl _ _).alloc (Nat.le_refl _) (.cells #[.int .i64 (fld bs (4 + 3 * j)), .int .i64 (metV bs (5 + 3 * j))] 54)))
        go_wp2_with (at_builtin; refine Ed.wpList_apS (unhide P3) w2.heap.size 0 1 1 [⟨fld bs (4 + 3 * j), metV bs (5 + 3 * j)⟩] rfl (unhide RN) (by simp only [List.length_cons, List.length_nil]; rw [unhide HL]; omega) (by simp; omega) rfl _ _ rfl rfl rfl ?_; intro v9 w9 o9 g9; have O9 : Hid (w9.ownsRow w.heap.size 54 2 v9 (egrps bs (j + 1)).length (Ed.flat (egrps bs (j + 1)))) := hide (by rw [unhide HGS]; exact o9); have B9 := hide ((unhide B3).grown g9 (fun k hk => ((unhide P3).lt k hk).1)); have R9 := hide ((unhide R3).grown g9 (fun e => by have := ((unhide P3).lt p e.symm).1; omega)); clear o9 g9)
        obtain ⟨gq, cq, rfl, _, _⟩ := (unhide O9).form (by rw [egrps_len]; omega)
        have hel : (egrps bs (j + 1)).length = j + 1 := egrps_len _ _
        rw [hel]
        have O9' : Hid (w9.ownsRow w.heap.size 54 2 (.slice (some ⟨gq, 0, none⟩) (j + 1) cq) (egrps bs (j + 1)).length (Ed.flat (egrps bs (j + 1)))) := hide (by have := unhide O9; rw [hel] at this ⊢; exact this)
        go_roundw
        case rel => exact ⟨j + 1, _, cq, by omega, rfl, O9', R9, B9⟩
        case measure => simp [lenV]; omega
      · rw [hsp] at c1
        have HX := hide (unhide HEX _ rfl (.inr hsp))
        clear hsp HEX
        go_wp2_with fail
        go_ret
        exact unhide HX
    · obtain rfl : j = c := by omega
      have HX := hide (unhide HEX _ rfl (.inl rfl))
      clear HEX
      go_wp2_with fail
      go_ret
      (first | exact unhide HX | (obtain ⟨v, j', h1, h2⟩ := unhide HX; exact ⟨v, h1, j', h2⟩))
end Av
end Go.Proofs.YtpknahhdapmcoabDoor
