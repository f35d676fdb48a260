/-
  The model's contracts of a hello that is heard: l06Hear, HearHello.
-/
import Derived.Test.YtmelbilepfnmjamLnkR
import Derived.Test.YtmelbilepfnmjamLnkH
import Derived.Test.YtmelbilepfnmjamLnkF
namespace Go.Proofs.Ytmelbilepfnmjam
open Go.ChangeShapes Go.WideShapes Go.ChangeAt Go.RowKit
set_option linter.unusedVariables false
set_option linter.unusedSimpArgs false
attribute [local go_sem ↓] Go.wp_at_zero Go.wp_at_succ
namespace Ln
open W1 Lk Mp
theorem rm_same {w w' : World} {a : Option Addr} {ms : List R} (h : RM w a ms) (hb : Below w.heap.size w w') : RM w' a ms := h.below hb
set_option maxRecDepth 100000 in
set_option maxHeartbeats 4000000 in
theorem l06Hear (a : Option Addr) (ms : List R) (cap : Nat) (me frm cost now will valid : Int) (b : Option Addr) (ns : List Nb.R) (capn : Nat) (w : World) (hok : linksB ms = true) (hh : Hl.helB will valid ns = true) (hn0 : 0 ≤ now) (hn1 : now ≤ 1000000) (hr : RM w a ms) (hr' : Nb.RM w b ns) :
    Calls Try.prog 46 #[.slice a ms.length cap, .int .i64 me, .int .i64 frm, .int .i64 cost, .int .i64 now, .agg #[.int .i64 will, .int .i64 valid, .slice b ns.length capn]] w fun e w' => ∃ v, e = .returned v ∧ Below w.heap.size w w' ∧ LstV w' v (putL ms (heardR (lkF ms frm) me frm cost now will valid ns)) w.heap.size w'.heap.size := by
  have hv := Hl.hel_valid hh
  have h8 := Hl.hel_len hh
  have hl8 := links_len hok
  have HOK := hide hok
  have HRW := hide hr
  have HA : Hid (Below w.heap.size w (w.alloc (.cells #[.int .i64 will, .int .i64 valid, .slice b ns.length capn] 47))) := hide ((Below.refl _ _).alloc (Nat.le_refl _) _)
  have HX : Hid (Bx3 (w.alloc (.cells #[.int .i64 will, .int .i64 valid, .slice b ns.length capn] 47)) w.heap.size will valid (.slice b ns.length capn)) := hide (bx3_new w will valid _ _)
  have HR := hide (hr.below (unhide HA))
  have HN := hide (hr'.below (unhide HA))
  clear hr hr' hh hok
  have HF : Hid ((ms.find? (isAd frm)).isSome = true → (lkF ms frm).ad = frm) := hide (fun h => by
    obtain ⟨y, hy⟩ := Option.isSome_iff_exists.1 h
    unfold lkF; rw [hy]; have := List.find?_some hy; unfold isAd at this; simpa using this)
  have HZ : Hid ((ms.find? (isAd frm)).isSome = false → lkF ms frm = R.zero) := hide (fun h => by
    unfold lkF; rw [Option.isSome_eq_false_iff, Option.isNone_iff_eq_none] at h; rw [h]; rfl)
  obtain ⟨E, hE⟩ : ∃ E, (ms.find? (isAd frm)).isSome = E := ⟨_, rfl⟩
  obtain ⟨A, hAA⟩ : ∃ A, lkF ms frm = A := ⟨_, rfl⟩
  rw [hE, hAA] at HF HZ
  rw [hAA]
  have HE := hide hE
  have HAA := hide hAA
  clear hE hAA
  obtain ⟨ad, hd, sy, ci, co, wl⟩ := A
  go_enter Try.func46, Try.ntmps46
  go_wp2_with fail
  refine (l06Find _ ms cap frm _ (by omega) (unhide HR)).mono ?_
  rintro e w1 ⟨rfl, b1⟩
  rw [unhide HE, unhide HAA]
  unfold R.value
  dsimp only
  have HA1 := hide ((unhide HA).trans (b1.mono (unhide HA).size))
  have HX1 := hide ((unhide HX).below b1)
  have HR1 := hide ((unhide HR).below b1)
  have HN1 := hide ((unhide HN).below b1)
  clear b1 HA HX HR HN HE HAA
  obtain ⟨z0, z1, z2⟩ := unhide HX1
  have hlx := (unhide HX1).lt
  have hnx : ¬ (w.heap.size = w1.heap.size) := by omega
  cases E
  · obtain ⟨rfl, rfl, rfl, rfl, rfl, rfl⟩ : ad = 0 ∧ hd = 0 ∧ sy = 0 ∧ ci = 0 ∧ co = 0 ∧ wl = 0 := by have := unhide HZ rfl; unfold R.zero at this; simpa using this
    clear HZ HF
    have HA2 := hide ((unhide HA1).alloc (unhide HA1).size (.cells #[.int .i64 frm, .int .i64 (now + valid), .int .i64 0, .int .i64 cost, .int .i64 0, .int .i64 will] 32))
    have HB2 : Hid (Below w1.heap.size w1 (w1.alloc (.cells #[.int .i64 frm, .int .i64 (now + valid), .int .i64 0, .int .i64 cost, .int .i64 0, .int .i64 will] 32))) := hide ((Below.refl _ _).alloc (Nat.le_refl _) _)
    have HL2 : Hid (LV (w1.alloc (.cells #[.int .i64 frm, .int .i64 (now + valid), .int .i64 0, .int .i64 cost, .int .i64 0, .int .i64 will] 32)) w1.heap.size ⟨frm, now + valid, 0, cost, 0, will⟩) := hide (lv_new w1 ⟨frm, now + valid, 0, cost, 0, will⟩)
    have HX2 := hide ((unhide HX1).below (unhide HB2))
    have HR2 := hide ((unhide HR1).below (unhide HB2))
    have HN2 := hide ((unhide HN1).below (unhide HB2))
    clear HX1 HR1 HN1 HB2
    go_wp2_with fail
    generalize hW : w1.alloc (.cells #[.int .i64 frm, .int .i64 (now + valid), .int .i64 0, .int .i64 cost, .int .i64 0, .int .i64 will] 32) = W2 at *
    clear hW
    refine (Hl.l04Find will valid b ns capn me _ (by omega) (unhide HN2)).mono ?_
    rintro e w3 ⟨rfl, b3⟩
    clear z0 z1 z2
    have HA3 := hide ((unhide HA2).trans (b3.mono (unhide HA2).size))
    have HL3 := hide ((unhide HL2).below b3)
    have HX3 := hide ((unhide HX2).below b3)
    have HR3 := hide ((unhide HR2).below b3)
    clear b3 HA2 HL2 HX2 HR2 HN2
    obtain ⟨z0, z1, z2⟩ := unhide HX3
    have hlx3 := (unhide HX3).lt
    have hnx3 : ¬ (w.heap.size = w3.heap.size) := by omega
    have hly3 := (unhide HL3).lt
    have hny3 : ¬ (w1.heap.size = w3.heap.size) := by omega
    have hxy : ¬ (w.heap.size = w1.heap.size) := hnx
    have hyx : ¬ (w1.heap.size = w.heap.size) := by omega
    obtain ⟨x0, x1, x2, x3, x4, x5⟩ := (unhide HL3).cells
    simp only [Nat.zero_add] at x1 x2 x3 x4 x5
    have y2 := (unhide HL3).free 2
    have y4 := (unhide HL3).free 4
    dsimp only at x0 x1 x2 x3 x4 x5
    cases hf : ns.find? (Hl.isAd me) with
    | none =>
      have HE : Hid (heardR ⟨0, 0, 0, 0, 0, 0⟩ me frm cost now will valid ns = ⟨frm, now + valid, 0, cost, 0, will⟩) := hide (by unfold heardR; rw [hf])
      have hnf : Hl.nbF ns me = ⟨0, 0, 0, false⟩ := by unfold Hl.nbF; rw [hf]; rfl
      rw [hnf]
      unfold Nb.R.value
      dsimp only [Option.isSome]
      clear hnf hf
      go_wp2_with fail
      refine (l06Put a ms cap frm (now + valid) 0 cost 0 will _ (unhide HOK) (rm_same (unhide HRW) (by have hB := unhide HA3; (repeat (first | (with_reducible exact hB) | (with_reducible refine Below.drew ?_) | (with_reducible refine Below.setCell ?_ ?_ _; rotate_left; (first | exact Nat.le_refl _ | (simp; done) | (dsimp only; omega))) | (with_reducible refine Below.alloc ?_ ?_ _; rotate_left; (first | exact Nat.le_refl _ | omega | (simp [World.setCell]; omega)))))))).mono ?_
      rintro e w5 ⟨v, rfl, b5, hl5⟩
      have HB5 : Hid (Below w.heap.size w w5) := hide (Below.trans (by have hB := unhide HA3; (repeat (first | (with_reducible exact hB) | (with_reducible refine Below.drew ?_) | (with_reducible refine Below.setCell ?_ ?_ _; rotate_left; (first | exact Nat.le_refl _ | (simp; done) | (dsimp only; omega))) | (with_reducible refine Below.alloc ?_ ?_ _; rotate_left; (first | exact Nat.le_refl _ | omega | (simp [World.setCell]; omega)))))) (b5.mono (by simp [World.setCell]; omega)))
      have HL5 := hide (hl5.mono (lo' := w.heap.size) (by simp [World.setCell]; omega) (Nat.le_refl _))
      clear b5 hl5
      go_wp2_with fail
      go_ret
      exact ⟨_, rfl, unhide HB5, by rw [unhide HE]; exact unhide HL5⟩
    | some n =>
      obtain ⟨nad, nst, nmt, nmp⟩ := n
      have hnf : Hl.nbF ns me = ⟨nad, nst, nmt, nmp⟩ := by unfold Hl.nbF; rw [hf]; rfl
      rw [hnf]
      unfold Nb.R.value
      dsimp only [Option.isSome]
      clear hnf
      by_cases hst : nst = 0
      · have HE : Hid (heardR ⟨0, 0, 0, 0, 0, 0⟩ me frm cost now will valid ns = ⟨frm, now + valid, 0, cost, 0, will⟩) := hide (by unfold heardR; rw [hf]; dsimp only; rw [if_pos hst])
        have hsb : (nst == 0) = true := by simpa using hst
        clear hst hf
        go_wp2_with fail
        refine (l06Put a ms cap frm (now + valid) 0 cost 0 will _ (unhide HOK) (rm_same (unhide HRW) (by have hB := unhide HA3; (repeat (first | (with_reducible exact hB) | (with_reducible refine Below.drew ?_) | (with_reducible refine Below.setCell ?_ ?_ _; rotate_left; (first | exact Nat.le_refl _ | (simp; done) | (dsimp only; omega))) | (with_reducible refine Below.alloc ?_ ?_ _; rotate_left; (first | exact Nat.le_refl _ | omega | (simp [World.setCell]; omega)))))))).mono ?_
        rintro e w5 ⟨v, rfl, b5, hl5⟩
        have HB5 : Hid (Below w.heap.size w w5) := hide (Below.trans (by have hB := unhide HA3; (repeat (first | (with_reducible exact hB) | (with_reducible refine Below.drew ?_) | (with_reducible refine Below.setCell ?_ ?_ _; rotate_left; (first | exact Nat.le_refl _ | (simp; done) | (dsimp only; omega))) | (with_reducible refine Below.alloc ?_ ?_ _; rotate_left; (first | exact Nat.le_refl _ | omega | (simp [World.setCell]; omega)))))) (b5.mono (by simp [World.setCell]; omega)))
        have HL5 := hide (hl5.mono (lo' := w.heap.size) (by simp [World.setCell]; omega) (Nat.le_refl _))
        clear b5 hl5
        go_wp2_with fail
        go_ret
        exact ⟨_, rfl, unhide HB5, by rw [unhide HE]; exact unhide HL5⟩
      · have HE : Hid (heardR ⟨0, 0, 0, 0, 0, 0⟩ me frm cost now will valid ns = ⟨frm, now + valid, now + valid, cost, nmt, will⟩) := hide (by unfold heardR; rw [hf]; dsimp only; rw [if_neg hst])
        have hsb : (nst == 0) = false := by simpa using hst
        clear hst hf
        go_wp2_with fail
        refine (l06Put a ms cap frm (now + valid) (now + valid) cost nmt will _ (unhide HOK) (rm_same (unhide HRW) (by have hB := unhide HA3; (repeat (first | (with_reducible exact hB) | (with_reducible refine Below.drew ?_) | (with_reducible refine Below.setCell ?_ ?_ _; rotate_left; (first | exact Nat.le_refl _ | (simp; done) | (dsimp only; omega))) | (with_reducible refine Below.alloc ?_ ?_ _; rotate_left; (first | exact Nat.le_refl _ | omega | (simp [World.setCell]; omega)))))))).mono ?_
        rintro e w5 ⟨v, rfl, b5, hl5⟩
        have HB5 : Hid (Below w.heap.size w w5) := hide (Below.trans (by have hB := unhide HA3; (repeat (first | (with_reducible exact hB) | (with_reducible refine Below.drew ?_) | (with_reducible refine Below.setCell ?_ ?_ _; rotate_left; (first | exact Nat.le_refl _ | (simp; done) | (dsimp only; omega))) | (with_reducible refine Below.alloc ?_ ?_ _; rotate_left; (first | exact Nat.le_refl _ | omega | (simp [World.setCell]; omega)))))) (b5.mono (by simp [World.setCell]; omega)))
        have HL5 := hide (hl5.mono (lo' := w.heap.size) (by simp [World.setCell]; omega) (Nat.le_refl _))
        clear b5 hl5
        go_wp2_with fail
        go_ret
        exact ⟨_, rfl, unhide HB5, by rw [unhide HE]; exact unhide HL5⟩
  · obtain rfl : frm = ad := (unhide HF rfl).symm
    clear HZ HF
    have HA2 := hide ((unhide HA1).alloc (unhide HA1).size (.cells #[.int .i64 frm, .int .i64 (now + valid), .int .i64 sy, .int .i64 cost, .int .i64 co, .int .i64 will] 32))
    have HB2 : Hid (Below w1.heap.size w1 (w1.alloc (.cells #[.int .i64 frm, .int .i64 (now + valid), .int .i64 sy, .int .i64 cost, .int .i64 co, .int .i64 will] 32))) := hide ((Below.refl _ _).alloc (Nat.le_refl _) _)
    have HL2 : Hid (LV (w1.alloc (.cells #[.int .i64 frm, .int .i64 (now + valid), .int .i64 sy, .int .i64 cost, .int .i64 co, .int .i64 will] 32)) w1.heap.size ⟨frm, now + valid, sy, cost, co, will⟩) := hide (lv_new w1 ⟨frm, now + valid, sy, cost, co, will⟩)
    have HX2 := hide ((unhide HX1).below (unhide HB2))
    have HR2 := hide ((unhide HR1).below (unhide HB2))
    have HN2 := hide ((unhide HN1).below (unhide HB2))
    clear HX1 HR1 HN1 HB2
    go_wp2_with fail
    generalize hW : w1.alloc (.cells #[.int .i64 frm, .int .i64 (now + valid), .int .i64 sy, .int .i64 cost, .int .i64 co, .int .i64 will] 32) = W2 at *
    clear hW
    refine (Hl.l04Find will valid b ns capn me _ (by omega) (unhide HN2)).mono ?_
    rintro e w3 ⟨rfl, b3⟩
    clear z0 z1 z2
    have HA3 := hide ((unhide HA2).trans (b3.mono (unhide HA2).size))
    have HL3 := hide ((unhide HL2).below b3)
    have HX3 := hide ((unhide HX2).below b3)
    have HR3 := hide ((unhide HR2).below b3)
    clear b3 HA2 HL2 HX2 HR2 HN2
    obtain ⟨z0, z1, z2⟩ := unhide HX3
    have hlx3 := (unhide HX3).lt
    have hnx3 : ¬ (w.heap.size = w3.heap.size) := by omega
    have hly3 := (unhide HL3).lt
    have hny3 : ¬ (w1.heap.size = w3.heap.size) := by omega
    have hxy : ¬ (w.heap.size = w1.heap.size) := hnx
    have hyx : ¬ (w1.heap.size = w.heap.size) := by omega
    obtain ⟨x0, x1, x2, x3, x4, x5⟩ := (unhide HL3).cells
    simp only [Nat.zero_add] at x1 x2 x3 x4 x5
    have y2 := (unhide HL3).free 2
    have y4 := (unhide HL3).free 4
    dsimp only at x0 x1 x2 x3 x4 x5
    cases hf : ns.find? (Hl.isAd me) with
    | none =>
      have HE : Hid (heardR ⟨frm, hd, sy, ci, co, wl⟩ me frm cost now will valid ns = ⟨frm, now + valid, sy, cost, co, will⟩) := hide (by unfold heardR; rw [hf])
      have hnf : Hl.nbF ns me = ⟨0, 0, 0, false⟩ := by unfold Hl.nbF; rw [hf]; rfl
      rw [hnf]
      unfold Nb.R.value
      dsimp only [Option.isSome]
      clear hnf hf
      go_wp2_with fail
      refine (l06Put a ms cap frm (now + valid) sy cost co will _ (unhide HOK) (rm_same (unhide HRW) (by have hB := unhide HA3; (repeat (first | (with_reducible exact hB) | (with_reducible refine Below.drew ?_) | (with_reducible refine Below.setCell ?_ ?_ _; rotate_left; (first | exact Nat.le_refl _ | (simp; done) | (dsimp only; omega))) | (with_reducible refine Below.alloc ?_ ?_ _; rotate_left; (first | exact Nat.le_refl _ | omega | (simp [World.setCell]; omega)))))))).mono ?_
      rintro e w5 ⟨v, rfl, b5, hl5⟩
      have HB5 : Hid (Below w.heap.size w w5) := hide (Below.trans (by have hB := unhide HA3; (repeat (first | (with_reducible exact hB) | (with_reducible refine Below.drew ?_) | (with_reducible refine Below.setCell ?_ ?_ _; rotate_left; (first | exact Nat.le_refl _ | (simp; done) | (dsimp only; omega))) | (with_reducible refine Below.alloc ?_ ?_ _; rotate_left; (first | exact Nat.le_refl _ | omega | (simp [World.setCell]; omega)))))) (b5.mono (by simp [World.setCell]; omega)))
      have HL5 := hide (hl5.mono (lo' := w.heap.size) (by simp [World.setCell]; omega) (Nat.le_refl _))
      clear b5 hl5
      go_wp2_with fail
      go_ret
      exact ⟨_, rfl, unhide HB5, by rw [unhide HE]; exact unhide HL5⟩
    | some n =>
      obtain ⟨nad, nst, nmt, nmp⟩ := n
      have hnf : Hl.nbF ns me = ⟨nad, nst, nmt, nmp⟩ := by unfold Hl.nbF; rw [hf]; rfl
      rw [hnf]
      unfold Nb.R.value
      dsimp only [Option.isSome]
      clear hnf
      by_cases hst : nst = 0
      · have HE : Hid (heardR ⟨frm, hd, sy, ci, co, wl⟩ me frm cost now will valid ns = ⟨frm, now + valid, 0, cost, co, will⟩) := hide (by unfold heardR; rw [hf]; dsimp only; rw [if_pos hst])
        have hsb : (nst == 0) = true := by simpa using hst
        clear hst hf
        go_wp2_with fail
        refine (l06Put a ms cap frm (now + valid) 0 cost co will _ (unhide HOK) (rm_same (unhide HRW) (by have hB := unhide HA3; (repeat (first | (with_reducible exact hB) | (with_reducible refine Below.drew ?_) | (with_reducible refine Below.setCell ?_ ?_ _; rotate_left; (first | exact Nat.le_refl _ | (simp; done) | (dsimp only; omega))) | (with_reducible refine Below.alloc ?_ ?_ _; rotate_left; (first | exact Nat.le_refl _ | omega | (simp [World.setCell]; omega)))))))).mono ?_
        rintro e w5 ⟨v, rfl, b5, hl5⟩
        have HB5 : Hid (Below w.heap.size w w5) := hide (Below.trans (by have hB := unhide HA3; (repeat (first | (with_reducible exact hB) | (with_reducible refine Below.drew ?_) | (with_reducible refine Below.setCell ?_ ?_ _; rotate_left; (first | exact Nat.le_refl _ | (simp; done) | (dsimp only; omega))) | (with_reducible refine Below.alloc ?_ ?_ _; rotate_left; (first | exact Nat.le_refl _ | omega | (simp [World.setCell]; omega)))))) (b5.mono (by simp [World.setCell]; omega)))
        have HL5 := hide (hl5.mono (lo' := w.heap.size) (by simp [World.setCell]; omega) (Nat.le_refl _))
        clear b5 hl5
        go_wp2_with fail
        go_ret
        exact ⟨_, rfl, unhide HB5, by rw [unhide HE]; exact unhide HL5⟩
      · have HE : Hid (heardR ⟨frm, hd, sy, ci, co, wl⟩ me frm cost now will valid ns = ⟨frm, now + valid, now + valid, cost, nmt, will⟩) := hide (by unfold heardR; rw [hf]; dsimp only; rw [if_neg hst])
        have hsb : (nst == 0) = false := by simpa using hst
        clear hst hf
        go_wp2_with fail
        refine (l06Put a ms cap frm (now + valid) (now + valid) cost nmt will _ (unhide HOK) (rm_same (unhide HRW) (by have hB := unhide HA3; (repeat (first | (with_reducible exact hB) | (with_reducible refine Below.drew ?_) | (with_reducible refine Below.setCell ?_ ?_ _; rotate_left; (first | exact Nat.le_refl _ | (simp; done) | (dsimp only; omega))) | (with_reducible refine Below.alloc ?_ ?_ _; rotate_left; (first | exact Nat.le_refl _ | omega | (simp [World.setCell]; omega)))))))).mono ?_
        rintro e w5 ⟨v, rfl, b5, hl5⟩
        have HB5 : Hid (Below w.heap.size w w5) := hide (Below.trans (by have hB := unhide HA3; (repeat (first | (with_reducible exact hB) | (with_reducible refine Below.drew ?_) | (with_reducible refine Below.setCell ?_ ?_ _; rotate_left; (first | exact Nat.le_refl _ | (simp; done) | (dsimp only; omega))) | (with_reducible refine Below.alloc ?_ ?_ _; rotate_left; (first | exact Nat.le_refl _ | omega | (simp [World.setCell]; omega)))))) (b5.mono (by simp [World.setCell]; omega)))
        have HL5 := hide (hl5.mono (lo' := w.heap.size) (by simp [World.setCell]; omega) (Nat.le_refl _))
        clear b5 hl5
        go_wp2_with fail
        go_ret
        exact ⟨_, rfl, unhide HB5, by rw [unhide HE]; exact unhide HL5⟩
set_option maxRecDepth 100000 in
set_option maxHeartbeats 4000000 in
theorem specHear (g off : Nat) (ms : List R) (cap : Nat) (me frm cost now will valid : Int) (b : Option Addr) (ns : List Nb.R) (capn : Nat) (w : World) (hm : ms.length ≤ 1048576) (hnl : ns.length ≤ 1048576) (hr : RM w (some ⟨g, off, none⟩) ms) (hr' : Nb.RM w b ns) :
    Calls Try.prog 21 #[.slice (some ⟨g, off, none⟩) ms.length cap, .int .i64 me, .int .i64 frm, .int .i64 cost, .int .i64 now, .agg #[.int .i64 will, .int .i64 valid, .slice b ns.length capn]] w fun e w' => ∃ v, e = .returned (.tuple #[v, .int .i64 (hearE ms me frm cost now will valid ns)]) ∧ Below w.heap.size w w' ∧ LstV w' v (hearA ms me frm cost now will valid ns) w.heap.size w'.heap.size := by
  have HA : Hid (Below w.heap.size w (w.alloc (.cells #[.int .i64 will, .int .i64 valid, .slice b ns.length capn] 47))) := hide ((Below.refl _ _).alloc (Nat.le_refl _) _)
  have HX : Hid (Bx3 (w.alloc (.cells #[.int .i64 will, .int .i64 valid, .slice b ns.length capn] 47)) w.heap.size will valid (.slice b ns.length capn)) := hide (bx3_new w will valid _ _)
  have HR := hide (hr.below (unhide HA))
  have HN := hide (hr'.below (unhide HA))
  clear hr hr'
  by_cases hbig : (4096 : Int) < ms.length
  · have hc := code_long (ms := ms) (by omega)
    have he : hearE ms me frm cost now will valid ns = 2 := by unfold hearE hearC; simp [hc]
    have ha : hearA ms me frm cost now will valid ns = [] := by unfold hearA; rw [he]; simp
    rw [he, ha]
    clear he ha
    clear hc
    go_enter Try.func21, Try.ntmps21
    go_wp2_with fail
    go_ret2
    exact ⟨_, rfl, (unhide HA).alloc (unhide HA).size _, lstV_nil _ _ _ _ _⟩
  have hsm : ms.length ≤ 4096 := by omega
  cases hs : linksB ms
  · have hc := code_bad (by omega) hs
    have he : hearE ms me frm cost now will valid ns = 1 := by unfold hearE hearC; simp [hc]
    have ha : hearA ms me frm cost now will valid ns = [] := by unfold hearA; rw [he]; simp
    rw [he, ha]
    clear he ha
    have HS := hide hs
    clear hc hs
    go_enter Try.func21, Try.ntmps21
    go_wp2_with fail
    refine (specOK _ ms cap _ hm (unhide HR)).mono ?_
    rintro e w1 ⟨rfl, b1⟩
    rw [unhide HS]
    have HA1 := hide ((unhide HA).trans (b1.mono (unhide HA).size))
    have HX1 := hide ((unhide HX).below b1)
    have HR1 := hide ((unhide HR).below b1)
    have HN1 := hide ((unhide HN).below b1)
    clear b1
    go_wp2_with fail
    go_ret2
    exact ⟨_, rfl, (unhide HA1).alloc (unhide HA1).size _, lstV_nil _ _ _ _ _⟩
  have hc := code_zero hs
  have HS := hide hs
  clear hs
  cases h3 : Hl.helB will valid ns
  · have H3 := hide h3
    have he : hearE ms me frm cost now will valid ns = 1 := by unfold hearE hearC; simp [hc, h3]
    have ha : hearA ms me frm cost now will valid ns = [] := by unfold hearA; rw [he]; simp
    rw [he, ha]
    clear he ha
    clear hc h3
    go_enter Try.func21, Try.ntmps21
    go_wp2_with fail
    refine (specOK _ ms cap _ hm (unhide HR)).mono ?_
    rintro e w1 ⟨rfl, b1⟩
    rw [unhide HS]
    have HA1 := hide ((unhide HA).trans (b1.mono (unhide HA).size))
    have HX1 := hide ((unhide HX).below b1)
    have HR1 := hide ((unhide HR).below b1)
    have HN1 := hide ((unhide HN).below b1)
    clear b1
    obtain ⟨z0, z1, z2⟩ := unhide HX1
    go_wp2_with fail
    refine (Hl.specOK will valid b ns capn _ hnl (unhide HN1)).mono ?_
    rintro e w2 ⟨rfl, b2⟩
    rw [unhide H3]
    clear z0 z1 z2
    have HA2 := hide ((unhide HA1).trans (b2.mono (unhide HA1).size))
    have HX2 := hide ((unhide HX1).below b2)
    have HR2 := hide ((unhide HR1).below b2)
    have HN2 := hide ((unhide HN1).below b2)
    clear b2
    obtain ⟨z0, z1, z2⟩ := unhide HX2
    go_wp2_with (first | (go_at_call 43; refine (l01Addr _ _).mono ?_; rintro e w' ⟨rfl, rfl⟩) | (go_at_call 45; refine (l01In _ _ _ _).mono ?_; rintro e w' ⟨rfl, rfl⟩))
    go_ret2
    exact ⟨_, rfl, (unhide HA2).alloc (unhide HA2).size _, lstV_nil _ _ _ _ _⟩
  have H3 := hide h3
  cases h1 : inB me 1 8
  · have hq := h3
    have he : hearE ms me frm cost now will valid ns = 1 := by unfold hearE hearC; simp [hc, h1]
    have ha : hearA ms me frm cost now will valid ns = [] := by unfold hearA; rw [he]; simp
    rw [he, ha]
    clear he ha
    clear hc h3 hq
    go_enter Try.func21, Try.ntmps21
    go_wp2_with fail
    refine (specOK _ ms cap _ hm (unhide HR)).mono ?_
    rintro e w1 ⟨rfl, b1⟩
    rw [unhide HS]
    have HA1 := hide ((unhide HA).trans (b1.mono (unhide HA).size))
    have HX1 := hide ((unhide HX).below b1)
    have HR1 := hide ((unhide HR).below b1)
    have HN1 := hide ((unhide HN).below b1)
    clear b1
    obtain ⟨z0, z1, z2⟩ := unhide HX1
    go_wp2_with fail
    refine (Hl.specOK will valid b ns capn _ hnl (unhide HN1)).mono ?_
    rintro e w2 ⟨rfl, b2⟩
    rw [unhide H3]
    clear z0 z1 z2
    have HA2 := hide ((unhide HA1).trans (b2.mono (unhide HA1).size))
    have HX2 := hide ((unhide HX1).below b2)
    have HR2 := hide ((unhide HR1).below b2)
    have HN2 := hide ((unhide HN1).below b2)
    clear b2
    obtain ⟨z0, z1, z2⟩ := unhide HX2
    go_wp2_with (first | (go_at_call 43; refine (l01Addr _ _).mono ?_; rintro e w' ⟨rfl, rfl⟩) | (go_at_call 45; refine (l01In _ _ _ _).mono ?_; rintro e w' ⟨rfl, rfl⟩))
    go_ret2
    exact ⟨_, rfl, (unhide HA2).alloc (unhide HA2).size _, lstV_nil _ _ _ _ _⟩
  cases h2 : inB frm 1 8
  · have hq := h3
    have he : hearE ms me frm cost now will valid ns = 1 := by unfold hearE hearC; simp [hc, h2]
    have ha : hearA ms me frm cost now will valid ns = [] := by unfold hearA; rw [he]; simp
    rw [he, ha]
    clear he ha
    clear hc h3 hq
    go_enter Try.func21, Try.ntmps21
    go_wp2_with fail
    refine (specOK _ ms cap _ hm (unhide HR)).mono ?_
    rintro e w1 ⟨rfl, b1⟩
    rw [unhide HS]
    have HA1 := hide ((unhide HA).trans (b1.mono (unhide HA).size))
    have HX1 := hide ((unhide HX).below b1)
    have HR1 := hide ((unhide HR).below b1)
    have HN1 := hide ((unhide HN).below b1)
    clear b1
    obtain ⟨z0, z1, z2⟩ := unhide HX1
    go_wp2_with fail
    refine (Hl.specOK will valid b ns capn _ hnl (unhide HN1)).mono ?_
    rintro e w2 ⟨rfl, b2⟩
    rw [unhide H3]
    clear z0 z1 z2
    have HA2 := hide ((unhide HA1).trans (b2.mono (unhide HA1).size))
    have HX2 := hide ((unhide HX1).below b2)
    have HR2 := hide ((unhide HR1).below b2)
    have HN2 := hide ((unhide HN1).below b2)
    clear b2
    obtain ⟨z0, z1, z2⟩ := unhide HX2
    go_wp2_with (first | (go_at_call 43; refine (l01Addr _ _).mono ?_; rintro e w' ⟨rfl, rfl⟩) | (go_at_call 45; refine (l01In _ _ _ _).mono ?_; rintro e w' ⟨rfl, rfl⟩))
    go_ret2
    exact ⟨_, rfl, (unhide HA2).alloc (unhide HA2).size _, lstV_nil _ _ _ _ _⟩
  by_cases hsf : frm = me
  · have hsb : (frm == me) = true := by simpa using hsf
    have h9 := h1
    rw [← hsf] at h9
    have he : hearE ms me frm cost now will valid ns = 9 := by unfold hearE hearC; simp [hc, h1, h2, h3, hsf, h9]
    have ha : hearA ms me frm cost now will valid ns = ms := by unfold hearA; rw [he]; simp
    rw [he, ha]
    clear he ha
    clear hc h3 hsf h9
    go_enter Try.func21, Try.ntmps21
    go_wp2_with fail
    refine (specOK _ ms cap _ hm (unhide HR)).mono ?_
    rintro e w1 ⟨rfl, b1⟩
    rw [unhide HS]
    have HA1 := hide ((unhide HA).trans (b1.mono (unhide HA).size))
    have HX1 := hide ((unhide HX).below b1)
    have HR1 := hide ((unhide HR).below b1)
    have HN1 := hide ((unhide HN).below b1)
    clear b1
    obtain ⟨z0, z1, z2⟩ := unhide HX1
    go_wp2_with fail
    refine (Hl.specOK will valid b ns capn _ hnl (unhide HN1)).mono ?_
    rintro e w2 ⟨rfl, b2⟩
    rw [unhide H3]
    clear z0 z1 z2
    have HA2 := hide ((unhide HA1).trans (b2.mono (unhide HA1).size))
    have HX2 := hide ((unhide HX1).below b2)
    have HR2 := hide ((unhide HR1).below b2)
    have HN2 := hide ((unhide HN1).below b2)
    clear b2
    obtain ⟨z0, z1, z2⟩ := unhide HX2
    go_wp2_with (first | (go_at_call 43; refine (l01Addr _ _).mono ?_; rintro e w' ⟨rfl, rfl⟩) | (go_at_call 45; refine (l01In _ _ _ _).mono ?_; rintro e w' ⟨rfl, rfl⟩))
    refine (l06Own g off ms _ _ _ rfl (by omega) (unhide HR2)).mono ?_
    rintro e w3 ⟨v, rfl, b3, hl3⟩
    have HA3 := hide ((unhide HA2).trans (b3.mono (unhide HA2).size))
    have HL3 := hide (hl3.mono (lo' := w.heap.size) (unhide HA2).size (Nat.le_refl _))
    clear b3 hl3
    go_wp2_with fail
    go_ret2
    exact ⟨_, rfl, unhide HA3, unhide HL3⟩
  have hsb : (frm == me) = false := by simpa using hsf
  cases h4 : inB cost 1 256
  rotate_left
  cases h5 : inB now 0 1000000
  rotate_left
  · have hnw : 0 ≤ now ∧ now ≤ 1000000 := by simpa [inB] using h5
    have he : hearE ms me frm cost now will valid ns = 0 := by unfold hearE hearC; simp [hc, h1, h2, h3, hsf, h4, h5]
    have ha : hearA ms me frm cost now will valid ns = putL ms (heardR (lkF ms frm) me frm cost now will valid ns) := by unfold hearA; rw [he]; simp
    rw [he, ha]
    clear he ha
    clear hc h3 hsf
    go_enter Try.func21, Try.ntmps21
    go_wp2_with fail
    refine (specOK _ ms cap _ hm (unhide HR)).mono ?_
    rintro e w1 ⟨rfl, b1⟩
    rw [unhide HS]
    have HA1 := hide ((unhide HA).trans (b1.mono (unhide HA).size))
    have HX1 := hide ((unhide HX).below b1)
    have HR1 := hide ((unhide HR).below b1)
    have HN1 := hide ((unhide HN).below b1)
    clear b1
    obtain ⟨z0, z1, z2⟩ := unhide HX1
    go_wp2_with fail
    refine (Hl.specOK will valid b ns capn _ hnl (unhide HN1)).mono ?_
    rintro e w2 ⟨rfl, b2⟩
    rw [unhide H3]
    clear z0 z1 z2
    have HA2 := hide ((unhide HA1).trans (b2.mono (unhide HA1).size))
    have HX2 := hide ((unhide HX1).below b2)
    have HR2 := hide ((unhide HR1).below b2)
    have HN2 := hide ((unhide HN1).below b2)
    clear b2
    obtain ⟨z0, z1, z2⟩ := unhide HX2
    go_wp2_with (first | (go_at_call 43; refine (l01Addr _ _).mono ?_; rintro e w' ⟨rfl, rfl⟩) | (go_at_call 45; refine (l01In _ _ _ _).mono ?_; rintro e w' ⟨rfl, rfl⟩))
    refine (l06Hear _ ms cap me frm cost now will valid b ns capn _ (unhide HS) (unhide H3) hnw.1 hnw.2 (unhide HR2) (unhide HN2)).mono ?_
    rintro e w3 ⟨v, rfl, b3, hl3⟩
    have HA3 := hide ((unhide HA2).trans (b3.mono (unhide HA2).size))
    have HL3 := hide (hl3.mono (lo' := w.heap.size) (unhide HA2).size (Nat.le_refl _))
    clear b3 hl3
    go_wp2_with fail
    go_ret2
    exact ⟨_, rfl, unhide HA3, unhide HL3⟩
  all_goals
    have he : hearE ms me frm cost now will valid ns = 4 := by unfold hearE hearC; simp [*]
    have ha : hearA ms me frm cost now will valid ns = [] := by unfold hearA; rw [he]; simp
    rw [he, ha]
    clear he ha
    clear hc h3 hsf
    go_enter Try.func21, Try.ntmps21
    go_wp2_with fail
    refine (specOK _ ms cap _ hm (unhide HR)).mono ?_
    rintro e w1 ⟨rfl, b1⟩
    rw [unhide HS]
    have HA1 := hide ((unhide HA).trans (b1.mono (unhide HA).size))
    have HX1 := hide ((unhide HX).below b1)
    have HR1 := hide ((unhide HR).below b1)
    have HN1 := hide ((unhide HN).below b1)
    clear b1
    obtain ⟨z0, z1, z2⟩ := unhide HX1
    go_wp2_with fail
    refine (Hl.specOK will valid b ns capn _ hnl (unhide HN1)).mono ?_
    rintro e w2 ⟨rfl, b2⟩
    rw [unhide H3]
    clear z0 z1 z2
    have HA2 := hide ((unhide HA1).trans (b2.mono (unhide HA1).size))
    have HX2 := hide ((unhide HX1).below b2)
    have HR2 := hide ((unhide HR1).below b2)
    have HN2 := hide ((unhide HN1).below b2)
    clear b2
    obtain ⟨z0, z1, z2⟩ := unhide HX2
    go_wp2_with (first | (go_at_call 43; refine (l01Addr _ _).mono ?_; rintro e w' ⟨rfl, rfl⟩) | (go_at_call 45; refine (l01In _ _ _ _).mono ?_; rintro e w' ⟨rfl, rfl⟩))
    go_ret2
    exact ⟨_, rfl, (unhide HA2).alloc (unhide HA2).size _, lstV_nil _ _ _ _ _⟩
end Ln
end Go.Proofs.Ytmelbilepfnmjam
