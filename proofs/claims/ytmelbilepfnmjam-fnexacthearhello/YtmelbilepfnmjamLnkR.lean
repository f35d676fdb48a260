/-
  What a hello does to a link, and the program's contracts of it (heardLink, hearCode).
-/
import Derived.Test.YtmelbilepfnmjamLnkO
import Derived.Test.YtmelbilepfnmjamHelN
import Derived.BigRegion
namespace Go.Proofs.Ytmelbilepfnmjam
open Go.ChangeShapes Go.WideShapes Go.ChangeAt Go.RowKit
set_option linter.unusedVariables false
set_option linter.unusedSimpArgs false
attribute [local go_sem ↓] Go.wp_at_zero Go.wp_at_succ
namespace Ln
open W1 Lk Mp
/-- A link behind a hello. -/
def heardR (x : R) (me frm cost now will valid : Int) (ns : List Nb.R) : R :=
  match ns.find? (Hl.isAd me) with
  | none => ⟨frm, now + valid, x.sy, cost, x.co, will⟩
  | some n => if n.st = 0 then ⟨frm, now + valid, 0, cost, x.co, will⟩ else ⟨frm, now + valid, now + valid, cost, n.mt, will⟩
/-- The code of a hello that is heard, behind that of the links. -/
def hearC (me frm cost now will valid : Int) (ns : List Nb.R) : Int :=
  if (inB me 1 8 && (inB frm 1 8 && Hl.helB will valid ns)) = true then (if frm = me then 9 else if (inB cost 1 256 && inB now 0 1000000) = true then 0 else 4) else 1
def hearE (ms : List R) (me frm cost now will valid : Int) (ns : List Nb.R) : Int := if codeL ms = 0 then hearC me frm cost now will valid ns else codeL ms
def hearA (ms : List R) (me frm cost now will valid : Int) (ns : List Nb.R) : List R :=
  if hearE ms me frm cost now will valid ns = 0 then putL ms (heardR (lkF ms frm) me frm cost now will valid ns) else if hearE ms me frm cost now will valid ns = 9 then ms else []
theorem hear_len (ms : List R) (me frm cost now will valid : Int) (ns : List Nb.R) : (hearA ms me frm cost now will valid ns).length ≤ if ms.length ≤ 4096 then 5000 else 0 := by
  unfold hearA
  split
  · rename_i h
    have h8 : ms.length ≤ 8 := by
      unfold hearE at h
      split at h
      · rename_i hc
        cases hh : linksB ms
        · unfold codeL at hc; rw [hh] at hc; split at hc <;> simp at hc
        · exact links_len hh
      · rename_i hc; exact absurd h hc
    have := putL_len ms (heardR (lkF ms frm) me frm cost now will valid ns)
    rw [if_pos (by omega)]; omega
  · split
    · rename_i h
      have h8 : ms.length ≤ 8 := by
        unfold hearE at h
        split at h
        · rename_i hc
          cases hh : linksB ms
          · unfold codeL at hc; rw [hh] at hc; split at hc <;> simp at hc
          · exact links_len hh
        · unfold codeL at h; split at h <;> (try split at h) <;> omega
      rw [if_pos (by omega)]; omega
    · split <;> simp
theorem nb_none {x y : Int} {ns : List Nb.R} {k : Int} (h : Hl.helB x y ns = true) (hf : ns.find? (Hl.isAd k) = none) : Hl.nbA x y ns k = Nb.R.zero ∧ Hl.nbE x y ns k = 5 := by
  unfold Hl.nbA Hl.nbE Hl.nbF; rw [if_pos h, if_pos h, hf]; exact ⟨rfl, rfl⟩
theorem nb_some {x y : Int} {ns : List Nb.R} {k : Int} {n : Nb.R} (h : Hl.helB x y ns = true) (hf : ns.find? (Hl.isAd k) = some n) : Hl.nbA x y ns k = n ∧ Hl.nbE x y ns k = 0 := by
  unfold Hl.nbA Hl.nbE Hl.nbF; rw [if_pos h, if_pos h, hf]; exact ⟨rfl, rfl⟩
set_option maxRecDepth 100000 in
set_option maxHeartbeats 4000000 in
theorem heardLink (ad hd sy ci co wl me frm cost now will valid : Int) (a : Option Addr) (ns : List Nb.R) (cap : Nat) (w : World) (hh : Hl.helB will valid ns = true) (hn0 : 0 ≤ now) (hn1 : now ≤ 1000000) (hr : Nb.RM w a ns) :
    Calls Try.prog 50 #[.agg #[.int .i64 ad, .int .i64 hd, .int .i64 sy, .int .i64 ci, .int .i64 co, .int .i64 wl], .int .i64 me, .int .i64 frm, .int .i64 cost, .int .i64 now, .agg #[.int .i64 will, .int .i64 valid, .slice a ns.length cap]] w fun e w' => e = .returned (heardR ⟨ad, hd, sy, ci, co, wl⟩ me frm cost now will valid ns).value ∧ Below w.heap.size w w' := by
  have hv := Hl.hel_valid hh
  have h8 := Hl.hel_len hh
  have HBB : Hid (Below (w.alloc (.cells #[.int .i64 frm, .int .i64 (now + valid), .int .i64 sy, .int .i64 cost, .int .i64 co, .int .i64 will] 32)).heap.size (w.alloc (.cells #[.int .i64 frm, .int .i64 (now + valid), .int .i64 sy, .int .i64 cost, .int .i64 co, .int .i64 will] 32)) ((((w.alloc (.cells #[.int .i64 frm, .int .i64 (now + valid), .int .i64 sy, .int .i64 cost, .int .i64 co, .int .i64 will] 32)).alloc (.cells #[.int .i64 will, .int .i64 valid, .slice a ns.length cap] 47)).alloc (.cells #[.int .i64 0, .int .i64 0, .int .i64 0, .int .i64 0, .int .i64 0, .int .i64 0] 32)).drew)) := hide (((Below.refl _ _).alloc (Nat.le_refl _) _).alloc (by simp) _).drew
  have HA : Hid (Below w.heap.size w ((((w.alloc (.cells #[.int .i64 frm, .int .i64 (now + valid), .int .i64 sy, .int .i64 cost, .int .i64 co, .int .i64 will] 32)).alloc (.cells #[.int .i64 will, .int .i64 valid, .slice a ns.length cap] 47)).alloc (.cells #[.int .i64 0, .int .i64 0, .int .i64 0, .int .i64 0, .int .i64 0, .int .i64 0] 32)).drew)) := hide ((((Below.refl _ _).alloc (Nat.le_refl _) _).alloc (by simp) _).alloc (by simp; omega) _).drew
  have HL : Hid (LV ((((w.alloc (.cells #[.int .i64 frm, .int .i64 (now + valid), .int .i64 sy, .int .i64 cost, .int .i64 co, .int .i64 will] 32)).alloc (.cells #[.int .i64 will, .int .i64 valid, .slice a ns.length cap] 47)).alloc (.cells #[.int .i64 0, .int .i64 0, .int .i64 0, .int .i64 0, .int .i64 0, .int .i64 0] 32)).drew) w.heap.size ⟨frm, now + valid, sy, cost, co, will⟩) := hide ((lv_new w ⟨frm, now + valid, sy, cost, co, will⟩).below (unhide HBB))
  have HZ : Hid (LV ((((w.alloc (.cells #[.int .i64 frm, .int .i64 (now + valid), .int .i64 sy, .int .i64 cost, .int .i64 co, .int .i64 will] 32)).alloc (.cells #[.int .i64 will, .int .i64 valid, .slice a ns.length cap] 47)).alloc (.cells #[.int .i64 0, .int .i64 0, .int .i64 0, .int .i64 0, .int .i64 0, .int .i64 0] 32)).drew) (w.heap.size + 1 + 1) R.zero) := hide (by have e : ((w.alloc (.cells #[.int .i64 frm, .int .i64 (now + valid), .int .i64 sy, .int .i64 cost, .int .i64 co, .int .i64 will] 32)).alloc (.cells #[.int .i64 will, .int .i64 valid, .slice a ns.length cap] 47)).heap.size = w.heap.size + 1 + 1 := (by simp); rw [← e]; exact lv_new ((w.alloc (.cells #[.int .i64 frm, .int .i64 (now + valid), .int .i64 sy, .int .i64 cost, .int .i64 co, .int .i64 will] 32)).alloc (.cells #[.int .i64 will, .int .i64 valid, .slice a ns.length cap] 47)) R.zero)
  have HR := hide (hr.below (unhide HA))
  have HH := hide hh
  clear hr hh HBB
  cases hf : ns.find? (Hl.isAd me) with
  | none =>
    obtain ⟨n1, n2⟩ := nb_none (unhide HH) hf
    have he : heardR ⟨ad, hd, sy, ci, co, wl⟩ me frm cost now will valid ns = ⟨frm, now + valid, sy, cost, co, will⟩ := by unfold heardR; rw [hf]
    rw [he]
    have HN1 := hide n1
    have HN2 := hide n2
    clear n1 n2 hf he
    go_enter Try.func50, Try.ntmps50
    go_wp2_with fail
    go_region
    go_wp2_with fail
    generalize hW : ((((w.alloc (.cells #[.int .i64 frm, .int .i64 (now + valid), .int .i64 sy, .int .i64 cost, .int .i64 co, .int .i64 will] 32)).alloc (.cells #[.int .i64 will, .int .i64 valid, .slice a ns.length cap] 47)).alloc (.cells #[.int .i64 0, .int .i64 0, .int .i64 0, .int .i64 0, .int .i64 0, .int .i64 0] 32)).drew) = W0 at *
    clear hW
    refine (Hl.implNbOf will valid a ns cap me _ (by omega) (unhide HR)).mono ?_
    rintro e w1 ⟨rfl, b1⟩
    rw [unhide HN1, unhide HN2]
    unfold Nb.R.zero Nb.R.value
    dsimp only
    have HA1 := hide ((unhide HA).trans (b1.mono (unhide HA).size))
    have HL1 := hide ((unhide HL).below b1)
    have HZ1 := hide ((unhide HZ).below b1)
    clear b1 HA HL HZ HR
    have hlw : w.heap.size + 1 + 1 < w1.heap.size := (unhide HZ1).lt
    have hnw : ¬ (w.heap.size + 1 + 1 = w1.heap.size) := by omega
    have hlx : w.heap.size < w1.heap.size := by omega
    have hnx : ¬ (w.heap.size = w1.heap.size) := by omega
    have hzx : ¬ (w.heap.size + 1 + 1 = w.heap.size) := by omega
    have hxz : ¬ (w.heap.size = w.heap.size + 1 + 1) := by omega
    obtain ⟨x0, x1, x2, x3, x4, x5⟩ := (unhide HL1).cells
    simp only [Nat.zero_add] at x1 x2 x3 x4 x5
    have y0 := (unhide HL1).free 0
    have y1 := (unhide HL1).free 1
    have y2 := (unhide HL1).free 2
    have y3 := (unhide HL1).free 3
    have y4 := (unhide HL1).free 4
    have y5 := (unhide HL1).free 5
    obtain ⟨z0, z1, z2, z3, z4, z5⟩ := (unhide HZ1).cells
    simp only [Nat.zero_add] at z1 z2 z3 z4 z5
    have u0 := (unhide HZ1).free 0
    have u1 := (unhide HZ1).free 1
    have u2 := (unhide HZ1).free 2
    have u3 := (unhide HZ1).free 3
    have u4 := (unhide HZ1).free 4
    have u5 := (unhide HZ1).free 5
    unfold R.zero at z0 z1 z2 z3 z4 z5
    dsimp only at x0 x1 x2 x3 x4 x5 z0 z1 z2 z3 z4 z5
    go_wp2_with fail
    refine bodyPost_ret (v := .agg #[.int .i64 frm, .int .i64 (now + valid), .int .i64 sy, .int .i64 cost, .int .i64 co, .int .i64 will]) (by simp [results, Try.results50, go_sem, z0, z1, z2, z3, z4, z5, hlw]) rfl ⟨rfl, ?_⟩
    have hB := unhide HA1
    (repeat (first | (with_reducible exact hB) | (with_reducible refine Below.drew ?_) | (with_reducible refine Below.setCell ?_ ?_ _; rotate_left; (first | exact Nat.le_refl _ | (simp; done) | (dsimp only; omega))) | (with_reducible refine Below.alloc ?_ ?_ _; rotate_left; (first | exact Nat.le_refl _ | omega | (simp [World.setCell]; omega)))))
  | some n =>
    obtain ⟨n1, n2⟩ := nb_some (unhide HH) hf
    obtain ⟨nad, nst, nmt, nmp⟩ := n
    by_cases hst : nst = 0
    · have he : heardR ⟨ad, hd, sy, ci, co, wl⟩ me frm cost now will valid ns = ⟨frm, now + valid, 0, cost, co, will⟩ := by unfold heardR; rw [hf]; dsimp only; rw [if_pos hst]
      rw [he]
      have HN1 := hide n1
      have HN2 := hide n2
      have hsb : (nst == 0) = true := by simpa using hst
      clear n1 n2 hf he hst
      go_enter Try.func50, Try.ntmps50
      go_wp2_with fail
      go_region
      go_wp2_with fail
      generalize hW : ((((w.alloc (.cells #[.int .i64 frm, .int .i64 (now + valid), .int .i64 sy, .int .i64 cost, .int .i64 co, .int .i64 will] 32)).alloc (.cells #[.int .i64 will, .int .i64 valid, .slice a ns.length cap] 47)).alloc (.cells #[.int .i64 0, .int .i64 0, .int .i64 0, .int .i64 0, .int .i64 0, .int .i64 0] 32)).drew) = W0 at *
      clear hW
      refine (Hl.implNbOf will valid a ns cap me _ (by omega) (unhide HR)).mono ?_
      rintro e w1 ⟨rfl, b1⟩
      rw [unhide HN1, unhide HN2]
      unfold Nb.R.value
      dsimp only
      have HA1 := hide ((unhide HA).trans (b1.mono (unhide HA).size))
      have HL1 := hide ((unhide HL).below b1)
      have HZ1 := hide ((unhide HZ).below b1)
      clear b1 HA HL HZ HR
      have hlw : w.heap.size + 1 + 1 < w1.heap.size := (unhide HZ1).lt
      have hnw : ¬ (w.heap.size + 1 + 1 = w1.heap.size) := by omega
      have hlx : w.heap.size < w1.heap.size := by omega
      have hnx : ¬ (w.heap.size = w1.heap.size) := by omega
      have hzx : ¬ (w.heap.size + 1 + 1 = w.heap.size) := by omega
      have hxz : ¬ (w.heap.size = w.heap.size + 1 + 1) := by omega
      obtain ⟨x0, x1, x2, x3, x4, x5⟩ := (unhide HL1).cells
      simp only [Nat.zero_add] at x1 x2 x3 x4 x5
      have y0 := (unhide HL1).free 0
      have y1 := (unhide HL1).free 1
      have y2 := (unhide HL1).free 2
      have y3 := (unhide HL1).free 3
      have y4 := (unhide HL1).free 4
      have y5 := (unhide HL1).free 5
      obtain ⟨z0, z1, z2, z3, z4, z5⟩ := (unhide HZ1).cells
      simp only [Nat.zero_add] at z1 z2 z3 z4 z5
      have u0 := (unhide HZ1).free 0
      have u1 := (unhide HZ1).free 1
      have u2 := (unhide HZ1).free 2
      have u3 := (unhide HZ1).free 3
      have u4 := (unhide HZ1).free 4
      have u5 := (unhide HZ1).free 5
      unfold R.zero at z0 z1 z2 z3 z4 z5
      dsimp only at x0 x1 x2 x3 x4 x5 z0 z1 z2 z3 z4 z5
      go_wp2_with fail
      refine bodyPost_ret (v := .agg #[.int .i64 frm, .int .i64 (now + valid), .int .i64 0, .int .i64 cost, .int .i64 co, .int .i64 will]) (by simp [results, Try.results50, go_sem, z0, z1, z2, z3, z4, z5, hlw, hzx, hxz]) rfl ⟨rfl, ?_⟩
      have hB := unhide HA1
      (repeat (first | (with_reducible exact hB) | (with_reducible refine Below.drew ?_) | (with_reducible refine Below.setCell ?_ ?_ _; rotate_left; (first | exact Nat.le_refl _ | (simp; done) | (dsimp only; omega))) | (with_reducible refine Below.alloc ?_ ?_ _; rotate_left; (first | exact Nat.le_refl _ | omega | (simp [World.setCell]; omega)))))
    · have he : heardR ⟨ad, hd, sy, ci, co, wl⟩ me frm cost now will valid ns = ⟨frm, now + valid, now + valid, cost, nmt, will⟩ := by unfold heardR; rw [hf]; dsimp only; rw [if_neg hst]
      rw [he]
      have HN1 := hide n1
      have HN2 := hide n2
      have hsb : (nst == 0) = false := by simpa using hst
      clear n1 n2 hf he hst
      go_enter Try.func50, Try.ntmps50
      go_wp2_with fail
      go_region
      go_wp2_with fail
      generalize hW : ((((w.alloc (.cells #[.int .i64 frm, .int .i64 (now + valid), .int .i64 sy, .int .i64 cost, .int .i64 co, .int .i64 will] 32)).alloc (.cells #[.int .i64 will, .int .i64 valid, .slice a ns.length cap] 47)).alloc (.cells #[.int .i64 0, .int .i64 0, .int .i64 0, .int .i64 0, .int .i64 0, .int .i64 0] 32)).drew) = W0 at *
      clear hW
      refine (Hl.implNbOf will valid a ns cap me _ (by omega) (unhide HR)).mono ?_
      rintro e w1 ⟨rfl, b1⟩
      rw [unhide HN1, unhide HN2]
      unfold Nb.R.value
      dsimp only
      have HA1 := hide ((unhide HA).trans (b1.mono (unhide HA).size))
      have HL1 := hide ((unhide HL).below b1)
      have HZ1 := hide ((unhide HZ).below b1)
      clear b1 HA HL HZ HR
      have hlw : w.heap.size + 1 + 1 < w1.heap.size := (unhide HZ1).lt
      have hnw : ¬ (w.heap.size + 1 + 1 = w1.heap.size) := by omega
      have hlx : w.heap.size < w1.heap.size := by omega
      have hnx : ¬ (w.heap.size = w1.heap.size) := by omega
      have hzx : ¬ (w.heap.size + 1 + 1 = w.heap.size) := by omega
      have hxz : ¬ (w.heap.size = w.heap.size + 1 + 1) := by omega
      obtain ⟨x0, x1, x2, x3, x4, x5⟩ := (unhide HL1).cells
      simp only [Nat.zero_add] at x1 x2 x3 x4 x5
      have y0 := (unhide HL1).free 0
      have y1 := (unhide HL1).free 1
      have y2 := (unhide HL1).free 2
      have y3 := (unhide HL1).free 3
      have y4 := (unhide HL1).free 4
      have y5 := (unhide HL1).free 5
      obtain ⟨z0, z1, z2, z3, z4, z5⟩ := (unhide HZ1).cells
      simp only [Nat.zero_add] at z1 z2 z3 z4 z5
      have u0 := (unhide HZ1).free 0
      have u1 := (unhide HZ1).free 1
      have u2 := (unhide HZ1).free 2
      have u3 := (unhide HZ1).free 3
      have u4 := (unhide HZ1).free 4
      have u5 := (unhide HZ1).free 5
      unfold R.zero at z0 z1 z2 z3 z4 z5
      dsimp only at x0 x1 x2 x3 x4 x5 z0 z1 z2 z3 z4 z5
      go_wp2_with fail
      go_region
      go_wp2_with fail
      refine bodyPost_ret (v := .agg #[.int .i64 frm, .int .i64 (now + valid), .int .i64 (now + valid), .int .i64 cost, .int .i64 nmt, .int .i64 will]) (by simp [results, Try.results50, go_sem, z0, z1, z2, z3, z4, z5, hlw, hzx, hxz]) rfl ⟨rfl, ?_⟩
      have hB := unhide HA1
      (repeat (first | (with_reducible exact hB) | (with_reducible refine Below.drew ?_) | (with_reducible refine Below.setCell ?_ ?_ _; rotate_left; (first | exact Nat.le_refl _ | (simp; done) | (dsimp only; omega))) | (with_reducible refine Below.alloc ?_ ?_ _; rotate_left; (first | exact Nat.le_refl _ | omega | (simp [World.setCell]; omega)))))
set_option maxHeartbeats 2000000 in
theorem hearCode (me frm cost now will valid : Int) (a : Option Addr) (ns : List Nb.R) (cap : Nat) (w : World) (hm : ns.length ≤ 1048576) (hr : Nb.RM w a ns) :
    Calls Try.prog 48 #[.int .i64 me, .int .i64 frm, .int .i64 cost, .int .i64 now, .agg #[.int .i64 will, .int .i64 valid, .slice a ns.length cap]] w fun e w' => e = .returned (.int .i64 (hearC me frm cost now will valid ns)) ∧ Below w.heap.size w w' := by
  have HA : Hid (Below w.heap.size w (w.alloc (.cells #[.int .i64 will, .int .i64 valid, .slice a ns.length cap] 47))) := hide ((Below.refl _ _).alloc (Nat.le_refl _) _)
  have HR := hide (hr.below (unhide HA))
  clear hr
  cases h1 : inB me 1 8
  · have HE : Hid (hearC me frm cost now will valid ns = 1) := hide (by unfold hearC; rw [h1]; rfl)
    go_enter Try.func48, Try.ntmps48
    go_wp2_with (first | (go_at_call 56; refine (isAddress _ _).mono ?_; rintro e w' ⟨rfl, rfl⟩) | (go_at_call 58; refine (isIn _ _).mono ?_; rintro e w' ⟨rfl, rfl⟩) | (go_at_call 68; refine (isNow _ _).mono ?_; rintro e w' ⟨rfl, rfl⟩))
    go_ret
    exact ⟨ret_int (unhide HE).symm, unhide HA⟩
  cases h2 : inB frm 1 8
  · have HE : Hid (hearC me frm cost now will valid ns = 1) := hide (by unfold hearC; rw [h1, h2]; rfl)
    go_enter Try.func48, Try.ntmps48
    go_wp2_with (first | (go_at_call 56; refine (isAddress _ _).mono ?_; rintro e w' ⟨rfl, rfl⟩) | (go_at_call 58; refine (isIn _ _).mono ?_; rintro e w' ⟨rfl, rfl⟩) | (go_at_call 68; refine (isNow _ _).mono ?_; rintro e w' ⟨rfl, rfl⟩))
    go_ret
    exact ⟨ret_int (unhide HE).symm, unhide HA⟩
  cases h3 : Hl.helB will valid ns
  · have HE : Hid (hearC me frm cost now will valid ns = 1) := hide (by unfold hearC; rw [h1, h2, h3]; rfl)
    have H3 := hide h3
    clear h3
    go_enter Try.func48, Try.ntmps48
    go_wp2_with (first | (go_at_call 56; refine (isAddress _ _).mono ?_; rintro e w' ⟨rfl, rfl⟩) | (go_at_call 58; refine (isIn _ _).mono ?_; rintro e w' ⟨rfl, rfl⟩) | (go_at_call 68; refine (isNow _ _).mono ?_; rintro e w' ⟨rfl, rfl⟩))
    refine (Hl.implOK will valid a ns cap _ hm (unhide HR)).mono ?_
    rintro e w1 ⟨rfl, b1⟩
    rw [unhide H3]
    have HB1 := hide ((unhide HA).trans (b1.mono (unhide HA).size))
    clear b1
    go_wp2_with (first | (go_at_call 56; refine (isAddress _ _).mono ?_; rintro e w' ⟨rfl, rfl⟩) | (go_at_call 58; refine (isIn _ _).mono ?_; rintro e w' ⟨rfl, rfl⟩) | (go_at_call 68; refine (isNow _ _).mono ?_; rintro e w' ⟨rfl, rfl⟩))
    go_ret
    exact ⟨ret_int (unhide HE).symm, unhide HB1⟩
  have H3 := hide h3
  by_cases hs : frm = me
  · have HE : Hid (hearC me frm cost now will valid ns = 9) := hide (by unfold hearC; simp [h1, h2, h3, hs])
    have hsb : (frm == me) = true := by simpa using hs
    clear h3 hs
    go_enter Try.func48, Try.ntmps48
    go_wp2_with (first | (go_at_call 56; refine (isAddress _ _).mono ?_; rintro e w' ⟨rfl, rfl⟩) | (go_at_call 58; refine (isIn _ _).mono ?_; rintro e w' ⟨rfl, rfl⟩) | (go_at_call 68; refine (isNow _ _).mono ?_; rintro e w' ⟨rfl, rfl⟩))
    refine (Hl.implOK will valid a ns cap _ hm (unhide HR)).mono ?_
    rintro e w1 ⟨rfl, b1⟩
    rw [unhide H3]
    have HB1 := hide ((unhide HA).trans (b1.mono (unhide HA).size))
    clear b1
    go_wp2_with (first | (go_at_call 56; refine (isAddress _ _).mono ?_; rintro e w' ⟨rfl, rfl⟩) | (go_at_call 58; refine (isIn _ _).mono ?_; rintro e w' ⟨rfl, rfl⟩) | (go_at_call 68; refine (isNow _ _).mono ?_; rintro e w' ⟨rfl, rfl⟩))
    go_ret
    exact ⟨ret_int (unhide HE).symm, unhide HB1⟩
  have hsb : (frm == me) = false := by simpa using hs
  cases h4 : inB cost 1 256
  rotate_left
  cases h5 : inB now 0 1000000
  rotate_left
  · have HE : Hid (hearC me frm cost now will valid ns = 0) := hide (by unfold hearC; simp [h1, h2, h3, hs, h4, h5])
    clear h3 hs
    go_enter Try.func48, Try.ntmps48
    go_wp2_with (first | (go_at_call 56; refine (isAddress _ _).mono ?_; rintro e w' ⟨rfl, rfl⟩) | (go_at_call 58; refine (isIn _ _).mono ?_; rintro e w' ⟨rfl, rfl⟩) | (go_at_call 68; refine (isNow _ _).mono ?_; rintro e w' ⟨rfl, rfl⟩))
    refine (Hl.implOK will valid a ns cap _ hm (unhide HR)).mono ?_
    rintro e w1 ⟨rfl, b1⟩
    rw [unhide H3]
    have HB1 := hide ((unhide HA).trans (b1.mono (unhide HA).size))
    clear b1
    go_wp2_with (first | (go_at_call 56; refine (isAddress _ _).mono ?_; rintro e w' ⟨rfl, rfl⟩) | (go_at_call 58; refine (isIn _ _).mono ?_; rintro e w' ⟨rfl, rfl⟩) | (go_at_call 68; refine (isNow _ _).mono ?_; rintro e w' ⟨rfl, rfl⟩))
    go_ret
    exact ⟨ret_int (unhide HE).symm, unhide HB1⟩
  all_goals
    have HE : Hid (hearC me frm cost now will valid ns = 4) := hide (by unfold hearC; simp [*])
    clear h3 hs
    go_enter Try.func48, Try.ntmps48
    go_wp2_with (first | (go_at_call 56; refine (isAddress _ _).mono ?_; rintro e w' ⟨rfl, rfl⟩) | (go_at_call 58; refine (isIn _ _).mono ?_; rintro e w' ⟨rfl, rfl⟩) | (go_at_call 68; refine (isNow _ _).mono ?_; rintro e w' ⟨rfl, rfl⟩))
    refine (Hl.implOK will valid a ns cap _ hm (unhide HR)).mono ?_
    rintro e w1 ⟨rfl, b1⟩
    rw [unhide H3]
    have HB1 := hide ((unhide HA).trans (b1.mono (unhide HA).size))
    clear b1
    go_wp2_with (first | (go_at_call 56; refine (isAddress _ _).mono ?_; rintro e w' ⟨rfl, rfl⟩) | (go_at_call 58; refine (isIn _ _).mono ?_; rintro e w' ⟨rfl, rfl⟩) | (go_at_call 68; refine (isNow _ _).mono ?_; rintro e w' ⟨rfl, rfl⟩))
    go_ret
    exact ⟨ret_int (unhide HE).symm, unhide HB1⟩
end Ln
end Go.Proofs.Ytmelbilepfnmjam
