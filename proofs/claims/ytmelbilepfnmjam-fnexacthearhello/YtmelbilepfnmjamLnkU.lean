/-
  The program's contract of a hello that is heard: HearHello.
-/
import Derived.Test.YtmelbilepfnmjamLnkR
import Derived.Test.YtmelbilepfnmjamLnkH
namespace Go.Proofs.Ytmelbilepfnmjam
open Go.ChangeShapes Go.WideShapes Go.ChangeAt Go.RowKit
set_option linter.unusedVariables false
set_option linter.unusedSimpArgs false
attribute [local go_sem ↓] Go.wp_at_zero Go.wp_at_succ
namespace Ln
open W1 Lk Mp
theorem sKB {w' : World} {B0 B3 : Nat} {frm will valid : Int} {v : Value} (hc : w'.cell? ⟨B3, 0, none⟩ = some (.int .i64 frm)) (hx : Bx3 w' B0 will valid v) :
    (w'.cell? ⟨B3, 0, none⟩ = some (.int .i64 frm) ∧ Bx3 w' B0 will valid v) ∧ w'.cell? ⟨B3, 0, none⟩ = some (.int .i64 frm) ∧ w'.cell? ⟨B0, 0, none⟩ = some (.int .i64 will) ∧ w'.cell? ⟨B0, 1, none⟩ = some (.int .i64 valid) ∧ w'.cell? ⟨B0, 2, none⟩ = some v := ⟨⟨hc, hx⟩, hc, hx⟩
theorem hearC_ok {me frm cost now will valid : Int} {ns : List Nb.R} (h : hearC me frm cost now will valid ns = 0) : (1 ≤ frm ∧ frm ≤ 8) ∧ Hl.helB will valid ns = true ∧ 0 ≤ now ∧ now ≤ 1000000 := by
  unfold hearC at h
  split at h
  · rename_i h1
    split at h
    · omega
    · split at h
      · rename_i h2
        simp [inB] at h1 h2
        exact ⟨h1.2.1, h1.2.2, h2.2⟩
      · omega
  · omega
set_option maxRecDepth 100000 in
set_option maxHeartbeats 4000000 in
theorem implHear (g off : Nat) (ms : List R) (cap : Nat) (me frm cost now will valid : Int) (b : Option Addr) (ns : List Nb.R) (capn : Nat) (w : World) (hm : ms.length ≤ 1048576) (hnl : ns.length ≤ 1048576) (hr : RM w (some ⟨g, off, none⟩) ms) (hr' : Nb.RM w b ns) :
    Calls Try.prog 23 #[.slice (some ⟨g, off, none⟩) ms.length cap, .int .i64 me, .int .i64 frm, .int .i64 cost, .int .i64 now, .agg #[.int .i64 will, .int .i64 valid, .slice b ns.length capn]] w fun e w' => ∃ v, e = .returned (.tuple #[v, .int .i64 (hearE ms me frm cost now will valid ns)]) ∧ Below w.heap.size w w' ∧ LstV w' v (hearA ms me frm cost now will valid ns) w.heap.size w'.heap.size := by
  have HA : Hid (Below w.heap.size w (w.alloc (.cells #[.int .i64 will, .int .i64 valid, .slice b ns.length capn] 47))) := hide ((Below.refl _ _).alloc (Nat.le_refl _) _)
  have HX : Hid (Bx3 (w.alloc (.cells #[.int .i64 will, .int .i64 valid, .slice b ns.length capn] 47)) w.heap.size will valid (.slice b ns.length capn)) := hide (bx3_new w will valid _ _)
  have HR := hide (hr.below (unhide HA))
  have HN := hide (hr'.below (unhide HA))
  clear hr hr'
  by_cases hc : codeL ms = 0
  rotate_left
  · have he : hearE ms me frm cost now will valid ns = codeL ms := by unfold hearE; rw [if_neg hc]
    have h9 : codeL ms ≠ 9 := by unfold codeL; split <;> (try split) <;> omega
    have ha : hearA ms me frm cost now will valid ns = [] := by unfold hearA; rw [he, if_neg hc, if_neg h9]
    rw [he, ha]
    clear he ha
    generalize hcd : codeL ms = cd at *
    have HC := hide hcd
    clear hcd
    have q0 : (cd == 0) = false := by simpa using hc
    have q9 : (cd == 9) = false := by simpa using h9
    have q1 : (cd != 0) = true := by simpa using hc
    go_enter Try.func23, Try.ntmps23
    go_wp2_with fail
    refine (linksCode _ ms cap _ hm (unhide HR)).mono ?_
    rintro e w1 ⟨rfl, b1⟩
    rw [unhide HC]
    have HA1 := hide ((unhide HA).trans (b1.mono (unhide HA).size))
    have HX1 := hide ((unhide HX).below b1)
    have HR1 := hide ((unhide HR).below b1)
    have HN1 := hide ((unhide HN).below b1)
    clear b1
    go_wp2_with fail
    go_ret2
    exact ⟨_, rfl, unhide HA1, lstV_nil _ _ _ _ _⟩
  have hs : linksB ms = true := by cases hh : linksB ms; (unfold codeL at hc; rw [hh] at hc; split at hc <;> simp at hc); rfl
  have hl8 := links_len hs
  have HS := hide hs
  have HC := hide hc
  have he : hearE ms me frm cost now will valid ns = hearC me frm cost now will valid ns := by unfold hearE; rw [if_pos hc]
  clear hs hc
  by_cases h0 : hearC me frm cost now will valid ns = 0
  rotate_left
  · by_cases h9 : hearC me frm cost now will valid ns = 9
    · have ha : hearA ms me frm cost now will valid ns = ms := by unfold hearA; rw [he, h9]; rfl
      rw [he, ha, h9]
      have HD := hide h9
      clear he ha h0 h9
      go_enter Try.func23, Try.ntmps23
      go_wp2_with fail
      refine (linksCode _ ms cap _ hm (unhide HR)).mono ?_
      rintro e w1 ⟨rfl, b1⟩
      rw [unhide HC]
      have HA1 := hide ((unhide HA).trans (b1.mono (unhide HA).size))
      have HX1 := hide ((unhide HX).below b1)
      have HR1 := hide ((unhide HR).below b1)
      have HN1 := hide ((unhide HN).below b1)
      clear b1
      obtain ⟨z0, z1, z2⟩ := unhide HX1
      go_wp2_with fail
      refine (hearCode me frm cost now will valid b ns capn _ hnl (unhide HN1)).mono ?_
      rintro e w2 ⟨rfl, b2⟩
      rw [unhide HD]
      clear z0 z1 z2
      have HA2 := hide ((unhide HA1).trans (b2.mono (unhide HA1).size))
      have HX2 := hide ((unhide HX1).below b2)
      have HR2 := hide ((unhide HR1).below b2)
      have HN2 := hide ((unhide HN1).below b2)
      clear b2
      go_wp2_with fail
      refine (copied g off ms _ _ _ rfl (by omega) (unhide HR2)).mono ?_
      rintro e w3 ⟨v, rfl, b3, hl3⟩
      have HA3 := hide ((unhide HA2).trans (b3.mono (unhide HA2).size))
      have HL3 := hide (hl3.mono (lo' := w.heap.size) (unhide HA2).size (Nat.le_refl _))
      clear b3 hl3
      go_wp2_with fail
      go_ret2
      exact ⟨_, rfl, unhide HA3, unhide HL3⟩
    · have ha : hearA ms me frm cost now will valid ns = [] := by unfold hearA; rw [he, if_neg h0, if_neg h9]
      rw [he, ha]
      clear he ha
      generalize hcd : hearC me frm cost now will valid ns = cd at *
      have HD := hide hcd
      clear hcd
      have q0 : (cd == 0) = false := by simpa using h0
      have q9 : (cd == 9) = false := by simpa using h9
      have q1 : (cd != 0) = true := by simpa using h0
      go_enter Try.func23, Try.ntmps23
      go_wp2_with fail
      refine (linksCode _ ms cap _ hm (unhide HR)).mono ?_
      rintro e w1 ⟨rfl, b1⟩
      rw [unhide HC]
      have HA1 := hide ((unhide HA).trans (b1.mono (unhide HA).size))
      have HX1 := hide ((unhide HX).below b1)
      have HR1 := hide ((unhide HR).below b1)
      have HN1 := hide ((unhide HN).below b1)
      clear b1
      obtain ⟨z0, z1, z2⟩ := unhide HX1
      go_wp2_with fail
      refine (hearCode me frm cost now will valid b ns capn _ hnl (unhide HN1)).mono ?_
      rintro e w2 ⟨rfl, b2⟩
      rw [unhide HD]
      clear z0 z1 z2
      have HA2 := hide ((unhide HA1).trans (b2.mono (unhide HA1).size))
      have HX2 := hide ((unhide HX1).below b2)
      have HR2 := hide ((unhide HR1).below b2)
      have HN2 := hide ((unhide HN1).below b2)
      clear b2
      go_wp2_with fail
      go_ret2
      exact ⟨_, rfl, unhide HA2, lstV_nil _ _ _ _ _⟩
  obtain ⟨hf18, hhel, hnw⟩ := hearC_ok h0
  have ha : hearA ms me frm cost now will valid ns = putL ms (heardR (lkF ms frm) me frm cost now will valid ns) := by unfold hearA; rw [he, if_pos h0]
  rw [he, ha, h0]
  have HD := hide h0
  have HH := hide hhel
  have hwf : (Lit.int .i64 frm).wf = true := WalkArith.wf_i64 ⟨by omega, by omega⟩
  have HWF := hide hwf
  clear he ha h0 hhel hwf
  obtain ⟨A, hAA⟩ : ∃ A, lkF ms frm = A := ⟨_, rfl⟩
  have HAA : Hid ((ms.find? (isAd frm)).getD R.zero = A) := hide hAA
  rw [hAA]
  clear hAA
  have HAD : Hid ((heardR A me frm cost now will valid ns).ad = frm) := hide (by unfold heardR; split <;> (try split) <;> rfl)
  obtain ⟨ad, hd, sy, ci, co, wl⟩ := A
  go_enter Try.func23, Try.ntmps23
  go_wp2_with fail
  refine (linksCode _ ms cap _ hm (unhide HR)).mono ?_
  rintro e w1 ⟨rfl, b1⟩
  rw [unhide HC]
  have HA1 := hide ((unhide HA).trans (b1.mono (unhide HA).size))
  have HX1 := hide ((unhide HX).below b1)
  have HR1 := hide ((unhide HR).below b1)
  have HN1 := hide ((unhide HN).below b1)
  clear b1
  obtain ⟨z0, z1, z2⟩ := unhide HX1
  go_wp2_with fail
  refine (hearCode me frm cost now will valid b ns capn _ hnl (unhide HN1)).mono ?_
  rintro e w2 ⟨rfl, b2⟩
  rw [unhide HD]
  clear z0 z1 z2
  have HA2 := hide ((unhide HA1).trans (b2.mono (unhide HA1).size))
  have HX2 := hide ((unhide HX1).below b2)
  have HR2 := hide ((unhide HR1).below b2)
  have HN2 := hide ((unhide HN1).below b2)
  clear b2
  go_wp2_with fail
  refine (linksByKey _ ms cap _ (unhide HS) (unhide HR2)).mono ?_
  rintro e w3 ⟨bm, rfl, hbm, om3, b3⟩
  have HA3 := hide ((unhide HA2).trans (b3.mono (unhide HA2).size))
  have HX3 := hide ((unhide HX2).below b3)
  have HN3 := hide ((unhide HN2).below b3)
  have HM3 := hide om3
  have hb2 := (unhide HA2).size
  clear b3 om3
  have HB4 : Hid (Below w3.heap.size w3 (w3.alloc (.cells #[.int .i64 frm] 66))) := hide ((Below.refl _ _).alloc (Nat.le_refl _) _)
  have HA4 := hide ((unhide HA3).trans ((unhide HB4).mono (unhide HA3).size))
  have HX4 := hide ((unhide HX3).below (unhide HB4))
  have HN4 := hide ((unhide HN3).below (unhide HB4))
  have HM4 := hide ((unhide HM3).below (unhide HB4))
  have HK4 : Hid ((w3.alloc (.cells #[.int .i64 frm] 66)).cell? ⟨w3.heap.size, 0, none⟩ = some (.int .i64 frm)) := hide (by simp [World.cell?_alloc_new])
  go_wp2_with fail
  generalize hW : w3.alloc (.cells #[.int .i64 frm] 66) = W4 at *
  clear hW
  generalize hB3 : w3.heap.size = B3 at *
  refine wp_region_noPanic ?_
  refine wp_region_held_drew (S := fun w' => (w'.cell? ⟨B3, 0, none⟩ = some (.int .i64 frm) ∧ Bx3 w' w.heap.size will valid (.slice b ns.length capn)) ∧ w'.cell? ⟨B3, 0, none⟩ = some (.int .i64 frm) ∧ w'.cell? ⟨w.heap.size, 0, none⟩ = some (.int .i64 will) ∧ w'.cell? ⟨w.heap.size, 1, none⟩ = some (.int .i64 valid) ∧ w'.cell? ⟨w.heap.size, 2, none⟩ = some (.slice b ns.length capn)) (by kernel_rfl) (sKB (unhide HK4) (unhide HX4).drew) (fun hHeld => ?_)
  (refine Rg.tk (i := 0) (d := 39) (v := ?_) rfl rfl (by kernel_rfl) (by kernel_rfl) (by kernel_rfl) (fun _ _ _ h => h) (by rfl) ?_ (by assumption) ?_; rotate_left; (focus (intro w0 hSw; (try dsimp only at hSw); go_simp; (try with_reducible rfl))); (try simp only [Act.put, List.setIfInBounds_toArray, List.set_cons_zero, List.set_cons_succ]))
  (refine Rg.tk (i := 1) (d := 40) (v := ?_) rfl rfl (by kernel_rfl) (by kernel_rfl) (by kernel_rfl) (fun _ _ _ h => h) (by rfl) ?_ (by assumption) ?_; rotate_left; (focus (intro w0 hSw; (try dsimp only at hSw); go_simp; (try with_reducible rfl))); (try simp only [Act.put, List.setIfInBounds_toArray, List.set_cons_zero, List.set_cons_succ]))
  (refine Rg.tk (i := 2) (d := 41) (v := ?_) rfl rfl (by kernel_rfl) (by kernel_rfl) (by kernel_rfl) (fun _ _ _ h => h) (by rfl) ?_ (by assumption) ?_; rotate_left; (focus (intro w0 hSw; (try dsimp only at hSw); go_simp; (try with_reducible rfl))); (try simp only [Act.put, List.setIfInBounds_toArray, List.set_cons_zero, List.set_cons_succ]))
  (refine Rg.tk (i := 3) (d := 42) (v := ?_) rfl rfl (by kernel_rfl) (by kernel_rfl) (by kernel_rfl) (fun _ _ _ h => h) (by rfl) ?_ (by assumption) ?_; rotate_left; (focus (intro w0 hSw; (try dsimp only at hSw); go_simp; (try with_reducible rfl))); (try simp only [Act.put, List.setIfInBounds_toArray, List.set_cons_zero, List.set_cons_succ]))
  (refine Rg.tk (i := 5) (d := 44) (v := ?_) rfl rfl (by kernel_rfl) (by kernel_rfl) (by kernel_rfl) (fun _ _ _ h => h) (by rfl) ?_ (by assumption) ?_; rotate_left; (focus (intro w0 hSw; (try dsimp only at hSw); go_simp; (try with_reducible rfl))); (try simp only [Act.put, List.setIfInBounds_toArray, List.set_cons_zero, List.set_cons_succ]))
  (refine Rg.tk (i := 6) (d := 45) (v := ?_) rfl rfl (by kernel_rfl) (by kernel_rfl) (by kernel_rfl) (fun _ _ _ h => h) (by rfl) ?_ (by assumption) ?_; rotate_left; (focus (intro w0 hSw; (try dsimp only at hSw); go_simp; (try with_reducible rfl))); (try simp only [Act.put, List.setIfInBounds_toArray, List.set_cons_zero, List.set_cons_succ]))
  (refine Rg.tk (i := 7) (d := 46) (v := ?_) rfl rfl (by kernel_rfl) (by kernel_rfl) (by kernel_rfl) (fun _ _ _ h => h) (by rfl) ?_ (by assumption) ?_; rotate_left; (focus (intro w0 hSw; (try dsimp only at hSw); go_simp; (try with_reducible rfl))); (try simp only [Act.put, List.setIfInBounds_toArray, List.set_cons_zero, List.set_cons_succ]))
  (refine Rg.tk (i := 8) (d := 47) (v := ?_) rfl rfl (by kernel_rfl) (by kernel_rfl) (by kernel_rfl) (fun _ _ _ h => h) (by rfl) ?_ (by assumption) ?_; rotate_left; (focus (intro w0 hSw; (try dsimp only at hSw); go_simp; (try with_reducible rfl))); (try simp only [Act.put, List.setIfInBounds_toArray, List.set_cons_zero, List.set_cons_succ]))
  (refine Rg.tk (i := 9) (d := 48) (v := ?_) rfl rfl (by kernel_rfl) (by kernel_rfl) (by kernel_rfl) (fun _ _ _ h => h) (by rfl) ?_ (by assumption) ?_; rotate_left; (focus (intro w0 hSw; (try dsimp only at hSw); go_simp; (try with_reducible rfl))); (try simp only [Act.put, List.setIfInBounds_toArray, List.set_cons_zero, List.set_cons_succ]))
  (refine wpAnyH_ready (rs := [4]) (by kernel_rfl) (by simp) ?_; refine AllReadyH.cons (o := _) rfl (fun K hK => ?_) AllReadyH.nil; rw [if_pos (by rfl)])
  refine wp_look1 _ _ _ 43 rfl rfl bm _ _ rfl (unhide HM4).drew frm (unhide HWF) rfl ad hd sy ci co wl (unhide HAA) ?_
  refine hK.out _ _ (sKB (unhide HK4) (unhide HX4).drew) (fun hHeld => ?_)
  clear hK K
  (try simp only [Act.put, List.setIfInBounds_toArray, List.set_cons_zero, List.set_cons_succ])
  (refine wpAnyH_ready (rs := [10]) (by kernel_rfl) (by simp) ?_; refine AllReadyH.cons (o := _) rfl (fun K hK => ?_) AllReadyH.nil; go_simp)
  refine (heardLink ad hd sy ci co wl me frm cost now will valid b ns capn _ (unhide HH) hnw.1 hnw.2 (unhide HN4).drew).mono ?_
  rintro e w5 ⟨rfl, b5_⟩
  have b5 : Below W4.heap.size W4 w5 := (Below.refl _ _).drew.trans b5_
  have HA5 := hide ((unhide HA4).trans (b5.mono (unhide HA4).size))
  have HX5 := hide ((unhide HX4).below b5)
  have HM5 := hide ((unhide HM4).below b5)
  have HK5 : Hid (w5.cell? ⟨B3, 0, none⟩ = some (.int .i64 frm)) := hide ((b5.cell (p := ⟨B3, 0, none⟩) (World.block_lt_of_cell? _ _ (unhide HK4))).trans (unhide HK4))
  have hk3 : B3 < W4.heap.size := World.block_lt_of_cell? _ _ (unhide HK4)
  have hbm3 : bm < B3 := by rw [← hB3]; exact (unhide HM3).lt
  clear b5 b5_ hHeld
  obtain ⟨Z, hZ⟩ : ∃ Z, heardR ⟨ad, hd, sy, ci, co, wl⟩ me frm cost now will valid ns = Z := ⟨_, rfl⟩
  rw [hZ] at HAD ⊢
  have HZ := hide hZ
  clear hZ
  refine hK.out _ _ (sKB (unhide HK5) (unhide HX5)) (fun hHeld => ?_)
  clear hK K
  (try simp only [Act.put, List.setIfInBounds_toArray, List.set_cons_zero, List.set_cons_succ])
  (refine wpAnyH_ready (rs := [11]) (by kernel_rfl) (by simp) ?_; refine AllReadyH.cons (o := _) rfl (fun K hK => ?_) AllReadyH.nil; rw [if_pos (by rfl)])
  refine wp_put _ _ _ _ rfl rfl bm ms.length _ rfl (unhide HM5) (by unfold maxLen; omega) frm (unhide HWF) Z rfl rfl ?_
  intro w6 om6 g6
  have HA6 := hide (om_grown (unhide HA5) (Nat.le_refl _) (by omega) g6)
  have HM6 := hide om6
  have HK6 : Hid (w6.cell? ⟨B3, 0, none⟩ = some (.int .i64 frm)) := hide ((World.cell?_of_block (a := ⟨B3, 0, none⟩) (g6.block B3 (World.block_lt_of_cell? _ _ (unhide HK5)) (by intro e; cases e; omega))).trans (unhide HK5))
  have HX6 := hide ((unhide HX5).but (g6.block w.heap.size (unhide HX5).lt (by intro e; cases e; exact absurd hbm (by have := (unhide HX2).lt; omega))))
  clear om6 g6 hHeld
  refine hK.out _ _ (sKB (unhide HK6) (unhide HX6)) (fun hHeld => ?_)
  clear hK K hHeld
  (try simp only [Act.put, List.setIfInBounds_toArray, List.set_cons_zero, List.set_cons_succ])
  refine wpAnyH_done (by kernel_rfl) (NoPanic.normal ?_) _
  go_wp2_with fail
  refine (linksInOrder bm (ms.length + 1) _ _ (by omega) (unhide HM6)).mono ?_
  rintro e w7 ⟨v, rfl, b7, hl7⟩
  have HOP : Hid (ordL (upd (fun k => ms.find? (isAd k)) frm Z) 8 = putL ms Z) := hide (by have := ord_put (unhide HS) Z (by rw [unhide HAD]; exact hf18.1) (by rw [unhide HAD]; exact hf18.2); rw [unhide HAD] at this; exact this)
  have HA7 := hide ((unhide HA6).trans (b7.mono (unhide HA6).size))
  have HL7 := hide (hl7.mono (lo' := w.heap.size) (unhide HA6).size (Nat.le_refl _))
  clear b7 hl7
  go_wp2_with fail
  go_ret2
  exact ⟨_, rfl, unhide HA7, by rw [unhide HZ, ← unhide HOP]; exact unhide HL7⟩
end Ln
end Go.Proofs.Ytmelbilepfnmjam
