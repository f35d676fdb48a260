/-
  The model's spoilt: what bytes it answers is a function of the code, of how many bytes were asked, and of the bytes.
-/
import Derived.Test.YtpknahhdapmcoaaFmg
import Derived.Test.YtpknahhdapmcoaaCnv
namespace Go.Proofs.Ytpknahhdapmcoaa
open Go.ChangeShapes Go.WideShapes Go.ChangeAt Go.RowKit
set_option linter.unusedVariables false
set_option linter.unusedSimpArgs false
attribute [local go_sem ↓] Go.wp_at_zero Go.wp_at_succ
namespace Fp
open W1 By Fs Cn
open Sr (Wrote_trans reads_lt)
open Dw (but_refl but_trans but_wrote but_below but_alloc but_set but_own)
def xr (x y : Int) : Int := bits BinOp.xor IntKind.u8 x y
theorem xr_in (x y : Int) : 0 ≤ xr x y ∧ xr x y ≤ 255 := bits_within BinOp.xor .u8 x y
/-- What spoilt answers. -/
def spA (bs : List UInt8) (n : Nat) (zs : List Int) : List Int :=
  match nx bs n 4 with
  | 0 => zs.set (nx bs (n + 1) zs.length) (xr (zs.getD (nx bs (n + 1) zs.length) 0) (1 + (nx bs (n + 2) 255 : Int)))
  | 1 => zs.take (nx bs (n + 1) (zs.length + 1))
  | 2 => zs ++ [(nx bs (n + 1) 256 : Int)]
  | _ => zs
theorem sp_in {bs : List UInt8} {n : Nat} {zs : List Int} (h : ∀ z ∈ zs, 0 ≤ z ∧ z ≤ 255) : ∀ z ∈ spA bs n zs, 0 ≤ z ∧ z ≤ 255 := by
  intro z hz
  unfold spA at hz
  split at hz
  · rcases List.mem_or_eq_of_mem_set hz with h1 | h1
    · exact h z h1
    · rw [h1]; exact xr_in _ _
  · exact h z (List.mem_of_mem_take hz)
  · rcases List.mem_append.1 hz with h1 | h1
    · exact h z h1
    · rw [List.mem_singleton] at h1
      have := nx_lt bs (n + 1) (k := 256) (by omega)
      omega
  · exact h z hz
theorem sp_len (bs : List UInt8) (n : Nat) (zs : List Int) : (spA bs n zs).length ≤ zs.length + 1 := by
  unfold spA
  split
  · simp
  · rw [List.length_take]; omega
  · simp
  · omega
/-- The numbers stand at block g. -/
def St (w : World) (g : Nat) (zs : List Int) : Prop := ∀ i, i < zs.length → w.cell? ⟨g, 0 + i, none⟩ = some (.int .u8 (zs.getD i 0))
theorem Cv.st {w : World} {g cap : Nat} {zs : List Int} (h : Cv w g cap zs) : St w g zs := fun i hi => by rw [Nat.zero_add]; exact h.cell hi
theorem St.take {w : World} {g : Nat} {zs : List Int} (h : St w g zs) (k : Nat) : St w g (zs.take k) := by
  intro i hi
  rw [List.length_take] at hi
  rw [h i (by omega), List.getD_eq_getElem?_getD, List.getD_eq_getElem?_getD, List.getElem?_take, if_pos (by omega)]
theorem St.put {w : World} {g k : Nat} {zs : List Int} (h : St w g zs) (hk : k < zs.length) (z : Int) : St (w.setCell ⟨g, k, none⟩ (.int .u8 z)) g (zs.set k z) := by
  intro i hi
  rw [List.length_set] at hi
  have h0 := h k hk
  rw [Nat.zero_add] at h0 ⊢
  by_cases e : i = k
  · rw [e, World.cell?_setCell_same _ _ _ h0, List.getD_eq_getElem?_getD, List.getElem?_set_self hk]; rfl
  · have hi' := h i hi
    rw [Nat.zero_add] at hi'
    rw [World.cell?_setCell_other _ _ _ _ (by simp <;> omega), hi', List.getD_eq_getElem?_getD, List.getD_eq_getElem?_getD, List.getElem?_set_ne (by omega)]
set_option maxRecDepth 100000 in
set_option maxHeartbeats 4000000 in
theorem spoilt (p : Nat) (a : Option Addr) (bs : List UInt8) (cap n : Nat) (w0 w : World) (g c : Nat) (zs : List Int) (hl2 : 2 ≤ zs.length) (hl : zs.length ≤ 255) (hz : ∀ z ∈ zs, 0 ≤ z ∧ z ≤ 255) (hn : n ≤ 1099511500000) (hm : bs.length ≤ 1099511627776) (hs : Fr w p a bs cap n) (hc : Cv w g c zs) (hgp : g ≠ p) (h0 : w0.grownBy w (some p)) (hb : w0.heap.size ≤ g) :
    Calls Try.prog 71 #[.pointer (some ⟨p, 0, none⟩), .slice (some ⟨g, 0, none⟩) zs.length c] w fun e w' => ∃ g' c', e = .returned (.slice (some ⟨g', 0, none⟩) (spA bs n zs).length c') ∧ St w' g' (spA bs n zs) ∧ w0.grownBy w' (some p) ∧ (spA bs n zs).length ≤ c' ∧ c' ≤ maxLen := by
  have HS := hide hs
  have HC := hide hc
  have HG := hide h0
  have HZ := hide hz
  clear hs hc h0 hz
  obtain ⟨L, hL⟩ : ∃ L, zs.length = L := ⟨_, rfl⟩
  have HL := hide hL
  have hcap : L ≤ c := by rw [← hL]; exact (unhide HC).room.1
  have hcm := (unhide HC).room.2
  have HCM := hide hcm
  clear hcm
  have hcap' : (L : Int) ≤ (c : Int) := by omega
  rw [hL] at hl2 hl ⊢
  clear hL
  go_enter Try.func71, Try.ntmps71
  go_wp2_with fail
  refine (next p a bs cap n 4 _ (by omega) (by omega) (by omega) hm (unhide HS)).mono ?_
  rintro e w1 ⟨r, hre, rfl, hr, wr1, s1⟩
  have E1 := hide hre
  have S1 := hide s1
  have G1 := hide (but_trans (unhide HG) (but_wrote wr1))
  have C1 := hide ((unhide HC).kept (wr1.block g hgp))
  clear hre s1 wr1 HS HG HC
  have h4 : r = 0 ∨ r = 1 ∨ r = 2 ∨ r = 3 := by omega
  rcases h4 with rfl | rfl | rfl | rfl
  · have L0 : (0 : Int) < (L : Int) := by omega
    go_wp2_with fail
    refine wp_region_noPanic ?_
    refine wp_region_held_drew (S := fun _ => True) (by kernel_rfl) trivial (fun hHeld => ?_)
    have S2 := hide (src_blocks (w' := w1.drew) (unhide S1) rfl (fun _ _ _ _ => rfl))
    have G2 : Hid (w0.grownBy w1.drew (some p)) := hide (by have h := unhide G1; exact ⟨h.os, h.tape, h.output, h.size, h.block⟩)
    have C2 := hide ((unhide C1).kept (w' := w1.drew) rfl)
    clear S1 G1 C1
    generalize hV : w1.drew = V2 at *
    clear hV
    (refine Rg.tk (i := 0) (d := 12) (v := ?_) rfl rfl (by kernel_rfl) (by kernel_rfl) (by kernel_rfl) (fun _ _ _ h => h) (by rfl) ?_ (by assumption) ?_; rotate_left; (focus (intro w0 hSw; (try dsimp only at hSw); go_simp; (try with_reducible rfl))); (try simp only [Act.put, List.setIfInBounds_toArray, List.set_cons_zero, List.set_cons_succ]))
    (refine Rg.tk (i := 1) (d := 13) (v := ?_) rfl rfl (by kernel_rfl) (by kernel_rfl) (by kernel_rfl) (fun _ _ _ h => h) (by rfl) ?_ (by assumption) ?_; rotate_left; (focus (intro w0 hSw; (try dsimp only at hSw); go_simp; (try with_reducible rfl))); (try simp only [Act.put, List.setIfInBounds_toArray, List.set_cons_zero, List.set_cons_succ]))
    (refine Rg.tk (i := 2) (d := 14) (v := ?_) rfl rfl (by kernel_rfl) (by kernel_rfl) (by kernel_rfl) (fun _ _ _ h => h) (by rfl) ?_ (by assumption) ?_; rotate_left; (focus (intro w0 hSw; (try dsimp only at hSw); go_simp; (try with_reducible rfl))); (try simp only [Act.put, List.setIfInBounds_toArray, List.set_cons_zero, List.set_cons_succ]))
    (refine Rg.tk (i := 3) (d := 15) (v := ?_) rfl rfl (by kernel_rfl) (by kernel_rfl) (by kernel_rfl) (fun _ _ _ h => h) (by rfl) ?_ (by assumption) ?_; rotate_left; (focus (intro w0 hSw; (try dsimp only at hSw); go_simp; (try with_reducible rfl))); (try simp only [Act.put, List.setIfInBounds_toArray, List.set_cons_zero, List.set_cons_succ]))
    (refine Rg.tk (i := 7) (d := 19) (v := ?_) rfl rfl (by kernel_rfl) (by kernel_rfl) (by kernel_rfl) (fun _ _ _ h => h) (by rfl) ?_ (by assumption) ?_; rotate_left; (focus (intro w0 hSw; (try dsimp only at hSw); go_simp; (try with_reducible rfl))); (try simp only [Act.put, List.setIfInBounds_toArray, List.set_cons_zero, List.set_cons_succ]))
    (refine wpAnyH_ready (rs := [4]) (by kernel_rfl) (by simp) ?_; refine AllReadyH.cons (o := _) rfl (fun K hK => ?_) AllReadyH.nil; go_simp)
    refine (next p a bs cap (n + 1) L _ (by omega) (by omega) (by omega) hm (unhide S2)).mono ?_
    rintro e V3 ⟨k, hre, rfl, hk, wr, s⟩
    have E2 := hide hre
    have S3 := hide s
    have G3 := hide (but_trans (unhide G2) (but_wrote wr))
    have C3 := hide ((unhide C2).kept (wr.block g hgp))
    clear hre s wr S2 G2 C2
    clear hHeld
    refine hK.out _ _ trivial (fun hHeld => ?_)
    clear hK K
    (try simp only [Act.put, List.setIfInBounds_toArray, List.set_cons_zero, List.set_cons_succ])
    have k0 : (0 : Int) ≤ (k : Int) := by omega
    have kL : (k : Int) < (L : Int) := by omega
    obtain ⟨v, hv⟩ : ∃ v, zs.getD k 0 = v := ⟨_, rfl⟩
    have HVV := hide hv
    clear hv
    (refine Rg.tk (i := 5) (d := 17) (v := ?_) rfl rfl (by kernel_rfl) (by kernel_rfl) (by kernel_rfl) (fun _ _ _ h => h) (by rfl) ?_ (by assumption) ?_; rotate_left; (focus (intro w0 hSw; (try dsimp only at hSw); go_simp; (try with_reducible rfl))); (try simp only [Act.put, List.setIfInBounds_toArray, List.set_cons_zero, List.set_cons_succ]))
    (refine wpAnyH_ready (rs := [6, 8]) (by kernel_rfl) (by simp) ?_; refine AllReadyH.cons (o := _) rfl (fun K hK => ?_) (AllReadyH.cons (o := _) rfl (fun K hK => ?_) (AllReadyH.nil)))
    · have lc : V3.cell? ⟨g, k, none⟩ = some (.int .u8 v) := by rw [(unhide C3).cell (by rw [unhide HL]; omega), unhide HVV]
      go_simp
      clear hHeld
      refine hK.out _ _ trivial (fun hHeld => ?_)
      clear hK K lc
      (try simp only [Act.put, List.setIfInBounds_toArray, List.set_cons_zero, List.set_cons_succ])
      (refine wpAnyH_ready (rs := [8]) (by kernel_rfl) (by simp) ?_; refine AllReadyH.cons (o := _) rfl (fun K hK => ?_) AllReadyH.nil; go_simp)
      refine (next p a bs cap (n + 2) 255 _ (by omega) (by omega) (by omega) hm (unhide S3)).mono ?_
      rintro e V4 ⟨x, hre, rfl, hx, wr, s⟩
      have E3 := hide hre
      have G4 := hide (but_trans (unhide G3) (but_wrote wr))
      have C4 := hide ((unhide C3).kept (wr.block g hgp))
      clear hre s wr S3 G3 C3
      clear hHeld
      refine hK.out _ _ trivial (fun hHeld => ?_)
      clear hK K
      (try simp only [Act.put, List.setIfInBounds_toArray, List.set_cons_zero, List.set_cons_succ])
      have wx : IntKind.i64.wrap (1 + (x : Int)) = 1 + (x : Int) := by rw [IntKind.wrap_i64]; omega
      have wu : IntKind.u8.wrap (1 + (x : Int)) = 1 + (x : Int) := IntWalk.u8_in _ (by omega)
      (refine Rg.tk (i := 9) (d := 21) (v := ?_) rfl rfl (by kernel_rfl) (by kernel_rfl) (by kernel_rfl) (fun _ _ _ h => h) (by rfl) ?_ (by assumption) ?_; rotate_left; (focus (intro w0 hSw; (try dsimp only at hSw); go_simp; (try with_reducible rfl))); (try simp only [Act.put, List.setIfInBounds_toArray, List.set_cons_zero, List.set_cons_succ]))
      (refine Rg.tk (i := 10) (d := 22) (v := ?_) rfl rfl (by kernel_rfl) (by kernel_rfl) (by kernel_rfl) (fun _ _ _ h => h) (by rfl) ?_ (by assumption) ?_; rotate_left; (focus (intro w0 hSw; (try dsimp only at hSw); go_simp; (try with_reducible rfl))); (try simp only [Act.put, List.setIfInBounds_toArray, List.set_cons_zero, List.set_cons_succ]))
      (refine Rg.tk (i := 11) (d := 23) (v := .int .u8 (bits BinOp.xor IntKind.u8 v (1 + (x : Int)))) rfl rfl (by kernel_rfl) (by kernel_rfl) (by kernel_rfl) (fun _ _ _ h => h) (by rfl) ?_ (by assumption) ?_; (focus (intro w0 hSw; (try dsimp only at hSw); go_simp)); (try simp only [Act.put, List.setIfInBounds_toArray, List.set_cons_zero, List.set_cons_succ]))
      (refine Rg.tk (i := 12) (d := 24) (v := ?_) rfl rfl (by kernel_rfl) (by kernel_rfl) (by kernel_rfl) (fun _ _ _ h => h) (by rfl) ?_ (by assumption) ?_; rotate_left; (focus (intro w0 hSw; (try dsimp only at hSw); go_simp; (try with_reducible rfl))); (try simp only [Act.put, List.setIfInBounds_toArray, List.set_cons_zero, List.set_cons_succ]))
      have sc : V4.cell? ⟨g, k, none⟩ = some (.int .u8 v) := by rw [(unhide C4).cell (by rw [unhide HL]; omega), unhide HVV]
      have sf : V4.frozen? ⟨g, k, none⟩ = false := by exact (unhide C4).free (by omega)
      (refine wpAnyH_ready (rs := [13]) (by kernel_rfl) (by simp) ?_; refine AllReadyH.cons (o := _) rfl (fun K hK => ?_) AllReadyH.nil; go_simp)
      clear hHeld
      refine hK.out _ _ trivial (fun hHeld => ?_)
      clear hK K
      (try simp only [Act.put, List.setIfInBounds_toArray, List.set_cons_zero, List.set_cons_succ])
      refine wpAnyH_done (by kernel_rfl) (NoPanic.normal ?_) _
      clear hHeld sc sf
      go_wp2_with fail
      go_ret
      have e : spA bs n zs = zs.set k (xr v (1 + (x : Int))) := by unfold spA; rw [← unhide E1, unhide E2, unhide E3, ← unhide HVV, unhide HL, unhide E2] <;> rfl
      have el : (spA bs n zs).length = L := by rw [e, List.length_set, unhide HL]
      rw [el, e]
      refine ⟨g, _, rfl, ?_, ?_, by omega, unhide HCM⟩
      · exact (Cv.st (unhide C4)).put (by rw [unhide HL]; omega) _
      · exact but_set (unhide G4) hb _ _
    · go_simp
      refine (next p a bs cap (n + 2) 255 _ (by omega) (by omega) (by omega) hm (unhide S3)).mono ?_
      rintro e V4 ⟨x, hre, rfl, hx, wr, s⟩
      have E3 := hide hre
      have G4 := hide (but_trans (unhide G3) (but_wrote wr))
      have C4 := hide ((unhide C3).kept (wr.block g hgp))
      clear hre s wr S3 G3 C3
      clear hHeld
      refine hK.out _ _ trivial (fun hHeld => ?_)
      clear hK K
      (try simp only [Act.put, List.setIfInBounds_toArray, List.set_cons_zero, List.set_cons_succ])
      have wx : IntKind.i64.wrap (1 + (x : Int)) = 1 + (x : Int) := by rw [IntKind.wrap_i64]; omega
      have wu : IntKind.u8.wrap (1 + (x : Int)) = 1 + (x : Int) := IntWalk.u8_in _ (by omega)
      (refine Rg.tk (i := 9) (d := 21) (v := ?_) rfl rfl (by kernel_rfl) (by kernel_rfl) (by kernel_rfl) (fun _ _ _ h => h) (by rfl) ?_ (by assumption) ?_; rotate_left; (focus (intro w0 hSw; (try dsimp only at hSw); go_simp; (try with_reducible rfl))); (try simp only [Act.put, List.setIfInBounds_toArray, List.set_cons_zero, List.set_cons_succ]))
      (refine Rg.tk (i := 10) (d := 22) (v := ?_) rfl rfl (by kernel_rfl) (by kernel_rfl) (by kernel_rfl) (fun _ _ _ h => h) (by rfl) ?_ (by assumption) ?_; rotate_left; (focus (intro w0 hSw; (try dsimp only at hSw); go_simp; (try with_reducible rfl))); (try simp only [Act.put, List.setIfInBounds_toArray, List.set_cons_zero, List.set_cons_succ]))
      have lc : V4.cell? ⟨g, k, none⟩ = some (.int .u8 v) := by rw [(unhide C4).cell (by rw [unhide HL]; omega), unhide HVV]
      (refine wpAnyH_ready (rs := [6]) (by kernel_rfl) (by simp) ?_; refine AllReadyH.cons (o := _) rfl (fun K hK => ?_) AllReadyH.nil; go_simp)
      clear hHeld
      refine hK.out _ _ trivial (fun hHeld => ?_)
      clear hK K lc
      (try simp only [Act.put, List.setIfInBounds_toArray, List.set_cons_zero, List.set_cons_succ])
      (refine Rg.tk (i := 11) (d := 23) (v := .int .u8 (bits BinOp.xor IntKind.u8 v (1 + (x : Int)))) rfl rfl (by kernel_rfl) (by kernel_rfl) (by kernel_rfl) (fun _ _ _ h => h) (by rfl) ?_ (by assumption) ?_; (focus (intro w0 hSw; (try dsimp only at hSw); go_simp)); (try simp only [Act.put, List.setIfInBounds_toArray, List.set_cons_zero, List.set_cons_succ]))
      (refine Rg.tk (i := 12) (d := 24) (v := ?_) rfl rfl (by kernel_rfl) (by kernel_rfl) (by kernel_rfl) (fun _ _ _ h => h) (by rfl) ?_ (by assumption) ?_; rotate_left; (focus (intro w0 hSw; (try dsimp only at hSw); go_simp; (try with_reducible rfl))); (try simp only [Act.put, List.setIfInBounds_toArray, List.set_cons_zero, List.set_cons_succ]))
      have sc : V4.cell? ⟨g, k, none⟩ = some (.int .u8 v) := by rw [(unhide C4).cell (by rw [unhide HL]; omega), unhide HVV]
      have sf : V4.frozen? ⟨g, k, none⟩ = false := by exact (unhide C4).free (by omega)
      (refine wpAnyH_ready (rs := [13]) (by kernel_rfl) (by simp) ?_; refine AllReadyH.cons (o := _) rfl (fun K hK => ?_) AllReadyH.nil; go_simp)
      clear hHeld
      refine hK.out _ _ trivial (fun hHeld => ?_)
      clear hK K
      (try simp only [Act.put, List.setIfInBounds_toArray, List.set_cons_zero, List.set_cons_succ])
      refine wpAnyH_done (by kernel_rfl) (NoPanic.normal ?_) _
      clear hHeld sc sf
      go_wp2_with fail
      go_ret
      have e : spA bs n zs = zs.set k (xr v (1 + (x : Int))) := by unfold spA; rw [← unhide E1, unhide E2, unhide E3, ← unhide HVV, unhide HL, unhide E2] <;> rfl
      have el : (spA bs n zs).length = L := by rw [e, List.length_set, unhide HL]
      rw [el, e]
      refine ⟨g, _, rfl, ?_, ?_, by omega, unhide HCM⟩
      · exact (Cv.st (unhide C4)).put (by rw [unhide HL]; omega) _
      · exact but_set (unhide G4) hb _ _
  · go_wp2_with fail
    have hk2 : ((L : Int) + 1) = ((L + 1 : Nat) : Int) := by omega
    rw [hk2]
    clear hk2
    refine (next p a bs cap (n + 1) (L + 1) _ (by omega) (by omega) (by omega) hm (unhide S1)).mono ?_
    rintro e V2 ⟨k, hre, rfl, hk, wr, s⟩
    have E2 := hide hre
    have G2 := hide (but_trans (unhide G1) (but_wrote wr))
    have C2 := hide ((unhide C1).kept (wr.block g hgp))
    clear hre s wr S1 G1 C1
    have k0 : (0 : Int) ≤ (k : Int) := by omega
    have kc : (k : Int) ≤ (c : Int) := by omega
    go_wp2_with fail
    go_ret
    have e : spA bs n zs = zs.take k := by unfold spA; rw [← unhide E1, unhide E2, unhide HL] <;> rfl
    have el : (spA bs n zs).length = k := by rw [e, List.length_take, unhide HL]; omega
    rw [el, e]
    exact ⟨g, _, rfl, (Cv.st (unhide C2)).take k, unhide G2, by omega, unhide HCM⟩
  · go_wp2_with fail
    refine (next p a bs cap (n + 1) 256 _ (by omega) (by omega) (by omega) hm (unhide S1)).mono ?_
    rintro e V2 ⟨k, hre, rfl, hk, wr, s⟩
    have E2 := hide hre
    have hgV := (unhide C1).lt
    have hu : IntKind.u8.wrap (k : Int) = (k : Int) := IntWalk.u8_in _ (by omega)
    have G2 := hide (but_alloc (but_trans (unhide G1) (but_wrote wr)) (.cells #[.int .u8 (k : Int)] 5))
    have C2 : Hid (Cv (V2.alloc (.cells #[.int .u8 (k : Int)] 5)) g c zs) := hide (((unhide C1).kept (wr.block g hgp)).kept (((Below.refl _ _).alloc (Nat.le_refl _) _ : Below V2.heap.size V2 _).block g (by have := wr.size; omega)))
    have B2 : Hid ((V2.alloc (.cells #[.int .u8 (k : Int)] 5)).cell? ⟨V2.heap.size, 0, none⟩ = some (.int .u8 (k : Int))) := hide (World.cell?_alloc_new _ _ _ _)
    clear hre s wr S1 G1 C1
    go_wp2_with (at_builtin; refine Cn.wpList_one (unhide C2) V2.heap.size 0 1 (k : Int) (unhide B2) (by rw [unhide HL]; omega) rfl _ _ rfl (by rw [unhide HL]; rfl) rfl ?_; intro g3 c3 w3 st3 g3' hc3; have HC3 := hide hc3; clear hc3; have ST3 := hide st3; have G3 := hide (but_own (unhide G2) g3' (fun q hq => by cases hq; exact hb)); clear st3 g3'; rw [unhide HL])
    go_ret
    have e : spA bs n zs = zs ++ [(k : Int)] := by unfold spA; rw [← unhide E1, unhide E2] <;> rfl
    have el : (spA bs n zs).length = L + 1 := by rw [e, List.length_append, unhide HL]; rfl
    rw [el, e]
    exact ⟨g3, _, rfl, fun i hi => unhide ST3 i (by rw [List.length_append] at hi; exact hi), unhide G3, by have := (unhide HC3).1; rw [unhide HL] at this; exact this, (unhide HC3).2⟩
  · go_wp2_with fail
    go_ret
    have e : spA bs n zs = zs := by unfold spA; rw [← unhide E1] <;> rfl
    rw [e, unhide HL]
    exact ⟨g, _, rfl, Cv.st (unhide C1), unhide G1, by omega, unhide HCM⟩
end Fp
end Go.Proofs.Ytpknahhdapmcoaa
