/-
  The program's contracts: cmp.Compare, cmp.Or, and which of two links is the better relay.
-/
import Derived.Test.YtpknahhdapmcoaoGrpG
namespace Go.Proofs.Ytpknahhdapmcoao
open Go.ChangeShapes Go.WideShapes Go.ChangeAt Go.RowKit
set_option linter.unusedVariables false
set_option linter.unusedSimpArgs false
attribute [local go_sem ↓] Go.wp_at_zero Go.wp_at_succ
namespace Gp
open W1 Tu St Tw Mr
set_option maxHeartbeats 1000000 in
theorem compare (x y : Int) (w : World) : Calls Try.prog 44 #[.int .i64 x, .int .i64 y] w fun e w' => e = .returned (.int .i64 (cmpV x y)) ∧ w' = w := by
  by_cases h1 : x < y
  · rw [show cmpV x y = -1 by unfold cmpV; rw [if_pos h1]]
    go_enter Try.func44, Try.ntmps44
    go_wp2
    go_ret
    exact ⟨rfl, rfl⟩
  by_cases h2 : y < x
  · rw [show cmpV x y = 1 by unfold cmpV; rw [if_neg h1, if_pos h2]]
    go_enter Try.func44, Try.ntmps44
    go_wp2
    go_ret
    exact ⟨rfl, rfl⟩
  · rw [show cmpV x y = 0 by unfold cmpV; rw [if_neg h1, if_neg h2]]
    go_enter Try.func44, Try.ntmps44
    go_wp2
    go_ret
    exact ⟨rfl, rfl⟩
theorem or_drop {zs : List Int} {j : Nat} (h : j < zs.length) : orV (zs.drop j) = if zs.getD j 0 = 0 then orV (zs.drop (j + 1)) else zs.getD j 0 := by
  rw [List.drop_eq_getElem_cons h, List.getD_eq_getElem?_getD, List.getElem?_eq_getElem h]; rfl
set_option maxHeartbeats 2000000 in
theorem cmpOr (a : Option Addr) (zs : List Int) (cap : Nat) (w : World) (hm : zs.length ≤ 64) (hr : In.RM w a zs) :
    Calls Try.prog 43 #[.slice a zs.length cap] w fun e w' => e = .returned (.int .i64 (orV zs)) ∧ w' = w := by
  have HR := hide hr
  clear hr
  generalize hN : zs.length = n at *
  have HN := hide hN
  clear hN
  go_enter Try.func43, Try.ntmps43
  go_wp2_with fail
  go_loopw [8] (fun i wr => w = wr ∧ ∃ j : Nat, j ≤ n ∧ i = .int .i64 j ∧ Hid (orV zs = orV (zs.drop j))) (fun i _ => n - (intOf i).toNat)
  case atStart => exact ⟨rfl, 0, by omega, rfl, hide rfl⟩
  case round =>
    obtain ⟨rfl, j, hj, rfl, ho⟩ := hrel
    by_cases hlt : (j : Int) < (n : Int)
    · have k0 : (0 : Int) ≤ (j : Int) := by omega
      have hlen : j < zs.length := by rw [unhide HN]; omega
      rcases unhide HR with e0 | ⟨g, off, rfl, hc⟩
      · exfalso; rw [e0] at hlen; simp at hlen
      have c0 := hc j hlen
      clear hc
      have HT := hide (or_drop hlen)
      generalize zs.getD j 0 = y at *
      by_cases hy : y = 0
      · have HE : Hid (orV zs = orV (zs.drop (j + 1))) := hide (by rw [unhide ho, unhide HT, if_pos hy])
        subst hy
        go_wp2_with fail
        go_roundw
        case rel => exact ⟨by first | trivial | rfl, j + 1, by omega, by go_num, HE⟩
        case measure => simp [intOf]; omega
      · have HE : Hid (y = orV zs) := hide (by rw [unhide ho, unhide HT, if_neg hy])
        have hy2 : (y != 0) = true := by simpa using hy
        go_wp2_with fail
        go_ret
        exact ⟨ret_int (unhide HE), rfl⟩
    · obtain rfl : j = n := by omega
      have HE : Hid (0 = orV zs) := hide (by have := unhide ho; rw [← unhide HN, List.drop_length] at this; exact this.symm)
      go_wp2_with fail
      go_ret
      exact ⟨ret_int (unhide HE), rfl⟩
theorem rm_new4 (w : World) (a b c d : Int) : In.RM (w.alloc (.cells #[.int .i64 a, .int .i64 b, .int .i64 c, .int .i64 d] 3)) (some ⟨w.heap.size, 0, none⟩) [a, b, c, d] := by
  refine .inr ⟨_, _, rfl, fun i hi => ?_⟩
  rw [World.cell?_alloc_new]
  match i, hi with
  | 0, _ | 1, _ | 2, _ | 3, _ => rfl
  | n + 4, h => simp at h; omega
theorem rm_new3 (w : World) (a b c : Int) : In.RM (w.alloc (.cells #[.int .i64 a, .int .i64 b, .int .i64 c] 3)) (some ⟨w.heap.size, 0, none⟩) [a, b, c] := by
  refine .inr ⟨_, _, rfl, fun i hi => ?_⟩
  rw [World.cell?_alloc_new]
  match i, hi with
  | 0, _ | 1, _ | 2, _ => rfl
  | n + 3, h => simp at h; omega
/-- Gain and degree as the program counts them. -/
def glB (S : List Int) (via : Int → List Int) (L : List Int) (a z : Int) : Bool := rB S via a z && L.contains z
def gnV (S : List Int) (via : Int → List Int) (L : List Int) (a : Int) : Int := ((strN (glB S via L a) 8).length : Int)
def dgV (S : List Int) (via : Int → List Int) (a : Int) : Int := ((strN (rB S via a) 8).length : Int)
theorem and_rL (S : List Int) (via : Int → List Int) (L : List Int) (q : Nat) : bits .and .u16 (rN S via q : Int) (gL L : Int) = (gN (glB S via L q) : Int) := and_int _ _
set_option maxRecDepth 100000 in
set_option maxHeartbeats 8000000 in
theorem byWorth (G lb : Nat) (s : Nat) (V : Nat → Nat) (S : List Int) (via : Int → List Int) (L : List Int) (x y : Lk.R) (w : World) (hx : 1 ≤ x.ad ∧ x.ad ≤ 8) (hy : 1 ≤ y.ad ∧ y.ad ≤ 8) (hg : GA w G s V (rN S via)) (hl : w.cell? ⟨lb, 0, none⟩ = some (.int .u16 (gL L))) :
    Calls Try.prog 42 #[x.value, y.value, .pointer (some ⟨G, 0, none⟩), .pointer (some ⟨lb, 0, none⟩)] w fun e w' => e = .returned (.int .i64 (worth (gnV S via L) (dgV S via) x y)) ∧ Below w.heap.size w w' := by
  have HG := hide hg
  have hlb := World.block_lt_of_cell? _ _ hl
  have HL := hide hl
  clear hg hl
  have e0 : worth (gnV S via L) (dgV S via) x y = orV [cmpV (gnV S via L x.ad) (gnV S via L y.ad), cmpV x.wl y.wl, cmpV (dgV S via x.ad) (dgV S via y.ad), cmpV y.ad x.ad] := rfl
  rw [e0]
  clear e0
  obtain ⟨xa, xh, xs, xi, xo, xw⟩ := x
  obtain ⟨ya, yh, ys, yi, yo, yw⟩ := y
  dsimp only at hx hy ⊢
  obtain ⟨qx, rfl⟩ : ∃ q : Nat, xa = (q : Int) := ⟨xa.toNat, by omega⟩
  obtain ⟨qy, rfl⟩ : ∃ q : Nat, ya = (q : Int) := ⟨ya.toNat, by omega⟩
  have hqx : qx < 9 := by omega
  have hqy : qy < 9 := by omega
  have qx0 : (0 : Int) ≤ (qx : Int) := by omega
  have qx9 : (qx : Int) < 9 := by omega
  have qy0 : (0 : Int) ≤ (qy : Int) := by omega
  have qy9 : (qy : Int) < 9 := by omega
  have hAx := and_rL S via L qx
  have hAy := and_rL S via L qy
  have HE1 : Hid (∀ q : Nat, rN S via q = gN (rB S via q)) := hide (fun _ => rfl)
  show Calls Try.prog 42 #[.agg #[.int .i64 (qx : Int), .int .i64 xh, .int .i64 xs, .int .i64 xi, .int .i64 xo, .int .i64 xw], .agg #[.int .i64 (qy : Int), .int .i64 yh, .int .i64 ys, .int .i64 yi, .int .i64 yo, .int .i64 yw], .pointer (some ⟨G, 0, none⟩), .pointer (some ⟨lb, 0, none⟩)] w _
  have HBx := hide (Ln.bx_new w ⟨(qx : Int), xh, xs, xi, xo, xw⟩ 54)
  have HBy := hide (Ln.bx_new (w.alloc (.cells #[.int .i64 (qx : Int), .int .i64 xh, .int .i64 xs, .int .i64 xi, .int .i64 xo, .int .i64 xw] 54)) ⟨(qy : Int), yh, ys, yi, yo, yw⟩ 54)
  have P1 := hide ((Below.refl w.heap.size w).alloc (Nat.le_refl _) (.cells #[.int .i64 (qx : Int), .int .i64 xh, .int .i64 xs, .int .i64 xi, .int .i64 xo, .int .i64 xw] 54))
  have P2 := hide ((unhide P1).alloc (unhide P1).size (.cells #[.int .i64 (qy : Int), .int .i64 yh, .int .i64 ys, .int .i64 yi, .int .i64 yo, .int .i64 yw] 54))
  go_enter Try.func42, Try.ntmps42
  go_wp2_with fail
  have HG2 := hide ((unhide HG).below (unhide P2))
  have HL2 : Hid (((w.alloc (.cells #[.int .i64 (qx : Int), .int .i64 xh, .int .i64 xs, .int .i64 xi, .int .i64 xo, .int .i64 xw] 54)).alloc (.cells #[.int .i64 (qy : Int), .int .i64 yh, .int .i64 ys, .int .i64 yi, .int .i64 yo, .int .i64 yw] 54)).cell? ⟨lb, 0, none⟩ = some (.int .u16 (gL L))) := hide (((unhide P2).cell (p := ⟨lb, 0, none⟩) hlb).trans (unhide HL))
  have HX2 := hide ((unhide HBx).below ((Below.refl _ _).alloc (Nat.le_refl _) (.cells #[.int .i64 (qy : Int), .int .i64 yh, .int .i64 ys, .int .i64 yi, .int .i64 yo, .int .i64 yw] 54)))
  rw [World.size_alloc] at HBy
  generalize hw2 : (w.alloc (.cells #[.int .i64 (qx : Int), .int .i64 xh, .int .i64 xs, .int .i64 xi, .int .i64 xo, .int .i64 xw] 54)).alloc (.cells #[.int .i64 (qy : Int), .int .i64 yh, .int .i64 ys, .int .i64 yi, .int .i64 yo, .int .i64 yw] 54) = w2 at *
  clear hw2 P1 HBx HG HL
  have HS : Hid (∀ w', Below w2.heap.size w2 w' → w'.cell? ⟨w.heap.size, 0, none⟩ = some (.int .i64 (qx : Int)) ∧ w'.cell? ⟨w.heap.size, 5, none⟩ = some (.int .i64 xw) ∧ w'.cell? ⟨w.heap.size + 1, 0, none⟩ = some (.int .i64 (qy : Int)) ∧ w'.cell? ⟨w.heap.size + 1, 5, none⟩ = some (.int .i64 yw) ∧ w'.cell? ⟨G, 10 + qx, none⟩ = some (.int .u16 (rN S via qx)) ∧ w'.cell? ⟨G, 10 + qy, none⟩ = some (.int .u16 (rN S via qy)) ∧ w'.cell? ⟨lb, 0, none⟩ = some (.int .u16 (gL L))) := hide (fun w' hb => by
    obtain ⟨x0, x1, x2, x3, x4, x5⟩ := (unhide HX2).below hb
    obtain ⟨y0, y1, y2, y3, y4, y5⟩ := (unhide HBy).below hb
    have h2 := hb.cell (p := ⟨lb, 0, none⟩) (World.block_lt_of_cell? _ _ (unhide HL2))
    exact ⟨x0, x5, y0, y5, (((unhide HG2).below hb).r hqx).1, (((unhide HG2).below hb).r hqy).1, h2.trans (unhide HL2)⟩)
  clear HX2 HBy HG2 HL2
  have hRx := unhide HE1 qx
  have hRy := unhide HE1 qy
  have egx : gnV S via L (qx : Int) = ((strN (glB S via L qx) 8).length : Int) := rfl
  have egy : gnV S via L (qy : Int) = ((strN (glB S via L qy) 8).length : Int) := rfl
  have edx : dgV S via (qx : Int) = ((strN (rB S via qx) 8).length : Int) := rfl
  have edy : dgV S via (qy : Int) = ((strN (rB S via qy) 8).length : Int) := rfl
  have HGX := hide egx
  have HGY := hide egy
  have HDX := hide edx
  have HDY := hide edy
  have HRX := hide hRx
  have HRY := hide hRy
  clear egx egy edx edy hRx hRy HE1
  have B2 : Below w2.heap.size w2 w2.drew := (Below.refl _ _).drew
  refine wp_region_noPanic ?_
  refine wp_region_held_drew (S := fun w' => w'.cell? ⟨w.heap.size, 0, none⟩ = some (.int .i64 (qx : Int)) ∧ w'.cell? ⟨w.heap.size, 5, none⟩ = some (.int .i64 xw) ∧ w'.cell? ⟨w.heap.size + 1, 0, none⟩ = some (.int .i64 (qy : Int)) ∧ w'.cell? ⟨w.heap.size + 1, 5, none⟩ = some (.int .i64 yw) ∧ w'.cell? ⟨G, 10 + qx, none⟩ = some (.int .u16 (rN S via qx)) ∧ w'.cell? ⟨G, 10 + qy, none⟩ = some (.int .u16 (rN S via qy)) ∧ w'.cell? ⟨lb, 0, none⟩ = some (.int .u16 (gL L))) (by kernel_rfl) (unhide HS _ B2) (fun hHeld => ?_)
  (refine Rg.tk (i := 0) (d := 7) (v := ?_) rfl rfl (by kernel_rfl) (by kernel_rfl) (by kernel_rfl) (fun _ _ _ h => h) (by rfl) ?_ (by assumption) ?_; rotate_left; (focus (intro w0 hSw; (try dsimp only at hSw); go_simp; (try with_reducible rfl))); (try simp only [Act.put, List.setIfInBounds_toArray, List.set_cons_zero, List.set_cons_succ]))
  (refine Rg.tk (i := 1) (d := 8) (v := ?_) rfl rfl (by kernel_rfl) (by kernel_rfl) (by kernel_rfl) (fun _ _ _ h => h) (by rfl) ?_ (by assumption) ?_; rotate_left; (focus (intro w0 hSw; (try dsimp only at hSw); go_simp; (try with_reducible rfl))); (try simp only [Act.put, List.setIfInBounds_toArray, List.set_cons_zero, List.set_cons_succ]))
  (refine Rg.tk (i := 2) (d := 9) (v := ?_) rfl rfl (by kernel_rfl) (by kernel_rfl) (by kernel_rfl) (fun _ _ _ h => h) (by rfl) ?_ (by assumption) ?_; rotate_left; (focus (intro w0 hSw; (try dsimp only at hSw); go_simp; (try with_reducible rfl))); (try simp only [Act.put, List.setIfInBounds_toArray, List.set_cons_zero, List.set_cons_succ]))
  (refine Rg.tk (i := 3) (d := 10) (v := ?_) rfl rfl (by kernel_rfl) (by kernel_rfl) (by kernel_rfl) (fun _ _ _ h => h) (by rfl) ?_ (by assumption) ?_; rotate_left; (focus (intro w0 hSw; (try dsimp only at hSw); go_simp; (try with_reducible rfl))); (try simp only [Act.put, List.setIfInBounds_toArray, List.set_cons_zero, List.set_cons_succ]))
  (refine Rg.tk (i := 4) (d := 11) (v := ?_) rfl rfl (by kernel_rfl) (by kernel_rfl) (by kernel_rfl) (fun _ _ _ h => h) (by rfl) ?_ (by assumption) ?_; rotate_left; (focus (intro w0 hSw; (try dsimp only at hSw); go_simp; (try with_reducible rfl))); (try simp only [Act.put, List.setIfInBounds_toArray, List.set_cons_zero, List.set_cons_succ]))
  (refine Rg.tk (i := 5) (d := 12) (v := ?_) rfl rfl (by kernel_rfl) (by kernel_rfl) (by kernel_rfl) (fun _ _ _ h => h) (by rfl) ?_ (by assumption) ?_; rotate_left; (focus (intro w0 hSw; (try dsimp only at hSw); go_simp; (try with_reducible rfl))); (try simp only [Act.put, List.setIfInBounds_toArray, List.set_cons_zero, List.set_cons_succ]))
  (refine Rg.tk (i := 6) (d := 13) (v := ?_) rfl rfl (by kernel_rfl) (by kernel_rfl) (by kernel_rfl) (fun _ _ _ h => h) (by rfl) ?_ (by assumption) ?_; rotate_left; (focus (intro w0 hSw; (try dsimp only at hSw); go_simp; (try with_reducible rfl))); (try simp only [Act.put, List.setIfInBounds_toArray, List.set_cons_zero, List.set_cons_succ]))
  (refine Rg.tk (i := 8) (d := 15) (v := ?_) rfl rfl (by kernel_rfl) (by kernel_rfl) (by kernel_rfl) (fun _ _ _ h => h) (by rfl) ?_ (by assumption) ?_; rotate_left; (focus (intro w0 hSw; (try dsimp only at hSw); go_simp; (try with_reducible rfl))); (try simp only [Act.put, List.setIfInBounds_toArray, List.set_cons_zero, List.set_cons_succ]))
  (refine Rg.tk (i := 9) (d := 16) (v := ?_) rfl rfl (by kernel_rfl) (by kernel_rfl) (by kernel_rfl) (fun _ _ _ h => h) (by rfl) ?_ (by assumption) ?_; rotate_left; (focus (intro w0 hSw; (try dsimp only at hSw); go_simp; (try with_reducible rfl))); (try simp only [Act.put, List.setIfInBounds_toArray, List.set_cons_zero, List.set_cons_succ]))
  (refine Rg.tk (i := 10) (d := 17) (v := ?_) rfl rfl (by kernel_rfl) (by kernel_rfl) (by kernel_rfl) (fun _ _ _ h => h) (by rfl) ?_ (by assumption) ?_; rotate_left; (focus (intro w0 hSw; (try dsimp only at hSw); go_simp; (try with_reducible rfl))); (try simp only [Act.put, List.setIfInBounds_toArray, List.set_cons_zero, List.set_cons_succ]))
  (refine Rg.tk (i := 11) (d := 18) (v := ?_) rfl rfl (by kernel_rfl) (by kernel_rfl) (by kernel_rfl) (fun _ _ _ h => h) (by rfl) ?_ (by assumption) ?_; rotate_left; (focus (intro w0 hSw; (try dsimp only at hSw); go_simp; (try with_reducible rfl))); (try simp only [Act.put, List.setIfInBounds_toArray, List.set_cons_zero, List.set_cons_succ]))
  (refine Rg.tk (i := 12) (d := 19) (v := ?_) rfl rfl (by kernel_rfl) (by kernel_rfl) (by kernel_rfl) (fun _ _ _ h => h) (by rfl) ?_ (by assumption) ?_; rotate_left; (focus (intro w0 hSw; (try dsimp only at hSw); go_simp; (try with_reducible rfl))); (try simp only [Act.put, List.setIfInBounds_toArray, List.set_cons_zero, List.set_cons_succ]))
  (refine Rg.tk (i := 13) (d := 20) (v := ?_) rfl rfl (by kernel_rfl) (by kernel_rfl) (by kernel_rfl) (fun _ _ _ h => h) (by rfl) ?_ (by assumption) ?_; rotate_left; (focus (intro w0 hSw; (try dsimp only at hSw); go_simp; (try with_reducible rfl))); (try simp only [Act.put, List.setIfInBounds_toArray, List.set_cons_zero, List.set_cons_succ]))
  (refine Rg.tk (i := 14) (d := 21) (v := ?_) rfl rfl (by kernel_rfl) (by kernel_rfl) (by kernel_rfl) (fun _ _ _ h => h) (by rfl) ?_ (by assumption) ?_; rotate_left; (focus (intro w0 hSw; (try dsimp only at hSw); go_simp; (try with_reducible rfl))); (try simp only [Act.put, List.setIfInBounds_toArray, List.set_cons_zero, List.set_cons_succ]))
  (refine Rg.tk (i := 17) (d := 24) (v := ?_) rfl rfl (by kernel_rfl) (by kernel_rfl) (by kernel_rfl) (fun _ _ _ h => h) (by rfl) ?_ (by assumption) ?_; rotate_left; (focus (intro w0 hSw; (try dsimp only at hSw); go_simp; (try with_reducible rfl))); (try simp only [Act.put, List.setIfInBounds_toArray, List.set_cons_zero, List.set_cons_succ]))
  (refine Rg.tk (i := 18) (d := 25) (v := ?_) rfl rfl (by kernel_rfl) (by kernel_rfl) (by kernel_rfl) (fun _ _ _ h => h) (by rfl) ?_ (by assumption) ?_; rotate_left; (focus (intro w0 hSw; (try dsimp only at hSw); go_simp; (try with_reducible rfl))); (try simp only [Act.put, List.setIfInBounds_toArray, List.set_cons_zero, List.set_cons_succ]))
  (refine Rg.tk (i := 19) (d := 26) (v := ?_) rfl rfl (by kernel_rfl) (by kernel_rfl) (by kernel_rfl) (fun _ _ _ h => h) (by rfl) ?_ (by assumption) ?_; rotate_left; (focus (intro w0 hSw; (try dsimp only at hSw); go_simp; (try with_reducible rfl))); (try simp only [Act.put, List.setIfInBounds_toArray, List.set_cons_zero, List.set_cons_succ]))
  (refine Rg.tk (i := 20) (d := 27) (v := ?_) rfl rfl (by kernel_rfl) (by kernel_rfl) (by kernel_rfl) (fun _ _ _ h => h) (by rfl) ?_ (by assumption) ?_; rotate_left; (focus (intro w0 hSw; (try dsimp only at hSw); go_simp; (try with_reducible rfl))); (try simp only [Act.put, List.setIfInBounds_toArray, List.set_cons_zero, List.set_cons_succ]))
  (refine Rg.tk (i := 22) (d := 29) (v := ?_) rfl rfl (by kernel_rfl) (by kernel_rfl) (by kernel_rfl) (fun _ _ _ h => h) (by rfl) ?_ (by assumption) ?_; rotate_left; (focus (intro w0 hSw; (try dsimp only at hSw); go_simp; (try with_reducible rfl))); (try simp only [Act.put, List.setIfInBounds_toArray, List.set_cons_zero, List.set_cons_succ]))
  (refine Rg.tk (i := 23) (d := 30) (v := ?_) rfl rfl (by kernel_rfl) (by kernel_rfl) (by kernel_rfl) (fun _ _ _ h => h) (by rfl) ?_ (by assumption) ?_; rotate_left; (focus (intro w0 hSw; (try dsimp only at hSw); go_simp; (try with_reducible rfl))); (try simp only [Act.put, List.setIfInBounds_toArray, List.set_cons_zero, List.set_cons_succ]))
  (refine Rg.tk (i := 24) (d := 31) (v := ?_) rfl rfl (by kernel_rfl) (by kernel_rfl) (by kernel_rfl) (fun _ _ _ h => h) (by rfl) ?_ (by assumption) ?_; rotate_left; (focus (intro w0 hSw; (try dsimp only at hSw); go_simp; (try with_reducible rfl))); (try simp only [Act.put, List.setIfInBounds_toArray, List.set_cons_zero, List.set_cons_succ]))
  (refine Rg.tk (i := 25) (d := 32) (v := ?_) rfl rfl (by kernel_rfl) (by kernel_rfl) (by kernel_rfl) (fun _ _ _ h => h) (by rfl) ?_ (by assumption) ?_; rotate_left; (focus (intro w0 hSw; (try dsimp only at hSw); go_simp; (try with_reducible rfl))); (try simp only [Act.put, List.setIfInBounds_toArray, List.set_cons_zero, List.set_cons_succ]))
  (refine Rg.tk (i := 26) (d := 33) (v := ?_) rfl rfl (by kernel_rfl) (by kernel_rfl) (by kernel_rfl) (fun _ _ _ h => h) (by rfl) ?_ (by assumption) ?_; rotate_left; (focus (intro w0 hSw; (try dsimp only at hSw); go_simp; (try with_reducible rfl))); (try simp only [Act.put, List.setIfInBounds_toArray, List.set_cons_zero, List.set_cons_succ]))
  (refine Rg.tk (i := 28) (d := 35) (v := ?_) rfl rfl (by kernel_rfl) (by kernel_rfl) (by kernel_rfl) (fun _ _ _ h => h) (by rfl) ?_ (by assumption) ?_; rotate_left; (focus (intro w0 hSw; (try dsimp only at hSw); go_simp; (try with_reducible rfl))); (try simp only [Act.put, List.setIfInBounds_toArray, List.set_cons_zero, List.set_cons_succ]))
  (refine Rg.tk (i := 29) (d := 36) (v := ?_) rfl rfl (by kernel_rfl) (by kernel_rfl) (by kernel_rfl) (fun _ _ _ h => h) (by rfl) ?_ (by assumption) ?_; rotate_left; (focus (intro w0 hSw; (try dsimp only at hSw); go_simp; (try with_reducible rfl))); (try simp only [Act.put, List.setIfInBounds_toArray, List.set_cons_zero, List.set_cons_succ]))
  (refine Rg.tk (i := 30) (d := 37) (v := ?_) rfl rfl (by kernel_rfl) (by kernel_rfl) (by kernel_rfl) (fun _ _ _ h => h) (by rfl) ?_ (by assumption) ?_; rotate_left; (focus (intro w0 hSw; (try dsimp only at hSw); go_simp; (try with_reducible rfl))); (try simp only [Act.put, List.setIfInBounds_toArray, List.set_cons_zero, List.set_cons_succ]))
  (refine Rg.tk (i := 31) (d := 38) (v := ?_) rfl rfl (by kernel_rfl) (by kernel_rfl) (by kernel_rfl) (fun _ _ _ h => h) (by rfl) ?_ (by assumption) ?_; rotate_left; (focus (intro w0 hSw; (try dsimp only at hSw); go_simp; (try with_reducible rfl))); (try simp only [Act.put, List.setIfInBounds_toArray, List.set_cons_zero, List.set_cons_succ]))
  (refine Rg.tk (i := 32) (d := 39) (v := ?_) rfl rfl (by kernel_rfl) (by kernel_rfl) (by kernel_rfl) (fun _ _ _ h => h) (by rfl) ?_ (by assumption) ?_; rotate_left; (focus (intro w0 hSw; (try dsimp only at hSw); go_simp; (try with_reducible rfl))); (try simp only [Act.put, List.setIfInBounds_toArray, List.set_cons_zero, List.set_cons_succ]))
  (refine Rg.tk (i := 35) (d := 42) (v := ?_) rfl rfl (by kernel_rfl) (by kernel_rfl) (by kernel_rfl) (fun _ _ _ h => h) (by rfl) ?_ (by assumption) ?_; rotate_left; (focus (intro w0 hSw; (try dsimp only at hSw); go_simp; (try with_reducible rfl))); (try simp only [Act.put, List.setIfInBounds_toArray, List.set_cons_zero, List.set_cons_succ]))
  (refine Rg.tk (i := 36) (d := 43) (v := ?_) rfl rfl (by kernel_rfl) (by kernel_rfl) (by kernel_rfl) (fun _ _ _ h => h) (by rfl) ?_ (by assumption) ?_; rotate_left; (focus (intro w0 hSw; (try dsimp only at hSw); go_simp; (try with_reducible rfl))); (try simp only [Act.put, List.setIfInBounds_toArray, List.set_cons_zero, List.set_cons_succ]))
  (refine Rg.tk (i := 37) (d := 44) (v := ?_) rfl rfl (by kernel_rfl) (by kernel_rfl) (by kernel_rfl) (fun _ _ _ h => h) (by rfl) ?_ (by assumption) ?_; rotate_left; (focus (intro w0 hSw; (try dsimp only at hSw); go_simp; (try with_reducible rfl))); (try simp only [Act.put, List.setIfInBounds_toArray, List.set_cons_zero, List.set_cons_succ]))
  (refine Rg.tk (i := 38) (d := 45) (v := ?_) rfl rfl (by kernel_rfl) (by kernel_rfl) (by kernel_rfl) (fun _ _ _ h => h) (by rfl) ?_ (by assumption) ?_; rotate_left; (focus (intro w0 hSw; (try dsimp only at hSw); go_simp; (try with_reducible rfl))); (try simp only [Act.put, List.setIfInBounds_toArray, List.set_cons_zero, List.set_cons_succ]))
  (refine wpAnyH_ready (rs := [7]) (by kernel_rfl) (by simp) ?_; refine AllReadyH.cons (o := _) rfl (fun K hK => ?_) AllReadyH.nil; go_simp)
  refine (count _ _).mono ?_
  rintro e v3 ⟨rfl, m3, hv3⟩
  have B3 : Below w2.heap.size w2 v3 := by rw [hv3]; exact B2.trans ((below_dN' _ m3).mono B2.size)
  clear hv3 hHeld
  refine hK.out _ _ (unhide HS _ B3) (fun hHeld => ?_)
  clear hK K
  (try simp only [Act.put, List.setIfInBounds_toArray, List.set_cons_zero, List.set_cons_succ])
  (refine wpAnyH_ready (rs := [15]) (by kernel_rfl) (by simp) ?_; refine AllReadyH.cons (o := _) rfl (fun K hK => ?_) AllReadyH.nil; go_simp)
  refine (count _ _).mono ?_
  rintro e v4 ⟨rfl, m4, hv4⟩
  have B4 : Below w2.heap.size w2 v4 := by rw [hv4]; exact B3.trans ((below_dN' _ m4).mono B3.size)
  clear hv4 hHeld
  refine hK.out _ _ (unhide HS _ B4) (fun hHeld => ?_)
  clear hK K
  (try simp only [Act.put, List.setIfInBounds_toArray, List.set_cons_zero, List.set_cons_succ])
  (refine wpAnyH_ready (rs := [16]) (by kernel_rfl) (by simp) ?_; refine AllReadyH.cons (o := _) rfl (fun K hK => ?_) AllReadyH.nil; go_simp)
  refine (compare _ _ _).mono ?_
  rintro e v5 ⟨rfl, hv5⟩
  have B5 : Below w2.heap.size w2 v5 := by rw [hv5]; exact B4
  clear hv5 hHeld
  refine hK.out _ _ (unhide HS _ B5) (fun hHeld => ?_)
  clear hK K
  (try simp only [Act.put, List.setIfInBounds_toArray, List.set_cons_zero, List.set_cons_succ])
  (refine wpAnyH_ready (rs := [21]) (by kernel_rfl) (by simp) ?_; refine AllReadyH.cons (o := _) rfl (fun K hK => ?_) AllReadyH.nil; go_simp)
  refine (compare _ _ _).mono ?_
  rintro e v6 ⟨rfl, hv6⟩
  have B6 : Below w2.heap.size w2 v6 := by rw [hv6]; exact B5
  clear hv6 hHeld
  refine hK.out _ _ (unhide HS _ B6) (fun hHeld => ?_)
  clear hK K
  (try simp only [Act.put, List.setIfInBounds_toArray, List.set_cons_zero, List.set_cons_succ])
  (refine wpAnyH_ready (rs := [27]) (by kernel_rfl) (by simp) ?_; refine AllReadyH.cons (o := _) rfl (fun K hK => ?_) AllReadyH.nil; go_simp)
  refine (count (rB S via qx) _).mono ?_
  rintro e v7 ⟨rfl, m7, hv7⟩
  have B7 : Below w2.heap.size w2 v7 := by rw [hv7]; exact B6.trans ((below_dN' _ m7).mono B6.size)
  clear hv7 hHeld
  refine hK.out _ _ (unhide HS _ B7) (fun hHeld => ?_)
  clear hK K
  (try simp only [Act.put, List.setIfInBounds_toArray, List.set_cons_zero, List.set_cons_succ])
  (refine wpAnyH_ready (rs := [33]) (by kernel_rfl) (by simp) ?_; refine AllReadyH.cons (o := _) rfl (fun K hK => ?_) AllReadyH.nil; go_simp)
  refine (count (rB S via qy) _).mono ?_
  rintro e v8 ⟨rfl, m8, hv8⟩
  have B8 : Below w2.heap.size w2 v8 := by rw [hv8]; exact B7.trans ((below_dN' _ m8).mono B7.size)
  clear hv8 hHeld
  refine hK.out _ _ (unhide HS _ B8) (fun hHeld => ?_)
  clear hK K
  (try simp only [Act.put, List.setIfInBounds_toArray, List.set_cons_zero, List.set_cons_succ])
  (refine wpAnyH_ready (rs := [34]) (by kernel_rfl) (by simp) ?_; refine AllReadyH.cons (o := _) rfl (fun K hK => ?_) AllReadyH.nil; go_simp)
  refine (compare _ _ _).mono ?_
  rintro e v9 ⟨rfl, hv9⟩
  have B9 : Below w2.heap.size w2 v9 := by rw [hv9]; exact B8
  clear hv9 hHeld
  refine hK.out _ _ (unhide HS _ B9) (fun hHeld => ?_)
  clear hK K
  (try simp only [Act.put, List.setIfInBounds_toArray, List.set_cons_zero, List.set_cons_succ])
  (refine wpAnyH_ready (rs := [39]) (by kernel_rfl) (by simp) ?_; refine AllReadyH.cons (o := _) rfl (fun K hK => ?_) AllReadyH.nil; go_simp)
  refine (compare _ _ _).mono ?_
  rintro e v10 ⟨rfl, hv10⟩
  have B10 : Below w2.heap.size w2 v10 := by rw [hv10]; exact B9
  clear hv10 hHeld
  refine hK.out _ _ (unhide HS _ B10) (fun hHeld => ?_)
  clear hK K
  (try simp only [Act.put, List.setIfInBounds_toArray, List.set_cons_zero, List.set_cons_succ])
  (refine wpAnyH_ready (rs := [40]) (by kernel_rfl) (by simp) ?_; refine AllReadyH.cons (o := _) rfl (fun K hK => ?_) AllReadyH.nil; go_simp)
  have B11 := B10.alloc B10.size (.cells #[.int .i64 (cmpV (strN (glB S via L qx) 8).length (strN (glB S via L qy) 8).length), .int .i64 (cmpV xw yw), .int .i64 (cmpV (strN (rB S via qx) 8).length (strN (rB S via qy) 8).length), .int .i64 (cmpV (qy : Int) (qx : Int))] 3)
  have HRN := hide (rm_new4 v10 (cmpV (strN (glB S via L qx) 8).length (strN (glB S via L qy) 8).length) (cmpV xw yw) (cmpV (strN (rB S via qx) 8).length (strN (rB S via qy) 8).length) (cmpV (qy : Int) (qx : Int)))
  clear hHeld
  refine hK.out _ _ (unhide HS _ B11) (fun hHeld => ?_)
  clear hK K
  (try simp only [Act.put, List.setIfInBounds_toArray, List.set_cons_zero, List.set_cons_succ])
  (refine wpAnyH_ready (rs := [41]) (by kernel_rfl) (by simp) ?_; refine AllReadyH.cons (o := _) rfl (fun K hK => ?_) AllReadyH.nil; go_simp)
  refine (cmpOr _ [_, _, _, _] _ _ (by simp) (unhide HRN)).mono ?_
  rintro e v12 ⟨rfl, hv12⟩
  have B12 : Below w2.heap.size w2 v12 := by rw [hv12]; exact B11
  clear hv12 hHeld
  refine hK.out _ _ (unhide HS _ B12) (fun hHeld => ?_)
  clear hK K
  (try simp only [Act.put, List.setIfInBounds_toArray, List.set_cons_zero, List.set_cons_succ])
  (refine Rg.tk (i := 42) (d := 6) (v := ?_) rfl rfl (by kernel_rfl) (by kernel_rfl) (by kernel_rfl) (fun _ _ _ h => h) (by rfl) ?_ (by assumption) ?_; rotate_left; (focus (intro w0 hSw; (try dsimp only at hSw); go_simp; (try with_reducible rfl))); (try simp only [Act.put, List.setIfInBounds_toArray, List.set_cons_zero, List.set_cons_succ]))
  refine wpAnyH_done (by kernel_rfl) (NoPanic.normal ?_) _
  clear hHeld
  have HBF := hide ((unhide P2).trans (B12.mono (unhide P2).size))
  have HRF : Hid (orV [cmpV (strN (glB S via L qx) 8).length (strN (glB S via L qy) 8).length, cmpV xw yw, cmpV (strN (rB S via qx) 8).length (strN (rB S via qy) 8).length, cmpV (qy : Int) (qx : Int)] = orV [cmpV (gnV S via L (qx : Int)) (gnV S via L (qy : Int)), cmpV xw yw, cmpV (dgV S via (qx : Int)) (dgV S via (qy : Int)), cmpV (qy : Int) (qx : Int)]) := hide rfl
  go_wp2_with fail
  go_ret
  exact ⟨ret_int (unhide HRF), unhide HBF⟩
end Gp
end Go.Proofs.Ytpknahhdapmcoao
