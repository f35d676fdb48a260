/-
  The program's contracts: which of two ways is the better, and the best of several (slices.MinFunc). The program's contract: RouteMprs. The model's choice of relays for routes: mathematics.
-/
import Derived.Test.YtpknahhdapmcoacMg7
import Derived.Test.YtpknahhdapmcoacMg4
namespace Go.Proofs.Ytpknahhdapmcoac
open Go.ChangeShapes Go.WideShapes Go.ChangeAt Go.RowKit
set_option linter.unusedVariables false
set_option linter.unusedSimpArgs false
attribute [local go_sem ↓] Go.wp_at_zero Go.wp_at_succ
namespace Wa
open W1 Tu St Tw Mr Gp
def cmpW (x y : Wy.R) : Int := orV [cmpV x.cs y.cs, cmpV y.wl x.wl, cmpV x.ad y.ad]
set_option maxRecDepth 100000 in
set_option maxHeartbeats 8000000 in
theorem compareWays (x y : Wy.R) (w : World) : Calls Try.prog 71 #[x.value, y.value] w fun e w' => e = .returned (.int .i64 (cmpW x y)) ∧ Below w.heap.size w w' := by
  have e0 : cmpW x y = orV [cmpV x.cs y.cs, cmpV y.wl x.wl, cmpV x.ad y.ad] := rfl
  rw [e0]
  clear e0
  obtain ⟨xa, xh, xs, xi, xo, xw, xc⟩ := x
  obtain ⟨ya, yh, ys, yi, yo, yw, yc⟩ := y
  dsimp only
  show Calls Try.prog 71 #[.agg #[.int .i64 xa, .int .i64 xh, .int .i64 xs, .int .i64 xi, .int .i64 xo, .int .i64 xw, .int .i64 xc], .agg #[.int .i64 ya, .int .i64 yh, .int .i64 ys, .int .i64 yi, .int .i64 yo, .int .i64 yw, .int .i64 yc]] w _
  have HBx := hide (bw_new w ⟨xa, xh, xs, xi, xo, xw, xc⟩)
  have HBy := hide (bw_new (w.alloc (.cells #[.int .i64 xa, .int .i64 xh, .int .i64 xs, .int .i64 xi, .int .i64 xo, .int .i64 xw, .int .i64 xc] 109)) ⟨ya, yh, ys, yi, yo, yw, yc⟩)
  have P1 := hide ((Below.refl w.heap.size w).alloc (Nat.le_refl _) (.cells #[.int .i64 xa, .int .i64 xh, .int .i64 xs, .int .i64 xi, .int .i64 xo, .int .i64 xw, .int .i64 xc] 109))
  have P2 := hide ((unhide P1).alloc (unhide P1).size (.cells #[.int .i64 ya, .int .i64 yh, .int .i64 ys, .int .i64 yi, .int .i64 yo, .int .i64 yw, .int .i64 yc] 109))
  go_enter Try.func71, Try.ntmps71
  go_wp2_with fail
  have HX2 := hide ((unhide HBx).below ((Below.refl _ _).alloc (Nat.le_refl _) (.cells #[.int .i64 ya, .int .i64 yh, .int .i64 ys, .int .i64 yi, .int .i64 yo, .int .i64 yw, .int .i64 yc] 109)))
  rw [World.size_alloc] at HBy
  generalize hw2 : (w.alloc (.cells #[.int .i64 xa, .int .i64 xh, .int .i64 xs, .int .i64 xi, .int .i64 xo, .int .i64 xw, .int .i64 xc] 109)).alloc (.cells #[.int .i64 ya, .int .i64 yh, .int .i64 ys, .int .i64 yi, .int .i64 yo, .int .i64 yw, .int .i64 yc] 109) = w2 at *
  clear hw2 P1 HBx
  have HS : Hid (∀ w', Below w2.heap.size w2 w' → w'.cell? ⟨w.heap.size, 0, none⟩ = some (.int .i64 xa) ∧ w'.cell? ⟨w.heap.size, 5, none⟩ = some (.int .i64 xw) ∧ w'.cell? ⟨w.heap.size, 6, none⟩ = some (.int .i64 xc) ∧ w'.cell? ⟨w.heap.size + 1, 0, none⟩ = some (.int .i64 ya) ∧ w'.cell? ⟨w.heap.size + 1, 5, none⟩ = some (.int .i64 yw) ∧ w'.cell? ⟨w.heap.size + 1, 6, none⟩ = some (.int .i64 yc)) := hide (fun w' hb => by
    obtain ⟨x0, x1, x2, x3, x4, x5, x6⟩ := (unhide HX2).below hb
    obtain ⟨y0, y1, y2, y3, y4, y5, y6⟩ := (unhide HBy).below hb
    exact ⟨x0, x5, x6, y0, y5, y6⟩)
  clear HX2 HBy
  have B2 : Below w2.heap.size w2 w2.drew := (Below.refl _ _).drew
  refine wp_region_noPanic ?_
  refine wp_region_held_drew (S := fun w' => w'.cell? ⟨w.heap.size, 0, none⟩ = some (.int .i64 xa) ∧ w'.cell? ⟨w.heap.size, 5, none⟩ = some (.int .i64 xw) ∧ w'.cell? ⟨w.heap.size, 6, none⟩ = some (.int .i64 xc) ∧ w'.cell? ⟨w.heap.size + 1, 0, none⟩ = some (.int .i64 ya) ∧ w'.cell? ⟨w.heap.size + 1, 5, none⟩ = some (.int .i64 yw) ∧ w'.cell? ⟨w.heap.size + 1, 6, none⟩ = some (.int .i64 yc)) (by kernel_rfl) (unhide HS _ B2) (fun hHeld => ?_)
  (refine Rg.tk (i := 0) (d := 5) (v := ?_) rfl rfl (by kernel_rfl) (by kernel_rfl) (by kernel_rfl) (fun _ _ _ h => h) (by rfl) ?_ (by assumption) ?_; rotate_left; (focus (intro w0 hSw; (try dsimp only at hSw); go_simp; (try with_reducible rfl))); (try simp only [Act.put, List.setIfInBounds_toArray, List.set_cons_zero, List.set_cons_succ]))
  (refine Rg.tk (i := 1) (d := 6) (v := ?_) rfl rfl (by kernel_rfl) (by kernel_rfl) (by kernel_rfl) (fun _ _ _ h => h) (by rfl) ?_ (by assumption) ?_; rotate_left; (focus (intro w0 hSw; (try dsimp only at hSw); go_simp; (try with_reducible rfl))); (try simp only [Act.put, List.setIfInBounds_toArray, List.set_cons_zero, List.set_cons_succ]))
  (refine Rg.tk (i := 2) (d := 7) (v := ?_) rfl rfl (by kernel_rfl) (by kernel_rfl) (by kernel_rfl) (fun _ _ _ h => h) (by rfl) ?_ (by assumption) ?_; rotate_left; (focus (intro w0 hSw; (try dsimp only at hSw); go_simp; (try with_reducible rfl))); (try simp only [Act.put, List.setIfInBounds_toArray, List.set_cons_zero, List.set_cons_succ]))
  (refine Rg.tk (i := 3) (d := 8) (v := ?_) rfl rfl (by kernel_rfl) (by kernel_rfl) (by kernel_rfl) (fun _ _ _ h => h) (by rfl) ?_ (by assumption) ?_; rotate_left; (focus (intro w0 hSw; (try dsimp only at hSw); go_simp; (try with_reducible rfl))); (try simp only [Act.put, List.setIfInBounds_toArray, List.set_cons_zero, List.set_cons_succ]))
  (refine Rg.tk (i := 5) (d := 10) (v := ?_) rfl rfl (by kernel_rfl) (by kernel_rfl) (by kernel_rfl) (fun _ _ _ h => h) (by rfl) ?_ (by assumption) ?_; rotate_left; (focus (intro w0 hSw; (try dsimp only at hSw); go_simp; (try with_reducible rfl))); (try simp only [Act.put, List.setIfInBounds_toArray, List.set_cons_zero, List.set_cons_succ]))
  (refine Rg.tk (i := 6) (d := 11) (v := ?_) rfl rfl (by kernel_rfl) (by kernel_rfl) (by kernel_rfl) (fun _ _ _ h => h) (by rfl) ?_ (by assumption) ?_; rotate_left; (focus (intro w0 hSw; (try dsimp only at hSw); go_simp; (try with_reducible rfl))); (try simp only [Act.put, List.setIfInBounds_toArray, List.set_cons_zero, List.set_cons_succ]))
  (refine Rg.tk (i := 7) (d := 12) (v := ?_) rfl rfl (by kernel_rfl) (by kernel_rfl) (by kernel_rfl) (fun _ _ _ h => h) (by rfl) ?_ (by assumption) ?_; rotate_left; (focus (intro w0 hSw; (try dsimp only at hSw); go_simp; (try with_reducible rfl))); (try simp only [Act.put, List.setIfInBounds_toArray, List.set_cons_zero, List.set_cons_succ]))
  (refine Rg.tk (i := 8) (d := 13) (v := ?_) rfl rfl (by kernel_rfl) (by kernel_rfl) (by kernel_rfl) (fun _ _ _ h => h) (by rfl) ?_ (by assumption) ?_; rotate_left; (focus (intro w0 hSw; (try dsimp only at hSw); go_simp; (try with_reducible rfl))); (try simp only [Act.put, List.setIfInBounds_toArray, List.set_cons_zero, List.set_cons_succ]))
  (refine Rg.tk (i := 9) (d := 14) (v := ?_) rfl rfl (by kernel_rfl) (by kernel_rfl) (by kernel_rfl) (fun _ _ _ h => h) (by rfl) ?_ (by assumption) ?_; rotate_left; (focus (intro w0 hSw; (try dsimp only at hSw); go_simp; (try with_reducible rfl))); (try simp only [Act.put, List.setIfInBounds_toArray, List.set_cons_zero, List.set_cons_succ]))
  (refine Rg.tk (i := 10) (d := 15) (v := ?_) rfl rfl (by kernel_rfl) (by kernel_rfl) (by kernel_rfl) (fun _ _ _ h => h) (by rfl) ?_ (by assumption) ?_; rotate_left; (focus (intro w0 hSw; (try dsimp only at hSw); go_simp; (try with_reducible rfl))); (try simp only [Act.put, List.setIfInBounds_toArray, List.set_cons_zero, List.set_cons_succ]))
  (refine Rg.tk (i := 12) (d := 17) (v := ?_) rfl rfl (by kernel_rfl) (by kernel_rfl) (by kernel_rfl) (fun _ _ _ h => h) (by rfl) ?_ (by assumption) ?_; rotate_left; (focus (intro w0 hSw; (try dsimp only at hSw); go_simp; (try with_reducible rfl))); (try simp only [Act.put, List.setIfInBounds_toArray, List.set_cons_zero, List.set_cons_succ]))
  (refine Rg.tk (i := 13) (d := 18) (v := ?_) rfl rfl (by kernel_rfl) (by kernel_rfl) (by kernel_rfl) (fun _ _ _ h => h) (by rfl) ?_ (by assumption) ?_; rotate_left; (focus (intro w0 hSw; (try dsimp only at hSw); go_simp; (try with_reducible rfl))); (try simp only [Act.put, List.setIfInBounds_toArray, List.set_cons_zero, List.set_cons_succ]))
  (refine Rg.tk (i := 14) (d := 19) (v := ?_) rfl rfl (by kernel_rfl) (by kernel_rfl) (by kernel_rfl) (fun _ _ _ h => h) (by rfl) ?_ (by assumption) ?_; rotate_left; (focus (intro w0 hSw; (try dsimp only at hSw); go_simp; (try with_reducible rfl))); (try simp only [Act.put, List.setIfInBounds_toArray, List.set_cons_zero, List.set_cons_succ]))
  (refine Rg.tk (i := 15) (d := 20) (v := ?_) rfl rfl (by kernel_rfl) (by kernel_rfl) (by kernel_rfl) (fun _ _ _ h => h) (by rfl) ?_ (by assumption) ?_; rotate_left; (focus (intro w0 hSw; (try dsimp only at hSw); go_simp; (try with_reducible rfl))); (try simp only [Act.put, List.setIfInBounds_toArray, List.set_cons_zero, List.set_cons_succ]))
  (refine Rg.tk (i := 16) (d := 21) (v := ?_) rfl rfl (by kernel_rfl) (by kernel_rfl) (by kernel_rfl) (fun _ _ _ h => h) (by rfl) ?_ (by assumption) ?_; rotate_left; (focus (intro w0 hSw; (try dsimp only at hSw); go_simp; (try with_reducible rfl))); (try simp only [Act.put, List.setIfInBounds_toArray, List.set_cons_zero, List.set_cons_succ]))
  (refine Rg.tk (i := 17) (d := 22) (v := ?_) rfl rfl (by kernel_rfl) (by kernel_rfl) (by kernel_rfl) (fun _ _ _ h => h) (by rfl) ?_ (by assumption) ?_; rotate_left; (focus (intro w0 hSw; (try dsimp only at hSw); go_simp; (try with_reducible rfl))); (try simp only [Act.put, List.setIfInBounds_toArray, List.set_cons_zero, List.set_cons_succ]))
  (refine wpAnyH_ready (rs := [4]) (by kernel_rfl) (by simp) ?_; refine AllReadyH.cons (o := _) rfl (fun K hK => ?_) AllReadyH.nil; go_simp)
  refine (compare _ _ _).mono ?_
  rintro e v3 ⟨rfl, hv3⟩
  have B3 : Below w2.heap.size w2 v3 := by rw [hv3]; exact B2
  clear hv3 hHeld
  refine hK.out _ _ (unhide HS _ B3) (fun hHeld => ?_)
  clear hK K
  (try simp only [Act.put, List.setIfInBounds_toArray, List.set_cons_zero, List.set_cons_succ])
  (refine wpAnyH_ready (rs := [11]) (by kernel_rfl) (by simp) ?_; refine AllReadyH.cons (o := _) rfl (fun K hK => ?_) AllReadyH.nil; go_simp)
  refine (compare _ _ _).mono ?_
  rintro e v4 ⟨rfl, hv4⟩
  have B4 : Below w2.heap.size w2 v4 := by rw [hv4]; exact B3
  clear hv4 hHeld
  refine hK.out _ _ (unhide HS _ B4) (fun hHeld => ?_)
  clear hK K
  (try simp only [Act.put, List.setIfInBounds_toArray, List.set_cons_zero, List.set_cons_succ])
  (refine wpAnyH_ready (rs := [18]) (by kernel_rfl) (by simp) ?_; refine AllReadyH.cons (o := _) rfl (fun K hK => ?_) AllReadyH.nil; go_simp)
  refine (compare _ _ _).mono ?_
  rintro e v5 ⟨rfl, hv5⟩
  have B5 : Below w2.heap.size w2 v5 := by rw [hv5]; exact B4
  clear hv5 hHeld
  refine hK.out _ _ (unhide HS _ B5) (fun hHeld => ?_)
  clear hK K
  (try simp only [Act.put, List.setIfInBounds_toArray, List.set_cons_zero, List.set_cons_succ])
  (refine wpAnyH_ready (rs := [19]) (by kernel_rfl) (by simp) ?_; refine AllReadyH.cons (o := _) rfl (fun K hK => ?_) AllReadyH.nil; go_simp)
  have B6 := B5.alloc B5.size (.cells #[.int .i64 (cmpV xc yc), .int .i64 (cmpV yw xw), .int .i64 (cmpV xa ya)] 3)
  have HRN := hide (rm_new3 v5 (cmpV xc yc) (cmpV yw xw) (cmpV xa ya))
  clear hHeld
  refine hK.out _ _ (unhide HS _ B6) (fun hHeld => ?_)
  clear hK K
  (try simp only [Act.put, List.setIfInBounds_toArray, List.set_cons_zero, List.set_cons_succ])
  (refine wpAnyH_ready (rs := [20]) (by kernel_rfl) (by simp) ?_; refine AllReadyH.cons (o := _) rfl (fun K hK => ?_) AllReadyH.nil; go_simp)
  refine (cmpOr _ [_, _, _] _ _ (by simp) (unhide HRN)).mono ?_
  rintro e v7 ⟨rfl, hv7⟩
  have B7 : Below w2.heap.size w2 v7 := by rw [hv7]; exact B6
  clear hv7 hHeld
  refine hK.out _ _ (unhide HS _ B7) (fun hHeld => ?_)
  clear hK K
  (try simp only [Act.put, List.setIfInBounds_toArray, List.set_cons_zero, List.set_cons_succ])
  (refine Rg.tk (i := 21) (d := 4) (v := ?_) rfl rfl (by kernel_rfl) (by kernel_rfl) (by kernel_rfl) (fun _ _ _ h => h) (by rfl) ?_ (by assumption) ?_; rotate_left; (focus (intro w0 hSw; (try dsimp only at hSw); go_simp; (try with_reducible rfl))); (try simp only [Act.put, List.setIfInBounds_toArray, List.set_cons_zero, List.set_cons_succ]))
  refine wpAnyH_done (by kernel_rfl) (NoPanic.normal ?_) _
  clear hHeld
  have HBF := hide ((unhide P2).trans (B7.mono (unhide P2).size))
  go_wp2_with fail
  go_ret
  exact ⟨rfl, unhide HBF⟩
/-- The first that none behind it is below. -/
def minV (f : Wy.R → Wy.R → Int) (ls : List Wy.R) : Nat → Wy.R
  | 0 => ls.getD 0 Wy.R.zero
  | i + 1 => if f (ls.getD (i + 1) Wy.R.zero) (minV f ls i) < 0 then ls.getD (i + 1) Wy.R.zero else minV f ls i
/-- A way in a block of its own, which may be written. -/
def BV (w : World) (b : Nat) (m : Wy.R) : Prop := (w.cell? ⟨b, 0, none⟩ = some (.int .i64 m.ad) ∧ w.cell? ⟨b, 1, none⟩ = some (.int .i64 m.hd) ∧ w.cell? ⟨b, 2, none⟩ = some (.int .i64 m.sy) ∧ w.cell? ⟨b, 3, none⟩ = some (.int .i64 m.ci) ∧ w.cell? ⟨b, 4, none⟩ = some (.int .i64 m.co) ∧ w.cell? ⟨b, 5, none⟩ = some (.int .i64 m.wl) ∧ w.cell? ⟨b, 6, none⟩ = some (.int .i64 m.cs)) ∧ ∀ k, w.frozen? ⟨b, k, none⟩ = false
theorem BV.lt {w : World} {b : Nat} {m : Wy.R} (h : BV w b m) : b < w.heap.size := World.block_lt_of_cell? _ _ h.1.1
theorem BV.under {w w' : World} {B b : Nat} {m : Wy.R} (h : BV w b m) (hb : Below B w w') (hg : b < B) : BV w' b m := by
  obtain ⟨⟨h0, h1, h2, h3, h4, h5, h6⟩, hf⟩ := h
  exact ⟨⟨(hb.cell (p := ⟨b, 0, none⟩) hg).trans h0, (hb.cell (p := ⟨b, 1, none⟩) hg).trans h1, (hb.cell (p := ⟨b, 2, none⟩) hg).trans h2, (hb.cell (p := ⟨b, 3, none⟩) hg).trans h3, (hb.cell (p := ⟨b, 4, none⟩) hg).trans h4, (hb.cell (p := ⟨b, 5, none⟩) hg).trans h5, (hb.cell (p := ⟨b, 6, none⟩) hg).trans h6⟩, fun k => (hb.frozen (p := ⟨b, k, none⟩) hg).trans (hf k)⟩
theorem BV.below {w w' : World} {b : Nat} {m : Wy.R} (h : BV w b m) (hb : Below w.heap.size w w') : BV w' b m := h.under hb h.lt
theorem bv_new (w : World) (m : Wy.R) (t : Nat) : BV (w.alloc (.cells #[.int .i64 m.ad, .int .i64 m.hd, .int .i64 m.sy, .int .i64 m.ci, .int .i64 m.co, .int .i64 m.wl, .int .i64 m.cs] t)) w.heap.size m := by
  have hb : (w.alloc (.cells #[.int .i64 m.ad, .int .i64 m.hd, .int .i64 m.sy, .int .i64 m.ci, .int .i64 m.co, .int .i64 m.wl, .int .i64 m.cs] t)).heap[w.heap.size]? = some (.cells #[.int .i64 m.ad, .int .i64 m.hd, .int .i64 m.sy, .int .i64 m.ci, .int .i64 m.co, .int .i64 m.wl, .int .i64 m.cs] t) := heap_alloc_last w _
  refine ⟨⟨?_, ?_, ?_, ?_, ?_, ?_, ?_⟩, fun k => ?_⟩
  · rw [World.cell?_alloc_new]; rfl
  · rw [World.cell?_alloc_new]; rfl
  · rw [World.cell?_alloc_new]; rfl
  · rw [World.cell?_alloc_new]; rfl
  · rw [World.cell?_alloc_new]; rfl
  · rw [World.cell?_alloc_new]; rfl
  · rw [World.cell?_alloc_new]; rfl
  · unfold World.frozen?
    simp only [hb]
    simp
theorem BV.put {w : World} {b : Nat} {m : Wy.R} (h : BV w b m) (x : Wy.R) : BV (Wy.put w b 0 x) b x := by
  obtain ⟨⟨h0, h1, h2, h3, h4, h5, h6⟩, hf⟩ := h
  have ha : Wy.At (Wy.put w b 0 x) b 0 x := Wy.put_at w b 0 x (fun k hk => by
    rw [Nat.zero_add]
    match k, hk with
    | 0, _ => rw [h0]; rfl
    | 1, _ => rw [h1]; rfl
    | 2, _ => rw [h2]; rfl
    | 3, _ => rw [h3]; rfl
    | 4, _ => rw [h4]; rfl
    | 5, _ => rw [h5]; rfl
    | 6, _ => rw [h6]; rfl
    | n + 7, h => omega)
  exact ⟨ha, fun k => by rw [Wy.put_frozen]; exact hf k⟩
theorem put_eq (W : World) (b : Nat) (x : Wy.R) : Wy.put W b 0 x = ((((((W.setCell ⟨b, 0, none⟩ (.int .i64 x.ad)).setCell ⟨b, 1, none⟩ (.int .i64 x.hd)).setCell ⟨b, 2, none⟩ (.int .i64 x.sy)).setCell ⟨b, 3, none⟩ (.int .i64 x.ci)).setCell ⟨b, 4, none⟩ (.int .i64 x.co)).setCell ⟨b, 5, none⟩ (.int .i64 x.wl)).setCell ⟨b, 6, none⟩ (.int .i64 x.cs) := by
  unfold Wy.put; simp only [Nat.zero_add]
theorem BV.put6 {W : World} {b : Nat} {m : Wy.R} (h : BV W b m) (x : Wy.R) : BV (((((((W.setCell ⟨b, 0, none⟩ (.int .i64 x.ad)).setCell ⟨b, 1, none⟩ (.int .i64 x.hd)).setCell ⟨b, 2, none⟩ (.int .i64 x.sy)).setCell ⟨b, 3, none⟩ (.int .i64 x.ci)).setCell ⟨b, 4, none⟩ (.int .i64 x.co)).setCell ⟨b, 5, none⟩ (.int .i64 x.wl)).setCell ⟨b, 6, none⟩ (.int .i64 x.cs)) b x := by rw [← put_eq]; exact h.put x
theorem below6 {B : Nat} {w0 W : World} {b : Nat} {x : Wy.R} (h : Below B w0 W) (hg : B ≤ b) : Below B w0 (((((((W.setCell ⟨b, 0, none⟩ (.int .i64 x.ad)).setCell ⟨b, 1, none⟩ (.int .i64 x.hd)).setCell ⟨b, 2, none⟩ (.int .i64 x.sy)).setCell ⟨b, 3, none⟩ (.int .i64 x.ci)).setCell ⟨b, 4, none⟩ (.int .i64 x.co)).setCell ⟨b, 5, none⟩ (.int .i64 x.wl)).setCell ⟨b, 6, none⟩ (.int .i64 x.cs)) := by rw [← put_eq]; exact Wy.put_below h hg
theorem size6 (W : World) (b : Nat) (x : Wy.R) : (((((((W.setCell ⟨b, 0, none⟩ (.int .i64 x.ad)).setCell ⟨b, 1, none⟩ (.int .i64 x.hd)).setCell ⟨b, 2, none⟩ (.int .i64 x.sy)).setCell ⟨b, 3, none⟩ (.int .i64 x.ci)).setCell ⟨b, 4, none⟩ (.int .i64 x.co)).setCell ⟨b, 5, none⟩ (.int .i64 x.wl)).setCell ⟨b, 6, none⟩ (.int .i64 x.cs)).heap.size = W.heap.size := by rw [← put_eq]; exact Wy.put_size _ _ _ _
theorem min_step {f : Wy.R → Wy.R → Int} {ls : List Wy.R} {j : Nat} : minV f ls (j + 1) = if f (ls.getD (j + 1) Wy.R.zero) (minV f ls j) < 0 then ls.getD (j + 1) Wy.R.zero else minV f ls j := rfl
theorem min_mem {f : Wy.R → Wy.R → Int} {ls : List Wy.R} : ∀ j, ∃ b, b ≤ j ∧ minV f ls j = ls.getD b Wy.R.zero
  | 0 => ⟨0, Nat.le_refl _, rfl⟩
  | j + 1 => by
    rw [min_step]
    split
    · exact ⟨j + 1, Nat.le_refl _, rfl⟩
    · obtain ⟨b, h1, h2⟩ := min_mem j; exact ⟨b, by omega, h2⟩
theorem infoWy : Try.prog.underlying 109 = some (Try.prog.underlying 109).get! ∧ ((Try.prog.underlying 109).get!).isRow = true ∧ (Try.prog.info? 109).map (·.size) = some 7 := ⟨by kernel_rfl, by kernel_rfl, by kernel_rfl⟩
theorem BV.range {w : World} {b : Nat} {m : Wy.R} (h : BV w b m) : w.rangeAt b 0 m.cells := fun j v hv => Wy.at_cells (m := m) (o := 0) h.1 j v hv
theorem resultsW {fn : Func} {p : Tmp} (h : fn.results = #[.cell p 109]) (tmps : Array Value) (w : World) {b : Nat} {m : Wy.R} (hp : tmps.getD p undef = .pointer (some ⟨b, 0, none⟩)) (hg : BV w b m) : (results fn tmps).run Try.prog w = .ok m.value w := by
  have hp' : tmps[p]?.getD undef = .pointer (some ⟨b, 0, none⟩) := by simpa using hp
  have hv : m.value = .agg m.cells.toArray := rfl
  rw [hv]
  simp only [results, h]
  simp [Sem.run_bind, hp', asAddr, run_loadVar_mid w b 0 109 m.cells _ hg.range infoWy.1 infoWy.2.1 infoWy.2.2, Result.andThen]
set_option maxRecDepth 100000 in
set_option maxHeartbeats 8000000 in
theorem minFunc (a : Option Addr) (ls : List Wy.R) (cap : Nat) (w : World) (h0 : 0 < ls.length) (h8 : ls.length ≤ 8) (hr : Wy.RM w a ls) :
    Calls Try.prog 70 #[.slice a ls.length cap, .func (.func 71) #[] #[]] w fun e w' => e = .returned (minV cmpW ls (ls.length - 1)).value ∧ Below w.heap.size w w' := by
  have HR := hide hr
  have HBW := hide (fun (x y : Wy.R) (W : World) => compareWays x y W)
  clear hr
  obtain ⟨f, hf⟩ : ∃ f, cmpW = f := ⟨_, rfl⟩
  rw [hf] at HBW ⊢
  clear hf
  generalize hN : ls.length = n at *
  have HN := hide hN
  clear hN
  obtain ⟨g, off, rfl⟩ := (unhide HR).form (by rw [unhide HN]; exact h0)
  have PA := hide ((Below.refl w.heap.size w).alloc (Nat.le_refl _) (.cells #[.int .i64 0, .int .i64 0, .int .i64 0, .int .i64 0, .int .i64 0, .int .i64 0, .int .i64 0] 109))
  have h00 : Wy.At (w.alloc (.cells #[.int .i64 0, .int .i64 0, .int .i64 0, .int .i64 0, .int .i64 0, .int .i64 0, .int .i64 0] 109)) g off (ls.getD 0 Wy.R.zero) := by
    have := ((unhide HR).below (unhide PA)).at (i := 0) (by rw [unhide HN]; exact h0)
    rw [Nat.zero_mul, Nat.add_zero] at this; exact this
  obtain ⟨c0, c1, c2, c3, c4, c5, c6⟩ := h00
  have hn1 : ¬ (n : Int) < 1 := by omega
  have hn0 : (0 : Int) < (n : Int) := by omega
  have HM0 : Hid (ls.getD 0 Wy.R.zero = minV f ls 0) := hide rfl
  have HF0 : Hid (BV (w.alloc (.cells #[.int .i64 0, .int .i64 0, .int .i64 0, .int .i64 0, .int .i64 0, .int .i64 0, .int .i64 0] 109)) w.heap.size Wy.R.zero) := hide (bv_new w Wy.R.zero 109)
  have hmb : w.heap.size + 1 = (w.alloc (.cells #[.int .i64 0, .int .i64 0, .int .i64 0, .int .i64 0, .int .i64 0, .int .i64 0, .int .i64 0] 109)).heap.size := by simp
  generalize ls.getD 0 Wy.R.zero = m at *
  have HB1 := hide (bv_new (w.alloc (.cells #[.int .i64 0, .int .i64 0, .int .i64 0, .int .i64 0, .int .i64 0, .int .i64 0, .int .i64 0] 109)) m 109)
  have PB := hide ((unhide PA).alloc (unhide PA).size (.cells #[.int .i64 m.ad, .int .i64 m.hd, .int .i64 m.sy, .int .i64 m.ci, .int .i64 m.co, .int .i64 m.wl, .int .i64 m.cs] 109))
  have HF1 := hide ((unhide HF0).below ((Below.refl _ _).alloc (Nat.le_refl _) (.cells #[.int .i64 m.ad, .int .i64 m.hd, .int .i64 m.sy, .int .i64 m.ci, .int .i64 m.co, .int .i64 m.wl, .int .i64 m.cs] 109)))
  rw [← hmb] at HB1
  clear hmb
  go_enter Try.func70, Try.ntmps70
  go_wp2_with fail
  clear c0 c1 c2 c3 c4 c5 c6 PA HF0
  generalize hw1 : (w.alloc (.cells #[.int .i64 0, .int .i64 0, .int .i64 0, .int .i64 0, .int .i64 0, .int .i64 0, .int .i64 0] 109)).alloc (.cells #[.int .i64 m.ad, .int .i64 m.hd, .int .i64 m.sy, .int .i64 m.ci, .int .i64 m.co, .int .i64 m.wl, .int .i64 m.cs] 109) = w1 at *
  clear hw1
  obtain ⟨mb, hmb⟩ : ∃ mb, w.heap.size + 1 = mb := ⟨_, rfl⟩
  rw [hmb] at HB1 ⊢
  have hmw : w.heap.size < mb := by omega
  clear hmb
  rw [unhide HM0] at HB1
  clear HM0
  go_loopw [6] (fun i wr => ∃ t : Nat, 1 ≤ t ∧ t ≤ n ∧ i = .int .i64 (t : Int) ∧ Hid (BV wr mb (minV f ls (t - 1))) ∧ Hid (Below mb w1 wr) ∧ Hid (mb < wr.heap.size)) (fun i _ => n - (intOf i).toNat)
  case atStart => exact ⟨1, Nat.le_refl _, by omega, rfl, HB1, hide (Below.refl _ _), hide (unhide HB1).lt⟩
  case round =>
    obtain ⟨t, ht1, htn, rfl, hbf, hbl, hms⟩ := hrel
    have HBW1 := hide ((unhide PB).trans ((unhide hbl).mono (Nat.le_of_lt hmw)))
    by_cases hlt : (t : Int) < (n : Int)
    · have k0 : (0 : Int) ≤ (t : Int) := by omega
      have hlen : t < ls.length := by rw [unhide HN]; omega
      have HST : Hid (minV f ls (t + 1 - 1) = if f (ls.getD t Wy.R.zero) (minV f ls (t - 1)) < 0 then ls.getD t Wy.R.zero else minV f ls (t - 1)) := hide (by
        have := min_step (f := f) (ls := ls) (j := t - 1)
        rw [show t - 1 + 1 = t by omega] at this
        rw [show t + 1 - 1 = t by omega]; exact this)
      have HRr := hide ((unhide HR).below (unhide HBW1))
      have HAT : Hid (∀ W, Wy.RM W (some ⟨g, off, none⟩) ls → Wy.At W g (off + t * 7) (ls.getD t Wy.R.zero)) := hide (fun W h => h.at hlen)
      generalize ls.getD t Wy.R.zero = m at *
      generalize minV f ls (t - 1) = z at *
      have HS : Hid (∀ w', Below wr.heap.size wr w' → (fun w' => w'.cell? ⟨g, off + t * 7, none⟩ = some (.int .i64 m.ad) ∧ w'.cell? ⟨g, off + t * 7 + 1, none⟩ = some (.int .i64 m.hd) ∧ w'.cell? ⟨g, off + t * 7 + 2, none⟩ = some (.int .i64 m.sy) ∧ w'.cell? ⟨g, off + t * 7 + 3, none⟩ = some (.int .i64 m.ci) ∧ w'.cell? ⟨g, off + t * 7 + 4, none⟩ = some (.int .i64 m.co) ∧ w'.cell? ⟨g, off + t * 7 + 5, none⟩ = some (.int .i64 m.wl) ∧ w'.cell? ⟨g, off + t * 7 + 6, none⟩ = some (.int .i64 m.cs) ∧ w'.cell? ⟨mb, 0, none⟩ = some (.int .i64 z.ad) ∧ w'.cell? ⟨mb, 1, none⟩ = some (.int .i64 z.hd) ∧ w'.cell? ⟨mb, 2, none⟩ = some (.int .i64 z.sy) ∧ w'.cell? ⟨mb, 3, none⟩ = some (.int .i64 z.ci) ∧ w'.cell? ⟨mb, 4, none⟩ = some (.int .i64 z.co) ∧ w'.cell? ⟨mb, 5, none⟩ = some (.int .i64 z.wl) ∧ w'.cell? ⟨mb, 6, none⟩ = some (.int .i64 z.cs)) w') := hide (fun w' hb => by
        obtain ⟨x0, x1, x2, x3, x4, x5, x6⟩ := unhide HAT _ ((unhide HRr).below hb)
        obtain ⟨⟨y0, y1, y2, y3, y4, y5, y6⟩, _⟩ := (unhide hbf).below hb
        exact ⟨x0, x1, x2, x3, x4, x5, x6, y0, y1, y2, y3, y4, y5, y6⟩)
      have hmv : m.value = .agg #[.int .i64 m.ad, .int .i64 m.hd, .int .i64 m.sy, .int .i64 m.ci, .int .i64 m.co, .int .i64 m.wl, .int .i64 m.cs] := rfl
      have hzv : z.value = .agg #[.int .i64 z.ad, .int .i64 z.hd, .int .i64 z.sy, .int .i64 z.ci, .int .i64 z.co, .int .i64 z.wl, .int .i64 z.cs] := rfl
      have HCW : Hid (∀ W, Below wr.heap.size wr W → Calls Try.prog 71 #[.agg #[.int .i64 m.ad, .int .i64 m.hd, .int .i64 m.sy, .int .i64 m.ci, .int .i64 m.co, .int .i64 m.wl, .int .i64 m.cs], .agg #[.int .i64 z.ad, .int .i64 z.hd, .int .i64 z.sy, .int .i64 z.ci, .int .i64 z.co, .int .i64 z.wl, .int .i64 z.cs]] W fun e w' => e = .returned (.int .i64 (f m z)) ∧ Below W.heap.size W w') := hide (fun W hb => by
        have := unhide HBW m z W
        rw [hmv, hzv] at this; exact this)
      clear hmv hzv
      have B2 : Below wr.heap.size wr wr.drew := (Below.refl _ _).drew
      obtain ⟨fv, hfv⟩ : ∃ fv, f m z = fv := ⟨_, rfl⟩
      rw [hfv] at HST HCW
      clear hfv
      go_wp2_with fail
      refine wp_region_noPanic ?_
      refine wp_region_held_drew (S := fun w' => w'.cell? ⟨g, off + t * 7, none⟩ = some (.int .i64 m.ad) ∧ w'.cell? ⟨g, off + t * 7 + 1, none⟩ = some (.int .i64 m.hd) ∧ w'.cell? ⟨g, off + t * 7 + 2, none⟩ = some (.int .i64 m.sy) ∧ w'.cell? ⟨g, off + t * 7 + 3, none⟩ = some (.int .i64 m.ci) ∧ w'.cell? ⟨g, off + t * 7 + 4, none⟩ = some (.int .i64 m.co) ∧ w'.cell? ⟨g, off + t * 7 + 5, none⟩ = some (.int .i64 m.wl) ∧ w'.cell? ⟨g, off + t * 7 + 6, none⟩ = some (.int .i64 m.cs) ∧ w'.cell? ⟨mb, 0, none⟩ = some (.int .i64 z.ad) ∧ w'.cell? ⟨mb, 1, none⟩ = some (.int .i64 z.hd) ∧ w'.cell? ⟨mb, 2, none⟩ = some (.int .i64 z.sy) ∧ w'.cell? ⟨mb, 3, none⟩ = some (.int .i64 z.ci) ∧ w'.cell? ⟨mb, 4, none⟩ = some (.int .i64 z.co) ∧ w'.cell? ⟨mb, 5, none⟩ = some (.int .i64 z.wl) ∧ w'.cell? ⟨mb, 6, none⟩ = some (.int .i64 z.cs)) (by kernel_rfl) (unhide HS _ B2) (fun hHeld => ?_)
      (refine Rg.tk (i := 0) (d := 20) (v := ?_) rfl rfl (by kernel_rfl) (by kernel_rfl) (by kernel_rfl) (fun _ _ _ h => h) (by rfl) ?_ (by assumption) ?_; rotate_left; (focus (intro w0 hSw; (try dsimp only at hSw); go_simp; (try with_reducible rfl))); (try simp only [Act.put, List.setIfInBounds_toArray, List.set_cons_zero, List.set_cons_succ]))
      (refine Rg.tk (i := 1) (d := 21) (v := ?_) rfl rfl (by kernel_rfl) (by kernel_rfl) (by kernel_rfl) (fun _ _ _ h => h) (by rfl) ?_ (by assumption) ?_; rotate_left; (focus (intro w0 hSw; (try dsimp only at hSw); go_simp; (try with_reducible rfl))); (try simp only [Act.put, List.setIfInBounds_toArray, List.set_cons_zero, List.set_cons_succ]))
      (refine Rg.tk (i := 2) (d := 22) (v := ?_) rfl rfl (by kernel_rfl) (by kernel_rfl) (by kernel_rfl) (fun _ _ _ h => h) (by rfl) ?_ (by assumption) ?_; rotate_left; (focus (intro w0 hSw; (try dsimp only at hSw); go_simp; (try with_reducible rfl))); (try simp only [Act.put, List.setIfInBounds_toArray, List.set_cons_zero, List.set_cons_succ]))
      (refine Rg.tk (i := 3) (d := 23) (v := ?_) rfl rfl (by kernel_rfl) (by kernel_rfl) (by kernel_rfl) (fun _ _ _ h => h) (by rfl) ?_ (by assumption) ?_; rotate_left; (focus (intro w0 hSw; (try dsimp only at hSw); go_simp; (try with_reducible rfl))); (try simp only [Act.put, List.setIfInBounds_toArray, List.set_cons_zero, List.set_cons_succ]))
      (refine Rg.tk (i := 4) (d := 24) (v := ?_) rfl rfl (by kernel_rfl) (by kernel_rfl) (by kernel_rfl) (fun _ _ _ h => h) (by rfl) ?_ (by assumption) ?_; rotate_left; (focus (intro w0 hSw; (try dsimp only at hSw); go_simp; (try with_reducible rfl))); (try simp only [Act.put, List.setIfInBounds_toArray, List.set_cons_zero, List.set_cons_succ]))
      (refine Rg.tk (i := 5) (d := 25) (v := ?_) rfl rfl (by kernel_rfl) (by kernel_rfl) (by kernel_rfl) (fun _ _ _ h => h) (by rfl) ?_ (by assumption) ?_; rotate_left; (focus (intro w0 hSw; (try dsimp only at hSw); go_simp; (try with_reducible rfl))); (try simp only [Act.put, List.setIfInBounds_toArray, List.set_cons_zero, List.set_cons_succ]))
      (refine wpAnyH_ready (rs := [6]) (by kernel_rfl) (by simp) ?_; refine AllReadyH.cons (o := _) rfl (fun K hK => ?_) AllReadyH.nil; go_simp)
      refine (unhide HCW _ B2).mono ?_
      rintro e w3 ⟨rfl, b3⟩
      have B3 := B2.trans (b3.mono B2.size)
      clear b3 hHeld
      refine hK.out _ _ (unhide HS _ B3) (fun hHeld => ?_)
      clear hK K
      (try simp only [Act.put, List.setIfInBounds_toArray, List.set_cons_zero, List.set_cons_succ])
      have HBV3 := hide ((unhide hbf).below B3)
      have HB3 := hide ((unhide hbl).trans (B3.mono (Nat.le_of_lt (unhide hms))))
      have HM3 := hide (Nat.lt_of_lt_of_le (unhide hms) B3.size)
      have HA3 := hide (unhide HAT _ ((unhide HRr).below B3))
      clear HS HCW HAT HRr
      by_cases hpos : fv < 0
      · rw [if_pos hpos] at HST
        (refine Rg.tk (i := 7) (d := 27) (v := ?_) rfl rfl (by kernel_rfl) (by kernel_rfl) (by kernel_rfl) (fun _ _ _ h => h) (by rfl) ?_ (by assumption) ?_; rotate_left; (focus (intro w0 hSw; (try dsimp only at hSw); go_simp; (try with_reducible rfl))); (try simp only [Act.put, List.setIfInBounds_toArray, List.set_cons_zero, List.set_cons_succ]))
        refine wpAnyH_done (by kernel_rfl) (NoPanic.normal ?_) _
        clear hHeld
        obtain ⟨x0, x1, x2, x3, x4, x5, x6⟩ := unhide HA3
        obtain ⟨⟨y0, y1, y2, y3, y4, y5, y6⟩, yf⟩ := unhide HBV3
        have f0 := yf 0
        have f1 := yf 1
        have f2 := yf 2
        have f3 := yf 3
        have f4 := yf 4
        have f5 := yf 5
        have f6 := yf 6
        clear yf
        have HP := hide ((unhide HBV3).put6 m)
        have HPB := hide (below6 (x := m) (unhide HB3) (Nat.le_refl mb))
        have HPS := hide (show mb < _ from by rw [← size6 w3 mb m] at HM3; exact unhide HM3)
        go_wp2_with fail
        exact ⟨⟨t + 1, by omega, by omega, by go_num, by rw [unhide HST]; exact HP, HPB, HPS⟩, by simp [intOf]; omega⟩
      · rw [if_neg hpos] at HST
        rw [← unhide HST] at HBV3
        (refine Rg.tk (i := 7) (d := 27) (v := ?_) rfl rfl (by kernel_rfl) (by kernel_rfl) (by kernel_rfl) (fun _ _ _ h => h) (by rfl) ?_ (by assumption) ?_; rotate_left; (focus (intro w0 hSw; (try dsimp only at hSw); go_simp; (try with_reducible rfl))); (try simp only [Act.put, List.setIfInBounds_toArray, List.set_cons_zero, List.set_cons_succ]))
        refine wpAnyH_done (by kernel_rfl) (NoPanic.normal ?_) _
        clear hHeld
        go_wp2_with fail
        go_roundw
        case rel => exact ⟨t + 1, by omega, by omega, by go_num, HBV3, HB3, HM3⟩
        case measure => simp [intOf]; omega
    · obtain rfl : t = n := by omega
      have HF2 := hide ((unhide HF1).under (unhide hbl) hmw)
      obtain ⟨z, hz⟩ : ∃ z, minV f ls (t - 1) = z := ⟨_, rfl⟩
      have HZ := hide hz
      rw [hz] at hbf
      clear hz
      obtain ⟨⟨x0, x1, x2, x3, x4, x5, x6⟩, _⟩ := unhide hbf
      obtain ⟨⟨y0, y1, y2, y3, y4, y5, y6⟩, yf⟩ := unhide HF2
      have f0 := yf 0
      have f1 := yf 1
      have f2 := yf 2
      have f3 := yf 3
      have f4 := yf 4
      have f5 := yf 5
      have f6 := yf 6
      clear yf
      have HP := hide ((unhide HF2).put6 z)
      have HPB := hide (below6 (x := z) (unhide HBW1) (Nat.le_refl w.heap.size))
      go_wp2_with fail
      refine bodyPost_ret (resultsW rfl _ _ rfl (unhide HP)) rfl ⟨by rw [unhide HZ], unhide HPB⟩
end Wa
end Go.Proofs.Ytpknahhdapmcoac
namespace Go.Proofs.Ytpknahhdapmcoac
open Go.ChangeShapes Go.WideShapes Go.ChangeAt Go.RowKit
set_option linter.unusedVariables false
set_option linter.unusedSimpArgs false
attribute [local go_sem ↓] Go.wp_at_zero Go.wp_at_succ
namespace Wa
open W1 Tu St Tw Mr Mt Gp
/-- The relay for the way to an address, if there is one. -/
def rtB (own : Int) (x : Wy.R) : Bool := (own == 0) || decide (x.cs < own)
def rtW (own : Int) (ws : List Wy.R) : Option Int := if ws.length = 0 then none else if rtB own (minV cmpW ws (ws.length - 1)) = true then some (minV cmpW ws (ws.length - 1)).ad else none
def rtQ (f : Int → Int → Option R) (ls : List Lk.R) (me now addr : Int) : Option Int := if (addr == me) = true then none else rtW (ownV ls addr now) (wayV f ls addr now ls.length)
def rtL (f : Int → Int → Option R) (ls : List Lk.R) (me now : Int) (n : Nat) : List Int := (List.range n).filterMap (fun t : Nat => rtQ f ls me now ((t : Int) + 1))
theorem rt_some {f : Int → Int → Option R} {ls : List Lk.R} {me now : Int} {n : Nat} {a : Int} (h : rtQ f ls me now ((n : Int) + 1) = some a) : rtL f ls me now (n + 1) = rtL f ls me now n ++ [a] := by
  unfold rtL; rw [List.range_succ, List.filterMap_append]; simp [h]
theorem rt_none {f : Int → Int → Option R} {ls : List Lk.R} {me now : Int} {n : Nat} (h : rtQ f ls me now ((n : Int) + 1) = none) : rtL f ls me now (n + 1) = rtL f ls me now n := by
  unfold rtL; rw [List.range_succ, List.filterMap_append]; simp [h]
def routA (ms : List R) (ls : List Lk.R) (me now : Int) : List Int := if codeTL ms ls = 0 then strN (fun a => (rtL (findT ms) ls me now 8).contains a) 8 else []
set_option maxRecDepth 100000 in
set_option maxHeartbeats 8000000 in
theorem implRoute (a : Option Addr) (ms : List R) (cap : Nat) (b : Option Addr) (ls : List Lk.R) (capl : Nat) (me now : Int) (w : World) (hm : ms.length ≤ 1048576) (hl : ls.length ≤ 1048576) (hr : RM w a ms) (hr' : Lk.RM w b ls) :
    Calls Try.prog 24 #[.slice a ms.length cap, .slice b ls.length capl, .int .i64 me, .int .i64 now] w fun e w' => ∃ v, e = .returned (.tuple #[v, .int .i64 (codeTL ms ls)]) ∧ Below w.heap.size w w' ∧ In.LstV w' v (routA ms ls me now) w.heap.size w'.heap.size := by
  have HRC := hide (fun W h1 h2 => relaysCode a ms cap b ls capl none [] 0 W hm hl (by simp) h1 h2)
  rw [codeM_nil] at HRC
  have HR := hide hr
  have HL := hide hr'
  clear hr hr'
  by_cases hc : codeTL ms ls = 0
  rotate_left
  · have h1 : routA ms ls me now = [] := by unfold routA; rw [if_neg hc]
    rw [h1]
    clear h1
    generalize hcd : codeTL ms ls = cd at *
    clear hcd
    have q1 : (cd != 0) = true := by simpa using hc
    go_enter Try.func24, Try.ntmps24
    go_wp2_with fail
    refine (unhide HRC _ (unhide HR) (unhide HL)).mono ?_
    rintro e w1 ⟨rfl, b1⟩
    have HB1 := hide b1
    clear b1
    go_wp2_with fail
    go_ret2
    exact ⟨_, rfl, unhide HB1, In.lstV_nil _ _ _ _ _⟩
  have HOK := hide (codeTL_ok hc)
  have h8 := Ln.links_len (unhide HOK).2
  have h1 : routA ms ls me now = strN (fun a => (rtL (findT ms) ls me now 8).contains a) 8 := by unfold routA; rw [if_pos hc]
  rw [h1]
  rw [hc] at HRC ⊢
  clear hc h1
  have HVO := hide (fun addr => vals_ok (unhide HOK).1 addr)
  obtain ⟨f, hf⟩ : ∃ f, findT ms = f := ⟨_, rfl⟩
  have HF := hide hf
  rw [hf] at HVO ⊢
  clear hf
  obtain ⟨RL, hRL⟩ : ∃ RL, rtL f ls me now = RL := ⟨_, rfl⟩
  have HS := hide (fun (n : Nat) a (h : rtQ f ls me now ((n : Int) + 1) = some a) => rt_some h)
  have HN := hide (fun (n : Nat) (h : rtQ f ls me now ((n : Int) + 1) = none) => rt_none h)
  have HR0 : Hid (RL 0 = []) := hide (by rw [← hRL]; rfl)
  rw [hRL] at HS HN ⊢
  clear hRL
  obtain ⟨cf, hcf⟩ : ∃ cf, strN (fun a => (RL 8).contains a) 8 = cf := ⟨_, rfl⟩
  have HCF : Hid (strN (hasB (gL (RL 8))) 8 = cf) := hide (by
    rw [← hcf]
    refine str_same (fun z h1 h2 => ?_)
    rw [gL_has ⟨h1, h2⟩])
  rw [hcf]
  clear hcf
  go_enter Try.func24, Try.ntmps24
  go_wp2_with fail
  refine (unhide HRC _ (unhide HR) (unhide HL)).mono ?_
  rintro e w1 ⟨rfl, b1⟩
  have HB1 := hide b1
  have HR1 := hide ((unhide HR).below b1)
  have HL1 := hide ((unhide HL).below b1)
  clear b1
  go_wp2_with fail
  refine (tuplesByHop _ ms cap _ (unhide HOK).1 (unhide HR1)).mono ?_
  rintro e w2 ⟨bm, rfl, hbm, om2, b2'⟩
  rw [unhide HF] at om2
  have HB2 := hide ((unhide HB1).trans (b2'.mono (unhide HB1).size))
  have HM2 := hide om2
  have HL2 := hide ((unhide HL1).below b2')
  clear b2' om2
  go_wp2_with fail
  go_loopw [12, 13] (fun g i wr => ∃ j : Nat, j ≤ 8 ∧ i = .int .i64 ((j : Int) + 1) ∧ (∃ x : Int, g = .int .u16 x ∧ Hid (x = gL (RL j))) ∧ Hid (Below w2.heap.size w2 wr)) (fun _ i _ => 9 - (intOf i).toNat)
  case atStart => exact ⟨0, by omega, rfl, ⟨0, rfl, hide (by rw [unhide HR0]; rfl)⟩, hide (Below.refl _ _)⟩
  case round =>
    obtain ⟨j, hj, rfl, ⟨x, rfl, hx⟩, hbl⟩ := hrel
    by_cases hlt : (j : Int) + 1 ≤ 8
    · have HWK : Hid ((Lit.int .i64 ((j : Int) + 1)).wf = true) := hide (WalkArith.wf_i64 ⟨by omega, by omega⟩)
      have HMr := hide ((unhide HM2).below (unhide hbl))
      have HLr := hide ((unhide HL2).below (unhide hbl))
      have HSj := hide (unhide HS j)
      have HNj := hide (unhide HN j)
      have HQ : Hid (rtQ f ls me now ((j : Int) + 1) = if (((j : Int) + 1) == me) = true then none else rtW (ownV ls ((j : Int) + 1) now) (wayV f ls ((j : Int) + 1) now ls.length)) := hide rfl
      have hwl := way_len f ls ((j : Int) + 1) now ls.length
      go_wp2_with fail
      refine (waysTo bm ms.length f _ ls capl ((j : Int) + 1) now _ (unhide HWK) (unhide HOK).2 (unhide HVO _) (unhide HMr) (unhide HLr)).mono ?_
      rintro e w3 ⟨v3, rfl, b3, hl3⟩
      obtain ⟨a3, c3, rfl, l3⟩ := hl3
      have HB3 := hide ((unhide hbl).trans (b3.mono (unhide hbl).size))
      have HL3 := hide ((unhide HLr).below b3)
      have HW3 := hide l3.rm
      clear b3 l3
      obtain ⟨ws, hws⟩ : ∃ ws, wayV f ls ((j : Int) + 1) now ls.length = ws := ⟨_, rfl⟩
      rw [hws] at HQ hwl HW3 ⊢
      clear hws
      obtain ⟨ov, hov⟩ : ∃ ov, ownV ls ((j : Int) + 1) now = ov := ⟨_, rfl⟩
      have HOV := hide hov
      rw [hov] at HQ
      clear hov
      cases hme : (((j : Int) + 1) == me)
      rotate_left
      · have HE : Hid (x = gL (RL (j + 1))) := hide (by rw [unhide HNj (by rw [unhide HQ, hme]; rfl)]; exact unhide hx)
        clear HSj HNj HQ
        go_wp2_with fail
        go_roundw
        case rel => exact ⟨j + 1, by omega, by go_num, ⟨x, rfl, HE⟩, HB3⟩
        case measure => simp [intOf]; omega
      rw [hme, if_neg (by simp)] at HQ
      by_cases hw0 : ws.length = 0
      · have HE : Hid (x = gL (RL (j + 1))) := hide (by rw [unhide HNj (by rw [unhide HQ]; unfold rtW; rw [if_pos hw0])]; exact unhide hx)
        clear HSj HNj HQ
        rw [hw0]
        go_wp2_with fail
        go_roundw
        case rel => exact ⟨j + 1, by omega, by go_num, ⟨x, rfl, HE⟩, HB3⟩
        case measure => simp [intOf]; omega
      have HQ2 : Hid (rtQ f ls me now ((j : Int) + 1) = if rtB ov (minV cmpW ws (ws.length - 1)) = true then some (minV cmpW ws (ws.length - 1)).ad else none) := hide (by rw [unhide HQ]; unfold rtW; rw [if_neg hw0])
      have HMF := hide (fun W h => minFunc a3 ws c3 W (by omega) (by omega) h)
      generalize minV cmpW ws (ws.length - 1) = B at *
      obtain ⟨xa, xh, xs, xi, xo, xw, xc⟩ := B
      have hbv : Wy.R.value ⟨xa, xh, xs, xi, xo, xw, xc⟩ = .agg #[.int .i64 xa, .int .i64 xh, .int .i64 xs, .int .i64 xi, .int .i64 xo, .int .i64 xw, .int .i64 xc] := rfl
      rw [hbv] at HMF
      clear hbv HQ
      have hnw : ((ws.length : Int) == 0) = false := beq_eq_false_iff_ne.2 (by omega)
      generalize hNW : ws.length = nw at *
      clear hNW
      go_wp2_with fail
      refine (unhide HMF _ (unhide HW3)).mono ?_
      rintro e w4 ⟨rfl, b4⟩
      have HB4 := hide ((unhide HB3).trans (b4.mono (unhide HB3).size))
      have HL4 := hide ((unhide HL3).below b4)
      clear b4
      have HB5 := hide ((unhide HB4).alloc (unhide HB4).size (.cells #[.int .i64 xa, .int .i64 xh, .int .i64 xs, .int .i64 xi, .int .i64 xo, .int .i64 xw, .int .i64 xc] 109))
      have HL5 := hide ((unhide HL4).below ((Below.refl _ _).alloc (Nat.le_refl _) (.cells #[.int .i64 xa, .int .i64 xh, .int .i64 xs, .int .i64 xi, .int .i64 xo, .int .i64 xw, .int .i64 xc] 109)))
      have HX5 := hide (bw_new w4 ⟨xa, xh, xs, xi, xo, xw, xc⟩)
      go_wp2_with fail
      generalize hW5 : w4.alloc (.cells #[.int .i64 xa, .int .i64 xh, .int .i64 xs, .int .i64 xi, .int .i64 xo, .int .i64 xw, .int .i64 xc] 109) = w5 at *
      clear hW5
      refine (ownCost _ ls capl ((j : Int) + 1) now _ (by omega) (unhide HL5)).mono ?_
      rintro e w6 ⟨rfl, b6⟩
      rw [unhide HOV]
      have HB6 := hide ((unhide HB5).trans (b6.mono (unhide HB5).size))
      obtain ⟨d0, d1, d2, d3, d4, d5, d6⟩ := (unhide HX5).below b6
      clear b6
      dsimp only at d0 d1 d2 d3 d4 d5 d6
      have hRB : rtB ov ⟨xa, xh, xs, xi, xo, xw, xc⟩ = ((ov == 0) || decide (xc < ov)) := rfl
      rw [hRB] at HQ2
      clear hRB
      have HRN := hide (In.rm_new w6 xa)
      have HB7 := hide ((unhide HB6).alloc (unhide HB6).size (.cells #[.int .i64 xa] 3))
      have HGA := hide (gL_app (RL j) xa)
      cases h0 : (ov == 0)
      · by_cases hlt5 : xc < ov
        · have HE : Hid (bits .or .u16 x (gL [xa] : Int) = gL (RL (j + 1))) := hide (by rw [unhide HSj xa (by rw [unhide HQ2, h0, decide_eq_true hlt5]; rfl), unhide hx]; exact unhide HGA)
          clear HSj HNj HQ2 HGA
          go_wp2_with fail
          refine (groupOf _ [xa] _ _ (by simp) (unhide HRN)).mono ?_
          rintro e w8 ⟨rfl, hw8⟩
          rw [hw8]
          clear hw8
          go_wp2_with fail
          go_roundw
          case rel => exact ⟨j + 1, by omega, by go_num, ⟨_, rfl, HE⟩, HB7⟩
          case measure => simp [intOf]; omega
        · have HE : Hid (x = gL (RL (j + 1))) := hide (by rw [unhide HNj (by rw [unhide HQ2, h0, decide_eq_false hlt5]; rfl)]; exact unhide hx)
          have hd5 : decide (xc < ov) = false := decide_eq_false hlt5
          clear HSj HNj HQ2 HGA hw0 hnw hwl hlt5
          go_wp2_with fail
          go_roundw
          case rel => exact ⟨j + 1, by omega, by go_num, ⟨x, rfl, HE⟩, HB6⟩
          case measure => simp [intOf]; omega
      · have HE : Hid (bits .or .u16 x (gL [xa] : Int) = gL (RL (j + 1))) := hide (by rw [unhide HSj xa (by rw [unhide HQ2, h0]; rfl), unhide hx]; exact unhide HGA)
        clear HSj HNj HQ2 HGA
        go_wp2_with fail
        refine (groupOf _ [xa] _ _ (by simp) (unhide HRN)).mono ?_
        rintro e w8 ⟨rfl, hw8⟩
        rw [hw8]
        clear hw8
        go_wp2_with fail
        go_roundw
        case rel => exact ⟨j + 1, by omega, by go_num, ⟨_, rfl, HE⟩, HB7⟩
        case measure => simp [intOf]; omega
    · obtain rfl : j = 8 := by omega
      have hgl := gL_lt (RL 8)
      have hxx := unhide hx
      subst hxx
      go_wp2_with fail
      refine (addrs (gL (RL 8)) _ (by omega)).mono ?_
      rintro e w9 ⟨v9, rfl, b9, hl9⟩
      rw [unhide HCF] at hl9
      have HB9 := hide ((unhide HB2).trans (((unhide hbl).trans (b9.mono (unhide hbl).size)).mono (unhide HB2).size))
      have HV9 := hide (hl9.mono (lo' := w.heap.size) (Nat.le_trans (unhide HB2).size (unhide hbl).size) (Nat.le_refl _))
      clear b9 hl9
      go_wp2_with fail
      go_ret2
      exact ⟨_, rfl, unhide HB9, unhide HV9⟩
end Wa
end Go.Proofs.Ytpknahhdapmcoac
namespace Go.Proofs.Ytpknahhdapmcoac
set_option linter.unusedVariables false
set_option linter.unusedSimpArgs false
namespace Wa
open W1 Tu St Tw Mr Gp
/-- What the way by a link costs; whether it may be taken; whether it is better than the best so far. -/
def cW (f : Int → Int → Option R) (addr : Int) (m : Lk.R) : Int := m.ci + valT f addr m
def okW (f : Int → Int → Option R) (addr now st : Int) (m : Lk.R) : Bool := viaOk f addr now m && !(decide (0 ≤ st) && decide (st ≤ cW f addr m))
def btW (f : Int → Int → Option R) (addr : Int) (m x : Lk.R) : Bool := decide (cW f addr m < cW f addr x) || ((cW f addr m == cW f addr x) && decide (x.wl < m.wl))
def rsV (f : Int → Int → Option R) (ls : List Lk.R) (addr now st : Int) : Nat → Option Nat
  | 0 => none
  | j + 1 => if (okW f addr now st (ls.getD j Lk.R.zero) && (match rsV f ls addr now st j with | none => true | some b => btW f addr (ls.getD j Lk.R.zero) (ls.getD b Lk.R.zero))) = true then some j else rsV f ls addr now st j
theorem rs_skip {f : Int → Int → Option R} {ls : List Lk.R} {addr now st : Int} {j : Nat} (h : okW f addr now st (ls.getD j Lk.R.zero) = false) : rsV f ls addr now st (j + 1) = rsV f ls addr now st j := by
  rw [rsV, h]; rfl
theorem rs_first {f : Int → Int → Option R} {ls : List Lk.R} {addr now st : Int} {j : Nat} (h : okW f addr now st (ls.getD j Lk.R.zero) = true) (hn : rsV f ls addr now st j = none) : rsV f ls addr now st (j + 1) = some j := by
  rw [rsV, h, hn]; rfl
theorem rs_next {f : Int → Int → Option R} {ls : List Lk.R} {addr now st : Int} {j b : Nat} (h : okW f addr now st (ls.getD j Lk.R.zero) = true) (hn : rsV f ls addr now st j = some b) : rsV f ls addr now st (j + 1) = if btW f addr (ls.getD j Lk.R.zero) (ls.getD b Lk.R.zero) = true then some j else some b := by
  rw [rsV, h, hn]; rfl
theorem rs_lt {f : Int → Int → Option R} {ls : List Lk.R} {addr now st : Int} : ∀ {j b : Nat}, rsV f ls addr now st j = some b → b < j
  | 0, b, h => by cases h
  | j + 1, b, h => by
    cases ho : okW f addr now st (ls.getD j Lk.R.zero)
    · rw [rs_skip ho] at h; have := rs_lt h; omega
    · cases hn : rsV f ls addr now st j with
      | none => rw [rs_first ho hn] at h; cases h; omega
      | some c =>
        rw [rs_next ho hn] at h
        have := rs_lt hn
        split at h <;> cases h <;> omega
theorem bt_le {f : Int → Int → Option R} {addr : Int} {m x : Lk.R} (h : btW f addr m x = true) : cW f addr m ≤ cW f addr x := by
  unfold btW at h
  rw [Bool.or_eq_true, Bool.and_eq_true] at h
  rcases h with h | h
  · have := of_decide_eq_true h; omega
  · have := eq_of_beq h.1; omega
theorem bt_lt {f : Int → Int → Option R} {addr : Int} {m x : Lk.R} (h : cW f addr m < cW f addr x) : btW f addr m x = true := by
  unfold btW; rw [decide_eq_true h]; rfl
/-- The straight way bars those that cost no less. -/
def passW (f : Int → Int → Option R) (addr st : Int) (m : Lk.R) : Bool := !(decide (0 ≤ st) && decide (st ≤ cW f addr m))
theorem rs_bar {f : Int → Int → Option R} {ls : List Lk.R} {addr now st : Int} : ∀ j, rsV f ls addr now st j = match rsV f ls addr now (-1) j with | none => none | some b => if passW f addr st (ls.getD b Lk.R.zero) = true then some b else none
  | 0 => rfl
  | j + 1 => by
    have ih := rs_bar (f := f) (ls := ls) (addr := addr) (now := now) (st := st) j
    have h1 : okW f addr now (-1) (ls.getD j Lk.R.zero) = viaOk f addr now (ls.getD j Lk.R.zero) := by unfold okW; simp
    have h2 : okW f addr now st (ls.getD j Lk.R.zero) = (viaOk f addr now (ls.getD j Lk.R.zero) && passW f addr st (ls.getD j Lk.R.zero)) := rfl
    cases hv : viaOk f addr now (ls.getD j Lk.R.zero)
    · rw [rs_skip (by rw [h2, hv]; rfl), rs_skip (st := -1) (by rw [h1, hv])]; exact ih
    · rw [hv] at h1 h2
      rw [Bool.true_and] at h2
      cases hn : rsV f ls addr now (-1) j with
      | none =>
        rw [hn] at ih
        rw [rs_first h1 hn]
        cases hp : passW f addr st (ls.getD j Lk.R.zero)
        · rw [rs_skip (by rw [h2, hp]), ih]
          show none = if passW f addr st (ls.getD j Lk.R.zero) = true then some j else none
          rw [hp]; rfl
        · rw [rs_first (by rw [h2, hp]) ih]
          show some j = if passW f addr st (ls.getD j Lk.R.zero) = true then some j else none
          rw [hp]; rfl
      | some b =>
        rw [hn] at ih
        simp only at ih
        rw [rs_next h1 hn]
        cases hb : btW f addr (ls.getD j Lk.R.zero) (ls.getD b Lk.R.zero)
        · simp only [Bool.false_eq_true, if_false]
          cases hp : passW f addr st (ls.getD j Lk.R.zero)
          · rw [rs_skip (by rw [h2, hp]), ih]
          · cases hpb : passW f addr st (ls.getD b Lk.R.zero)
            · exfalso
              unfold passW at hp hpb
              have h3 : ¬ cW f addr (ls.getD j Lk.R.zero) < cW f addr (ls.getD b Lk.R.zero) := fun h => by rw [bt_lt h] at hb; cases hb
              rw [Bool.not_eq_true', Bool.and_eq_false_iff] at hp
              rw [Bool.not_eq_false', Bool.and_eq_true] at hpb
              have h5 := of_decide_eq_true hpb.1
              have h6 := of_decide_eq_true hpb.2
              rcases hp with h | h <;> (have := of_decide_eq_false h; omega)
            · rw [hpb] at ih
              simp only [if_true] at ih
              rw [rs_next (by rw [h2, hp]) ih, hb]; simp
        · simp only [if_true]
          cases hp : passW f addr st (ls.getD j Lk.R.zero)
          · rw [rs_skip (by rw [h2, hp]), ih]
            have h3 := bt_le hb
            have hpb : passW f addr st (ls.getD b Lk.R.zero) = false := by
              unfold passW at hp ⊢
              rw [Bool.not_eq_false', Bool.and_eq_true] at hp ⊢
              have h5 := of_decide_eq_true hp.1
              have h6 := of_decide_eq_true hp.2
              exact ⟨decide_eq_true h5, decide_eq_true (by omega)⟩
            rw [hpb]; simp
          · cases hpb : passW f addr st (ls.getD b Lk.R.zero)
            · rw [hpb] at ih
              simp only [Bool.false_eq_true, if_false] at ih
              rw [rs_first (by rw [h2, hp]) ih]; simp
            · rw [hpb] at ih
              simp only [if_true] at ih
              rw [rs_next (by rw [h2, hp]) ih, hb]; simp
theorem min_app {g : Wy.R → Wy.R → Int} {ws : List Wy.R} {x : Wy.R} : ∀ i, i < ws.length → minV g (ws ++ [x]) i = minV g ws i
  | 0, h => by
    show (ws ++ [x]).getD 0 Wy.R.zero = ws.getD 0 Wy.R.zero
    rw [List.getD_eq_getElem?_getD, List.getD_eq_getElem?_getD, List.getElem?_append_left h]
  | i + 1, h => by
    have e : (ws ++ [x]).getD (i + 1) Wy.R.zero = ws.getD (i + 1) Wy.R.zero := by rw [List.getD_eq_getElem?_getD, List.getD_eq_getElem?_getD, List.getElem?_append_left h]
    show (if g ((ws ++ [x]).getD (i + 1) Wy.R.zero) (minV g (ws ++ [x]) i) < 0 then _ else _) = _
    rw [e, min_app i (by omega)]; rfl
theorem min_last {g : Wy.R → Wy.R → Int} {ws : List Wy.R} {x : Wy.R} (h : 0 < ws.length) : minV g (ws ++ [x]) ws.length = if g x (minV g ws (ws.length - 1)) < 0 then x else minV g ws (ws.length - 1) := by
  obtain ⟨n, hn⟩ : ∃ n, ws.length = n + 1 := ⟨ws.length - 1, by omega⟩
  rw [hn]
  have e : (ws ++ [x]).getD (n + 1) Wy.R.zero = x := by
    rw [← hn, List.getD_eq_getElem?_getD, List.getElem?_append_right (Nat.le_refl _), Nat.sub_self]; rfl
  show (if g ((ws ++ [x]).getD (n + 1) Wy.R.zero) (minV g (ws ++ [x]) n) < 0 then (ws ++ [x]).getD (n + 1) Wy.R.zero else minV g (ws ++ [x]) n) = _
  rw [e, min_app n (by omega)]; rfl
theorem cmp_neg {x y : Int} : cmpV x y < 0 ↔ x < y := by
  unfold cmpV
  split
  · constructor <;> intro h <;> omega
  · split <;> constructor <;> intro h <;> omega
theorem cmpW_bt {f : Int → Int → Option R} {addr : Int} {m x : Lk.R} (h : x.ad < m.ad) : cmpW (wayR f addr m) (wayR f addr x) < 0 ↔ btW f addr m x = true := by
  unfold cmpW btW
  simp only [orV, cmp_zero]
  have e1 : (wayR f addr m).cs = cW f addr m := rfl
  have e2 : (wayR f addr x).cs = cW f addr x := rfl
  have e3 : (wayR f addr m).wl = m.wl := rfl
  have e4 : (wayR f addr x).wl = x.wl := rfl
  have e5 : (wayR f addr m).ad = m.ad := rfl
  have e6 : (wayR f addr x).ad = x.ad := rfl
  rw [e1, e2, e3, e4, e5, e6]
  by_cases h1 : cW f addr m = cW f addr x
  · rw [if_pos h1, h1]
    by_cases h2 : x.wl = m.wl
    · rw [if_pos h2, if_neg (by omega), cmp_neg, h2]; simp; omega
    · rw [if_neg h2, cmp_neg]; simp
  · rw [if_neg h1, cmp_neg]
    have : (cW f addr m == cW f addr x) = false := by simpa using h1
    rw [this]; simp
/-- The best of the ways is the best link. -/
theorem rs_min {f : Int → Int → Option R} {ls : List Lk.R} {addr now : Int} (hok : Ln.linksB ls = true) : ∀ j, j ≤ ls.length → (rsV f ls addr now (-1) j = none → (wayV f ls addr now j).length = 0) ∧ ∀ b, rsV f ls addr now (-1) j = some b → 0 < (wayV f ls addr now j).length ∧ minV cmpW (wayV f ls addr now j) ((wayV f ls addr now j).length - 1) = wayR f addr (ls.getD b Lk.R.zero)
  | 0, _ => ⟨fun _ => rfl, fun b h => by cases h⟩
  | j + 1, h => by
    obtain ⟨i1, i2⟩ := rs_min hok j (by omega)
    have h1 : okW f addr now (-1) (ls.getD j Lk.R.zero) = viaOk f addr now (ls.getD j Lk.R.zero) := by unfold okW; simp
    cases hv : viaOk f addr now (ls.getD j Lk.R.zero)
    · rw [rs_skip (by rw [h1, hv]), way_no (by omega) hv]; exact ⟨i1, i2⟩
    · rw [hv] at h1
      rw [way_yes (by omega) hv]
      have hl : (wayV f ls addr now j ++ [wayR f addr (ls.getD j Lk.R.zero)]).length - 1 = (wayV f ls addr now j).length := by rw [List.length_append, List.length_singleton]; omega
      cases hn : rsV f ls addr now (-1) j with
      | none =>
        rw [rs_first h1 hn]
        refine ⟨fun h => (by cases h), fun b hb => ?_⟩
        cases hb
        have h0 := i1 hn
        refine ⟨by simp, ?_⟩
        rw [hl, h0, List.eq_nil_of_length_eq_zero h0]; rfl
      | some c =>
        obtain ⟨i3, i4⟩ := i2 c hn
        have hc := rs_lt hn
        rw [rs_next h1 hn]
        refine ⟨fun h => (by split at h <;> cases h), fun b hb => ⟨by simp, ?_⟩⟩
        rw [hl, min_last i3, i4]
        have key := cmpW_bt (f := f) (addr := addr) (links_up hok j c hc (by omega))
        cases hbt : btW f addr (ls.getD j Lk.R.zero) (ls.getD c Lk.R.zero)
        · rw [hbt] at hb key
          simp at hb
          subst hb
          rw [if_neg (fun e => by have := key.1 e; cases this)]
        · rw [hbt] at hb key
          simp at hb
          subst hb
          rw [if_pos (key.2 rfl)]
/-- The model's relay for an address is the program's. -/
theorem rt_same {f : Int → Int → Option R} {ls : List Lk.R} {me now addr : Int} (hok : Ln.linksB ls = true) (hval : ∀ v, 0 ≤ ((f v addr).getD R.zero).val) (hne : (addr == me) = false) :
    rtQ f ls me now addr = (rsV f ls addr now (costV f ls addr now [] ls.length) ls.length).map (fun b => (ls.getD b Lk.R.zero).ad) := by
  have hc := cost_same (f := f) (ls := ls) (addr := addr) (now := now) (s := 0) (so := []) hok hval (fun m _ => by unfold hasB; simp)
  have hz : lstV 0 (ownV ls addr now) (wayV f ls addr now ls.length) = ownV ls addr now := by
    unfold lstV
    rw [lst_all]
    have : ((wayV f ls addr now ls.length).filter (fun x => hasB 0 x.ad)) = [] := filter_none (fun x _ => by unfold hasB; simp)
    rw [this]; rfl
  rw [hz] at hc
  obtain ⟨m1, m2⟩ := rs_min (f := f) (addr := addr) (now := now) hok ls.length (Nat.le_refl _)
  unfold rtQ rtW
  rw [hne, if_neg (by simp), rs_bar]
  cases hn : rsV f ls addr now (-1) ls.length with
  | none => rw [if_pos (m1 hn)]; rfl
  | some b =>
    obtain ⟨h1, h2⟩ := m2 b hn
    rw [if_neg (by omega), h2]
    have e : rtB (ownV ls addr now) (wayR f addr (ls.getD b Lk.R.zero)) = passW f addr (costV f ls addr now [] ls.length) (ls.getD b Lk.R.zero) := by
      unfold rtB passW
      have e1 : (wayR f addr (ls.getD b Lk.R.zero)).cs = cW f addr (ls.getD b Lk.R.zero) := rfl
      rw [e1]
      generalize cW f addr (ls.getD b Lk.R.zero) = c
      generalize costV f ls addr now [] ls.length = st at *
      generalize ownV ls addr now = ov at *
      rcases hc with ⟨h3, h4⟩ | ⟨h3, h4⟩
      · rw [h3, h4]; simp
      · subst h4
        have h5 : (st == 0) = false := by simp; omega
        rw [h5, decide_eq_true (show 0 ≤ st by omega)]
        by_cases h6 : c < st
        · rw [decide_eq_true h6, decide_eq_false (show ¬ st ≤ c by omega)]; rfl
        · rw [decide_eq_false h6, decide_eq_true (show st ≤ c by omega)]; rfl
    simp only
    rw [e]
    cases passW f addr (costV f ls addr now [] ls.length) (ls.getD b Lk.R.zero) <;> rfl
/-- The model's list. -/
def rsQ (f : Int → Int → Option R) (ls : List Lk.R) (me now addr : Int) : Option Int := if (addr == me) = true then none else (rsV f ls addr now (costV f ls addr now [] ls.length) ls.length).map (fun b => (ls.getD b Lk.R.zero).ad)
def addO (out : List Int) (o : Option Int) : List Int := match o with | none => out | some a => if out.contains a = true then out else out ++ [a]
def rsO (f : Int → Int → Option R) (ls : List Lk.R) (me now : Int) (n : Nat) : List Int := (List.range n).foldl (fun out (t : Nat) => addO out (rsQ f ls me now ((t : Int) + 1))) []
theorem rsO_succ (f : Int → Int → Option R) (ls : List Lk.R) (me now : Int) (n : Nat) : rsO f ls me now (n + 1) = addO (rsO f ls me now n) (rsQ f ls me now ((n : Int) + 1)) := by
  unfold rsO; rw [List.range_succ, List.foldl_append]; rfl
theorem rsO_len (f : Int → Int → Option R) (ls : List Lk.R) (me now : Int) : ∀ n, (rsO f ls me now n).length ≤ n
  | 0 => Nat.le_refl _
  | n + 1 => by
    have := rsO_len f ls me now n
    rw [rsO_succ]
    unfold addO
    split
    · omega
    · split
      · omega
      · rw [List.length_append, List.length_singleton]; omega
theorem add_mem {out : List Int} {o : Option Int} {a : Int} : a ∈ addO out o ↔ a ∈ out ∨ o = some a := by
  unfold addO
  cases o with
  | none => simp
  | some b =>
    simp only
    split
    · rename_i h
      rw [List.contains_iff_mem] at h
      constructor
      · exact fun h => .inl h
      · rintro (h2 | h2)
        · exact h2
        · cases h2; exact h
    · rw [List.mem_append, List.mem_singleton]
      constructor
      · rintro (h | rfl)
        · exact .inl h
        · exact .inr rfl
      · rintro (h | h)
        · exact .inl h
        · cases h; exact .inr rfl
theorem add_nodup {out : List Int} {o : Option Int} (h : out.Nodup) : (addO out o).Nodup := by
  unfold addO
  cases o with
  | none => exact h
  | some b =>
    simp only
    split
    · exact h
    · rename_i h2
      exact app_nodup h (fun hm => h2 (List.contains_iff_mem.2 hm))
theorem rout_same {f : Int → Int → Option R} {ls : List Lk.R} {me now : Int} (hok : Ln.linksB ls = true) (hval : ∀ addr v, 0 ≤ ((f v addr).getD R.zero).val) :
    sortV (rsO f ls me now 8) = strN (fun a => (rtL f ls me now 8).contains a) 8 := by
  have hq : ∀ addr, rsQ f ls me now addr = rtQ f ls me now addr := fun addr => by
    unfold rsQ
    cases hne : (addr == me)
    · rw [if_neg (by simp), rt_same hok (hval addr) hne]
    · unfold rtQ; rw [hne]; rfl
  have hall : ∀ n, (rsO f ls me now n).Nodup ∧ ∀ a, a ∈ rsO f ls me now n ↔ a ∈ rtL f ls me now n := by
    intro n
    induction n with
    | zero => exact ⟨List.nodup_nil, fun a => Iff.rfl⟩
    | succ n ih =>
      rw [rsO_succ]
      refine ⟨add_nodup ih.1, fun a => ?_⟩
      rw [add_mem, ih.2, hq]
      cases hr : rtQ f ls me now ((n : Int) + 1) with
      | none => rw [rt_none hr]; simp
      | some b => rw [rt_some hr, List.mem_append, List.mem_singleton]; simp [eq_comm]
  have hrg : ∀ a ∈ rsO f ls me now 8, 1 ≤ a ∧ a ≤ 8 := fun a ha => by
    rw [(hall 8).2] at ha
    unfold rtL at ha
    rw [List.mem_filterMap] at ha
    obtain ⟨t, _, ht⟩ := ha
    rw [← hq] at ht
    unfold rsQ at ht
    split at ht
    · cases ht
    · cases hr : rsV f ls ((t : Int) + 1) now (costV f ls ((t : Int) + 1) now [] ls.length) ls.length with
      | none => rw [hr] at ht; cases ht
      | some b =>
        rw [hr] at ht
        simp at ht
        have hb := rs_lt hr
        have := Ln.ok_ad (Ri.all_ok hok hb)
        rw [List.getD_eq_getElem?_getD] at this
        rw [ht] at this; exact this
  rw [sort_str (hall 8).1 hrg]
  refine str_congr 8 (fun z => ?_)
  rw [Bool.eq_iff_iff, List.contains_iff_mem, List.contains_iff_mem]
  exact (hall 8).2 z
end Wa
end Go.Proofs.Ytpknahhdapmcoac
