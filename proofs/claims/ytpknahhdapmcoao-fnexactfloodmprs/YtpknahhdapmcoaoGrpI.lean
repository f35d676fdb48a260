/-
  The program's contract: slices.MaxFunc over links, by worth.
-/
import Derived.Test.YtpknahhdapmcoaoGrpH
namespace Go.Proofs.Ytpknahhdapmcoao
open Go.ChangeShapes Go.WideShapes Go.ChangeAt Go.RowKit
set_option linter.unusedVariables false
set_option linter.unusedSimpArgs false
attribute [local go_sem ↓] Go.wp_at_zero Go.wp_at_succ
namespace Gp
open W1 Tu St Tw Mr
/-- A link in a block of its own, which may be written. -/
def BF (w : World) (b : Nat) (m : Lk.R) : Prop := (w.cell? ⟨b, 0, none⟩ = some (.int .i64 m.ad) ∧ w.cell? ⟨b, 1, none⟩ = some (.int .i64 m.hd) ∧ w.cell? ⟨b, 2, none⟩ = some (.int .i64 m.sy) ∧ w.cell? ⟨b, 3, none⟩ = some (.int .i64 m.ci) ∧ w.cell? ⟨b, 4, none⟩ = some (.int .i64 m.co) ∧ w.cell? ⟨b, 5, none⟩ = some (.int .i64 m.wl)) ∧ ∀ k, w.frozen? ⟨b, k, none⟩ = false
theorem BF.lt {w : World} {b : Nat} {m : Lk.R} (h : BF w b m) : b < w.heap.size := World.block_lt_of_cell? _ _ h.1.1
theorem BF.under {w w' : World} {B b : Nat} {m : Lk.R} (h : BF w b m) (hb : Below B w w') (hg : b < B) : BF w' b m := by
  obtain ⟨⟨h0, h1, h2, h3, h4, h5⟩, hf⟩ := h
  exact ⟨⟨(hb.cell (p := ⟨b, 0, none⟩) hg).trans h0, (hb.cell (p := ⟨b, 1, none⟩) hg).trans h1, (hb.cell (p := ⟨b, 2, none⟩) hg).trans h2, (hb.cell (p := ⟨b, 3, none⟩) hg).trans h3, (hb.cell (p := ⟨b, 4, none⟩) hg).trans h4, (hb.cell (p := ⟨b, 5, none⟩) hg).trans h5⟩, fun k => (hb.frozen (p := ⟨b, k, none⟩) hg).trans (hf k)⟩
theorem BF.below {w w' : World} {b : Nat} {m : Lk.R} (h : BF w b m) (hb : Below w.heap.size w w') : BF w' b m := h.under hb h.lt
theorem bf_new (w : World) (m : Lk.R) (t : Nat) : BF (w.alloc (.cells #[.int .i64 m.ad, .int .i64 m.hd, .int .i64 m.sy, .int .i64 m.ci, .int .i64 m.co, .int .i64 m.wl] t)) w.heap.size m := by
  have hb : (w.alloc (.cells #[.int .i64 m.ad, .int .i64 m.hd, .int .i64 m.sy, .int .i64 m.ci, .int .i64 m.co, .int .i64 m.wl] t)).heap[w.heap.size]? = some (.cells #[.int .i64 m.ad, .int .i64 m.hd, .int .i64 m.sy, .int .i64 m.ci, .int .i64 m.co, .int .i64 m.wl] t) := heap_alloc_last w _
  refine ⟨⟨?_, ?_, ?_, ?_, ?_, ?_⟩, fun k => ?_⟩
  · rw [World.cell?_alloc_new]; rfl
  · rw [World.cell?_alloc_new]; rfl
  · rw [World.cell?_alloc_new]; rfl
  · rw [World.cell?_alloc_new]; rfl
  · rw [World.cell?_alloc_new]; rfl
  · rw [World.cell?_alloc_new]; rfl
  · unfold World.frozen?
    simp only [hb]
    simp
theorem BF.put {w : World} {b : Nat} {m : Lk.R} (h : BF w b m) (x : Lk.R) : BF (Lk.put w b 0 x) b x := by
  obtain ⟨⟨h0, h1, h2, h3, h4, h5⟩, hf⟩ := h
  have ha : Lk.At (Lk.put w b 0 x) b 0 x := Lk.put_at w b 0 x (fun k hk => by
    rw [Nat.zero_add]
    match k, hk with
    | 0, _ => rw [h0]; rfl
    | 1, _ => rw [h1]; rfl
    | 2, _ => rw [h2]; rfl
    | 3, _ => rw [h3]; rfl
    | 4, _ => rw [h4]; rfl
    | 5, _ => rw [h5]; rfl
    | n + 6, h => omega)
  exact ⟨ha, fun k => by rw [Lk.put_frozen]; exact hf k⟩
theorem put_eq (W : World) (b : Nat) (x : Lk.R) : Lk.put W b 0 x = (((((W.setCell ⟨b, 0, none⟩ (.int .i64 x.ad)).setCell ⟨b, 1, none⟩ (.int .i64 x.hd)).setCell ⟨b, 2, none⟩ (.int .i64 x.sy)).setCell ⟨b, 3, none⟩ (.int .i64 x.ci)).setCell ⟨b, 4, none⟩ (.int .i64 x.co)).setCell ⟨b, 5, none⟩ (.int .i64 x.wl) := by
  unfold Lk.put; simp only [Nat.zero_add]
theorem BF.put6 {W : World} {b : Nat} {m : Lk.R} (h : BF W b m) (x : Lk.R) : BF ((((((W.setCell ⟨b, 0, none⟩ (.int .i64 x.ad)).setCell ⟨b, 1, none⟩ (.int .i64 x.hd)).setCell ⟨b, 2, none⟩ (.int .i64 x.sy)).setCell ⟨b, 3, none⟩ (.int .i64 x.ci)).setCell ⟨b, 4, none⟩ (.int .i64 x.co)).setCell ⟨b, 5, none⟩ (.int .i64 x.wl)) b x := by rw [← put_eq]; exact h.put x
theorem below6 {B : Nat} {w0 W : World} {b : Nat} {x : Lk.R} (h : Below B w0 W) (hg : B ≤ b) : Below B w0 ((((((W.setCell ⟨b, 0, none⟩ (.int .i64 x.ad)).setCell ⟨b, 1, none⟩ (.int .i64 x.hd)).setCell ⟨b, 2, none⟩ (.int .i64 x.sy)).setCell ⟨b, 3, none⟩ (.int .i64 x.ci)).setCell ⟨b, 4, none⟩ (.int .i64 x.co)).setCell ⟨b, 5, none⟩ (.int .i64 x.wl)) := by rw [← put_eq]; exact Lk.put_below h hg
theorem size6 (W : World) (b : Nat) (x : Lk.R) : ((((((W.setCell ⟨b, 0, none⟩ (.int .i64 x.ad)).setCell ⟨b, 1, none⟩ (.int .i64 x.hd)).setCell ⟨b, 2, none⟩ (.int .i64 x.sy)).setCell ⟨b, 3, none⟩ (.int .i64 x.ci)).setCell ⟨b, 4, none⟩ (.int .i64 x.co)).setCell ⟨b, 5, none⟩ (.int .i64 x.wl)).heap.size = W.heap.size := by rw [← put_eq]; exact Lk.put_size _ _ _ _
theorem max_step {f : Lk.R → Lk.R → Int} {ls : List Lk.R} {j : Nat} : maxV f ls (j + 1) = if 0 < f (ls.getD (j + 1) Lk.R.zero) (maxV f ls j) then ls.getD (j + 1) Lk.R.zero else maxV f ls j := rfl
theorem max_mem {f : Lk.R → Lk.R → Int} {ls : List Lk.R} : ∀ j, ∃ b, b ≤ j ∧ maxV f ls j = ls.getD b Lk.R.zero
  | 0 => ⟨0, Nat.le_refl _, rfl⟩
  | j + 1 => by
    rw [max_step]
    split
    · exact ⟨j + 1, Nat.le_refl _, rfl⟩
    · obtain ⟨b, h1, h2⟩ := max_mem j; exact ⟨b, by omega, h2⟩
theorem infoLk : Try.prog.underlying 54 = some (Try.prog.underlying 54).get! ∧ ((Try.prog.underlying 54).get!).isRow = true ∧ (Try.prog.info? 54).map (·.size) = some 6 := ⟨by kernel_rfl, by kernel_rfl, by kernel_rfl⟩
theorem BF.range {w : World} {b : Nat} {m : Lk.R} (h : BF w b m) : w.rangeAt b 0 m.cells := fun j v hv => Lk.at_cells (m := m) (o := 0) h.1 j v hv
theorem resultsL {fn : Func} {p : Tmp} (h : fn.results = #[.cell p 54]) (tmps : Array Value) (w : World) {b : Nat} {m : Lk.R} (hp : tmps.getD p undef = .pointer (some ⟨b, 0, none⟩)) (hg : BF w b m) : (results fn tmps).run Try.prog w = .ok m.value w := by
  have hp' : tmps[p]?.getD undef = .pointer (some ⟨b, 0, none⟩) := by simpa using hp
  have hv : m.value = .agg m.cells.toArray := rfl
  rw [hv]
  simp only [results, h]
  simp [Sem.run_bind, hp', asAddr, run_loadVar_mid w b 0 54 m.cells _ hg.range infoLk.1 infoLk.2.1 infoLk.2.2, Result.andThen]
set_option maxRecDepth 100000 in
set_option maxHeartbeats 8000000 in
theorem maxFunc (a : Option Addr) (ls : List Lk.R) (cap : Nat) (G lb : Nat) (s : Nat) (V : Nat → Nat) (S : List Int) (via : Int → List Int) (L : List Int) (w : World) (h0 : 0 < ls.length) (h8 : ls.length ≤ 8) (hrg : ∀ i, i < ls.length → 1 ≤ (ls.getD i Lk.R.zero).ad ∧ (ls.getD i Lk.R.zero).ad ≤ 8) (hr : Lk.RM w a ls) (hg : GA w G s V (rN S via)) (hl : w.cell? ⟨lb, 0, none⟩ = some (.int .u16 (gL L))) :
    Calls Try.prog 46 #[.slice a ls.length cap, .func (.func 42) #[] #[.pointer (some ⟨G, 0, none⟩), .pointer (some ⟨lb, 0, none⟩)]] w fun e w' => e = .returned (maxV (worth (gnV S via L) (dgV S via)) ls (ls.length - 1)).value ∧ Below w.heap.size w w' := by
  have HR := hide hr
  have HG := hide hg
  have HL := hide hl
  have hlb := World.block_lt_of_cell? _ _ hl
  have HRG := hide hrg
  have HBW := hide (fun (x y : Lk.R) (W : World) h1 h2 h3 h4 => byWorth G lb s V S via L x y W h1 h2 h3 h4)
  clear hr hg hl hrg
  obtain ⟨f, hf⟩ : ∃ f, worth (gnV S via L) (dgV S via) = f := ⟨_, rfl⟩
  rw [hf] at HBW ⊢
  clear hf
  generalize hN : ls.length = n at *
  have HN := hide hN
  clear hN
  obtain ⟨g, off, rfl⟩ := (unhide HR).form (by rw [unhide HN]; exact h0)
  have PA := hide ((Below.refl w.heap.size w).alloc (Nat.le_refl _) (.cells #[.int .i64 0, .int .i64 0, .int .i64 0, .int .i64 0, .int .i64 0, .int .i64 0] 54))
  have h00 : Lk.At (w.alloc (.cells #[.int .i64 0, .int .i64 0, .int .i64 0, .int .i64 0, .int .i64 0, .int .i64 0] 54)) g off (ls.getD 0 Lk.R.zero) := by
    have := ((unhide HR).below (unhide PA)).at (i := 0) (by rw [unhide HN]; exact h0)
    rw [Nat.zero_mul, Nat.add_zero] at this; exact this
  obtain ⟨c0, c1, c2, c3, c4, c5⟩ := h00
  have hn1 : ¬ (n : Int) < 1 := by omega
  have hn0 : (0 : Int) < (n : Int) := by omega
  have HM0 : Hid (ls.getD 0 Lk.R.zero = maxV f ls 0) := hide rfl
  have HF0 : Hid (BF (w.alloc (.cells #[.int .i64 0, .int .i64 0, .int .i64 0, .int .i64 0, .int .i64 0, .int .i64 0] 54)) w.heap.size Lk.R.zero) := hide (bf_new w Lk.R.zero 54)
  have hmb : w.heap.size + 1 = (w.alloc (.cells #[.int .i64 0, .int .i64 0, .int .i64 0, .int .i64 0, .int .i64 0, .int .i64 0] 54)).heap.size := by simp
  generalize ls.getD 0 Lk.R.zero = m at *
  have HB1 := hide (bf_new (w.alloc (.cells #[.int .i64 0, .int .i64 0, .int .i64 0, .int .i64 0, .int .i64 0, .int .i64 0] 54)) m 54)
  have PB := hide ((unhide PA).alloc (unhide PA).size (.cells #[.int .i64 m.ad, .int .i64 m.hd, .int .i64 m.sy, .int .i64 m.ci, .int .i64 m.co, .int .i64 m.wl] 54))
  have HF1 := hide ((unhide HF0).below ((Below.refl _ _).alloc (Nat.le_refl _) (.cells #[.int .i64 m.ad, .int .i64 m.hd, .int .i64 m.sy, .int .i64 m.ci, .int .i64 m.co, .int .i64 m.wl] 54)))
  rw [← hmb] at HB1
  clear hmb
  go_enter Try.func46, Try.ntmps46
  go_wp2_with fail
  clear c0 c1 c2 c3 c4 c5 PA HF0
  generalize hw1 : (w.alloc (.cells #[.int .i64 0, .int .i64 0, .int .i64 0, .int .i64 0, .int .i64 0, .int .i64 0] 54)).alloc (.cells #[.int .i64 m.ad, .int .i64 m.hd, .int .i64 m.sy, .int .i64 m.ci, .int .i64 m.co, .int .i64 m.wl] 54) = w1 at *
  clear hw1
  obtain ⟨mb, hmb⟩ : ∃ mb, w.heap.size + 1 = mb := ⟨_, rfl⟩
  rw [hmb] at HB1 ⊢
  have hmw : w.heap.size < mb := by omega
  clear hmb
  rw [unhide HM0] at HB1
  clear HM0
  go_loopw [6] (fun i wr => ∃ t : Nat, 1 ≤ t ∧ t ≤ n ∧ i = .int .i64 (t : Int) ∧ Hid (BF wr mb (maxV f ls (t - 1))) ∧ Hid (Below mb w1 wr) ∧ Hid (mb < wr.heap.size)) (fun i _ => n - (intOf i).toNat)
  case atStart => exact ⟨1, Nat.le_refl _, by omega, rfl, HB1, hide (Below.refl _ _), hide (unhide HB1).lt⟩
  case round =>
    obtain ⟨t, ht1, htn, rfl, hbf, hbl, hms⟩ := hrel
    have HBW1 := hide ((unhide PB).trans ((unhide hbl).mono (Nat.le_of_lt hmw)))
    by_cases hlt : (t : Int) < (n : Int)
    · have k0 : (0 : Int) ≤ (t : Int) := by omega
      have hlen : t < ls.length := by rw [unhide HN]; omega
      have hmr := unhide HRG t (by omega)
      have hzr : 1 ≤ (maxV f ls (t - 1)).ad ∧ (maxV f ls (t - 1)).ad ≤ 8 := by
        obtain ⟨b, hb, e⟩ := max_mem (f := f) (ls := ls) (t - 1)
        rw [e]; exact unhide HRG b (by omega)
      have HST : Hid (maxV f ls (t + 1 - 1) = if 0 < f (ls.getD t Lk.R.zero) (maxV f ls (t - 1)) then ls.getD t Lk.R.zero else maxV f ls (t - 1)) := hide (by
        have := max_step (f := f) (ls := ls) (j := t - 1)
        rw [show t - 1 + 1 = t by omega] at this
        rw [show t + 1 - 1 = t by omega]; exact this)
      have HRr := hide ((unhide HR).below (unhide HBW1))
      have HAT : Hid (∀ W, Lk.RM W (some ⟨g, off, none⟩) ls → Lk.At W g (off + t * 6) (ls.getD t Lk.R.zero)) := hide (fun W h => h.at hlen)
      have HGr := hide ((unhide HG).below (unhide HBW1))
      have HLr : Hid (wr.cell? ⟨lb, 0, none⟩ = some (.int .u16 (gL L))) := hide (((unhide HBW1).cell (p := ⟨lb, 0, none⟩) hlb).trans (unhide HL))
      have hlr := World.block_lt_of_cell? _ _ (unhide HLr)
      generalize ls.getD t Lk.R.zero = m at *
      generalize maxV f ls (t - 1) = z at *
      have HS : Hid (∀ w', Below wr.heap.size wr w' → (fun w' => w'.cell? ⟨g, off + t * 6, none⟩ = some (.int .i64 m.ad) ∧ w'.cell? ⟨g, off + t * 6 + 1, none⟩ = some (.int .i64 m.hd) ∧ w'.cell? ⟨g, off + t * 6 + 2, none⟩ = some (.int .i64 m.sy) ∧ w'.cell? ⟨g, off + t * 6 + 3, none⟩ = some (.int .i64 m.ci) ∧ w'.cell? ⟨g, off + t * 6 + 4, none⟩ = some (.int .i64 m.co) ∧ w'.cell? ⟨g, off + t * 6 + 5, none⟩ = some (.int .i64 m.wl) ∧ w'.cell? ⟨mb, 0, none⟩ = some (.int .i64 z.ad) ∧ w'.cell? ⟨mb, 1, none⟩ = some (.int .i64 z.hd) ∧ w'.cell? ⟨mb, 2, none⟩ = some (.int .i64 z.sy) ∧ w'.cell? ⟨mb, 3, none⟩ = some (.int .i64 z.ci) ∧ w'.cell? ⟨mb, 4, none⟩ = some (.int .i64 z.co) ∧ w'.cell? ⟨mb, 5, none⟩ = some (.int .i64 z.wl)) w') := hide (fun w' hb => by
        obtain ⟨x0, x1, x2, x3, x4, x5⟩ := unhide HAT _ ((unhide HRr).below hb)
        obtain ⟨⟨y0, y1, y2, y3, y4, y5⟩, _⟩ := (unhide hbf).below hb
        exact ⟨x0, x1, x2, x3, x4, x5, y0, y1, y2, y3, y4, y5⟩)
      have hmv : m.value = .agg #[.int .i64 m.ad, .int .i64 m.hd, .int .i64 m.sy, .int .i64 m.ci, .int .i64 m.co, .int .i64 m.wl] := rfl
      have hzv : z.value = .agg #[.int .i64 z.ad, .int .i64 z.hd, .int .i64 z.sy, .int .i64 z.ci, .int .i64 z.co, .int .i64 z.wl] := rfl
      have HCW : Hid (∀ W, Below wr.heap.size wr W → Calls Try.prog 42 #[.agg #[.int .i64 m.ad, .int .i64 m.hd, .int .i64 m.sy, .int .i64 m.ci, .int .i64 m.co, .int .i64 m.wl], .agg #[.int .i64 z.ad, .int .i64 z.hd, .int .i64 z.sy, .int .i64 z.ci, .int .i64 z.co, .int .i64 z.wl], .pointer (some ⟨G, 0, none⟩), .pointer (some ⟨lb, 0, none⟩)] W fun e w' => e = .returned (.int .i64 (f m z)) ∧ Below W.heap.size W w') := hide (fun W hb => by
        have := unhide HBW m z W hmr hzr ((unhide HGr).below hb) ((hb.cell (p := ⟨lb, 0, none⟩) hlr).trans (unhide HLr))
        rw [hmv, hzv] at this; exact this)
      clear hmv hzv hmr hzr
      have B2 : Below wr.heap.size wr wr.drew := (Below.refl _ _).drew
      obtain ⟨fv, hfv⟩ : ∃ fv, f m z = fv := ⟨_, rfl⟩
      rw [hfv] at HST HCW
      clear hfv
      go_wp2_with fail
      refine wp_region_noPanic ?_
      refine wp_region_held_drew (S := fun w' => w'.cell? ⟨g, off + t * 6, none⟩ = some (.int .i64 m.ad) ∧ w'.cell? ⟨g, off + t * 6 + 1, none⟩ = some (.int .i64 m.hd) ∧ w'.cell? ⟨g, off + t * 6 + 2, none⟩ = some (.int .i64 m.sy) ∧ w'.cell? ⟨g, off + t * 6 + 3, none⟩ = some (.int .i64 m.ci) ∧ w'.cell? ⟨g, off + t * 6 + 4, none⟩ = some (.int .i64 m.co) ∧ w'.cell? ⟨g, off + t * 6 + 5, none⟩ = some (.int .i64 m.wl) ∧ w'.cell? ⟨mb, 0, none⟩ = some (.int .i64 z.ad) ∧ w'.cell? ⟨mb, 1, none⟩ = some (.int .i64 z.hd) ∧ w'.cell? ⟨mb, 2, none⟩ = some (.int .i64 z.sy) ∧ w'.cell? ⟨mb, 3, none⟩ = some (.int .i64 z.ci) ∧ w'.cell? ⟨mb, 4, none⟩ = some (.int .i64 z.co) ∧ w'.cell? ⟨mb, 5, none⟩ = some (.int .i64 z.wl)) (by kernel_rfl) (unhide HS _ B2) (fun hHeld => ?_)
      (refine Rg.tk (i := 0) (d := 20) (v := ?_) rfl rfl (by kernel_rfl) (by kernel_rfl) (by kernel_rfl) (fun _ _ _ h => h) (by rfl) ?_ (by assumption) ?_; rotate_left; (focus (intro w0 hSw; (try dsimp only at hSw); go_simp; (try with_reducible rfl))); (try simp only [Act.put, List.setIfInBounds_toArray, List.set_cons_zero, List.set_cons_succ]))
      (refine Rg.tk (i := 1) (d := 21) (v := ?_) rfl rfl (by kernel_rfl) (by kernel_rfl) (by kernel_rfl) (fun _ _ _ h => h) (by rfl) ?_ (by assumption) ?_; rotate_left; (focus (intro w0 hSw; (try dsimp only at hSw); go_simp; (try with_reducible rfl))); (try simp only [Act.put, List.setIfInBounds_toArray, List.set_cons_zero, List.set_cons_succ]))
      (refine Rg.tk (i := 2) (d := 22) (v := ?_) rfl rfl (by kernel_rfl) (by kernel_rfl) (by kernel_rfl) (fun _ _ _ h => h) (by rfl) ?_ (by assumption) ?_; rotate_left; (focus (intro w0 hSw; (try dsimp only at hSw); go_simp; (try with_reducible rfl))); (try simp only [Act.put, List.setIfInBounds_toArray, List.set_cons_zero, List.set_cons_succ]))
      (refine Rg.tk (i := 3) (d := 23) (v := ?_) rfl rfl (by kernel_rfl) (by kernel_rfl) (by kernel_rfl) (fun _ _ _ h => h) (by rfl) ?_ (by assumption) ?_; rotate_left; (focus (intro w0 hSw; (try dsimp only at hSw); go_simp; (try with_reducible rfl))); (try simp only [Act.put, List.setIfInBounds_toArray, List.set_cons_zero, List.set_cons_succ]))
      (refine Rg.tk (i := 4) (d := 24) (v := ?_) rfl rfl (by kernel_rfl) (by kernel_rfl) (by kernel_rfl) (fun _ _ _ h => h) (by rfl) ?_ (by assumption) ?_; rotate_left; (focus (intro w0 hSw; (try dsimp only at hSw); go_simp; (try with_reducible rfl))); (try simp only [Act.put, List.setIfInBounds_toArray, List.set_cons_zero, List.set_cons_succ]))
      (refine Rg.tk (i := 5) (d := 25) (v := ?_) rfl rfl (by kernel_rfl) (by kernel_rfl) (by kernel_rfl) (fun _ _ _ h => h) (by rfl) ?_ (by assumption) ?_; rotate_left; (focus (intro w0 hSw; (try dsimp only at hSw); go_simp; (try with_reducible rfl))); (try simp only [Act.put, List.setIfInBounds_toArray, List.set_cons_zero, List.set_cons_succ]))
      (refine wpAnyH_ready (rs := [6]) (by kernel_rfl) (by simp) ?_; refine AllReadyH.cons (o := _) rfl (fun K hK => ?_) AllReadyH.nil; go_simp)
      refine (unhide HCW _ B2).mono ?_
      rintro e w3 ⟨rfl, b3⟩
      have B3 := B2.trans (b3.mono B2.size)
      clear b3 hHeld
      refine hK.out _ _ (unhide HS _ B3) (fun hHeld => ?_)
      clear hK K
      (try simp only [Act.put, List.setIfInBounds_toArray, List.set_cons_zero, List.set_cons_succ])
      have HBF3 := hide ((unhide hbf).below B3)
      have HB3 := hide ((unhide hbl).trans (B3.mono (Nat.le_of_lt (unhide hms))))
      have HM3 := hide (Nat.lt_of_lt_of_le (unhide hms) B3.size)
      have HA3 := hide (unhide HAT _ ((unhide HRr).below B3))
      clear HS HCW HAT HRr HGr HLr hlr
      by_cases hpos : 0 < fv
      · rw [if_pos hpos] at HST
        (refine Rg.tk (i := 7) (d := 27) (v := ?_) rfl rfl (by kernel_rfl) (by kernel_rfl) (by kernel_rfl) (fun _ _ _ h => h) (by rfl) ?_ (by assumption) ?_; rotate_left; (focus (intro w0 hSw; (try dsimp only at hSw); go_simp; (try with_reducible rfl))); (try simp only [Act.put, List.setIfInBounds_toArray, List.set_cons_zero, List.set_cons_succ]))
        refine wpAnyH_done (by kernel_rfl) (NoPanic.normal ?_) _
        clear hHeld
        obtain ⟨x0, x1, x2, x3, x4, x5⟩ := unhide HA3
        obtain ⟨⟨y0, y1, y2, y3, y4, y5⟩, yf⟩ := unhide HBF3
        have f0 := yf 0
        have f1 := yf 1
        have f2 := yf 2
        have f3 := yf 3
        have f4 := yf 4
        have f5 := yf 5
        clear yf
        have HP := hide ((unhide HBF3).put6 m)
        have HPB := hide (below6 (x := m) (unhide HB3) (Nat.le_refl mb))
        have HPS := hide (show mb < _ from by rw [← size6 w3 mb m] at HM3; exact unhide HM3)
        go_wp2_with fail
        exact ⟨⟨t + 1, by omega, by omega, by go_num, by rw [unhide HST]; exact HP, HPB, HPS⟩, by simp [intOf]; omega⟩
      · rw [if_neg hpos] at HST
        rw [← unhide HST] at HBF3
        (refine Rg.tk (i := 7) (d := 27) (v := ?_) rfl rfl (by kernel_rfl) (by kernel_rfl) (by kernel_rfl) (fun _ _ _ h => h) (by rfl) ?_ (by assumption) ?_; rotate_left; (focus (intro w0 hSw; (try dsimp only at hSw); go_simp; (try with_reducible rfl))); (try simp only [Act.put, List.setIfInBounds_toArray, List.set_cons_zero, List.set_cons_succ]))
        refine wpAnyH_done (by kernel_rfl) (NoPanic.normal ?_) _
        clear hHeld
        go_wp2_with fail
        go_roundw
        case rel => exact ⟨t + 1, by omega, by omega, by go_num, HBF3, HB3, HM3⟩
        case measure => simp [intOf]; omega
    · obtain rfl : t = n := by omega
      have HF2 := hide ((unhide HF1).under (unhide hbl) hmw)
      obtain ⟨z, hz⟩ : ∃ z, maxV f ls (t - 1) = z := ⟨_, rfl⟩
      have HZ := hide hz
      rw [hz] at hbf
      clear hz
      obtain ⟨⟨x0, x1, x2, x3, x4, x5⟩, _⟩ := unhide hbf
      obtain ⟨⟨y0, y1, y2, y3, y4, y5⟩, yf⟩ := unhide HF2
      have f0 := yf 0
      have f1 := yf 1
      have f2 := yf 2
      have f3 := yf 3
      have f4 := yf 4
      have f5 := yf 5
      clear yf
      have HP := hide ((unhide HF2).put6 z)
      have HPB := hide (below6 (x := z) (unhide HBW1) (Nat.le_refl w.heap.size))
      go_wp2_with fail
      refine bodyPost_ret (resultsL rfl _ _ rfl (unhide HP)) rfl ⟨by rw [unhide HZ], unhide HPB⟩
end Gp
end Go.Proofs.Ytpknahhdapmcoao
