/-
  The least cost: the program's contract, and that the model's is the same.
-/
import Derived.Test.YtpknahhdapmcoaoWayA
import Derived.Test.YtpknahhdapmcoaoMprJ
namespace Go.Proofs.Ytpknahhdapmcoao
open Go.ChangeShapes Go.WideShapes Go.ChangeAt Go.RowKit
set_option linter.unusedVariables false
set_option linter.unusedSimpArgs false
attribute [local go_sem ↓] Go.wp_at_zero Go.wp_at_succ
namespace Wa
open W1 Tu St Tw Mr Mt Gp
def lstS (s : Nat) (l : Int) (x : Wy.R) : Int := if (hasB s x.ad && ((l == 0) || decide (x.cs < l))) = true then x.cs else l
def lstV (s : Nat) (own : Int) (ws : List Wy.R) : Int := ws.foldl (lstS s) own
theorem lst_step {s : Nat} {own : Int} {ws : List Wy.R} {j : Nat} (h : j < ws.length) : lstV s own (ws.take (j + 1)) = lstS s (lstV s own (ws.take j)) (ws.getD j Wy.R.zero) := by
  unfold lstV
  rw [List.take_add_one, List.getElem?_eq_getElem h, List.getD_eq_getElem?_getD, List.getElem?_eq_getElem h, List.foldl_append]; rfl
def BW (w : World) (b : Nat) (x : Wy.R) : Prop := w.cell? ⟨b, 0, none⟩ = some (.int .i64 x.ad) ∧ w.cell? ⟨b, 1, none⟩ = some (.int .i64 x.hd) ∧ w.cell? ⟨b, 2, none⟩ = some (.int .i64 x.sy) ∧ w.cell? ⟨b, 3, none⟩ = some (.int .i64 x.ci) ∧ w.cell? ⟨b, 4, none⟩ = some (.int .i64 x.co) ∧ w.cell? ⟨b, 5, none⟩ = some (.int .i64 x.wl) ∧ w.cell? ⟨b, 6, none⟩ = some (.int .i64 x.cs)
theorem BW.lt {w : World} {b : Nat} {m : Wy.R} (h : BW w b m) : b < w.heap.size := World.block_lt_of_cell? _ _ h.1
theorem BW.under {w w' : World} {B b : Nat} {m : Wy.R} (h : BW w b m) (hb : Below B w w') (hg : b < B) : BW w' b m := by
  obtain ⟨h0, h1, h2, h3, h4, h5, h6⟩ := h
  exact ⟨(hb.cell (p := ⟨b, 0, none⟩) hg).trans h0, (hb.cell (p := ⟨b, 1, none⟩) hg).trans h1, (hb.cell (p := ⟨b, 2, none⟩) hg).trans h2, (hb.cell (p := ⟨b, 3, none⟩) hg).trans h3, (hb.cell (p := ⟨b, 4, none⟩) hg).trans h4, (hb.cell (p := ⟨b, 5, none⟩) hg).trans h5, (hb.cell (p := ⟨b, 6, none⟩) hg).trans h6⟩
theorem BW.below {w w' : World} {b : Nat} {m : Wy.R} (h : BW w b m) (hb : Below w.heap.size w w') : BW w' b m := h.under hb h.lt
theorem bw_new (w : World) (x : Wy.R) : BW (w.alloc (.cells #[.int .i64 x.ad, .int .i64 x.hd, .int .i64 x.sy, .int .i64 x.ci, .int .i64 x.co, .int .i64 x.wl, .int .i64 x.cs] 86)) w.heap.size x := by
  refine ⟨?_, ?_, ?_, ?_, ?_, ?_, ?_⟩ <;> (rw [World.cell?_alloc_new]; rfl)
set_option maxRecDepth 100000 in
set_option maxHeartbeats 8000000 in
theorem leastCost (bm q : Nat) (f : Int → Int → Option R) (a : Option Addr) (ls : List Lk.R) (cap : Nat) (addr now : Int) (s : Nat) (w : World) (hs : s < 65536) (hwa : (Lit.int .i64 addr).wf = true) (hok : Ln.linksB ls = true) (hval : ∀ v, 0 ≤ ((f v addr).getD R.zero).val ∧ ((f v addr).getD R.zero).val ≤ 1073741824) (hom : OM w bm q f) (hr : Lk.RM w a ls) :
    Calls Try.prog 55 #[.map (some bm), .slice a ls.length cap, .int .i64 addr, .int .i64 now, .int .u16 s] w fun e w' => e = .returned (.int .i64 (lstV s (ownV ls addr now) (wayV f ls addr now ls.length))) ∧ Below w.heap.size w w' := by
  have HR := hide hr
  have HOM := hide hom
  have HWA := hide hwa
  have HOK := hide hok
  have HVA := hide hval
  have h8 := Ln.links_len hok
  have hwl := way_len f ls addr now ls.length
  clear hr hom hwa hok hval
  go_enter Try.func55, Try.ntmps55
  go_wp2_with fail
  refine (ownCost _ ls cap addr now _ (by omega) (unhide HR)).mono ?_
  rintro e w2 ⟨rfl, b2⟩
  have HB2 := hide b2
  have HR2 := hide ((unhide HR).below b2)
  have HM2 := hide ((unhide HOM).below b2)
  clear b2
  go_wp2_with fail
  refine (waysTo bm q f _ ls cap addr now _ (unhide HWA) (unhide HOK) (unhide HVA) (unhide HM2) (unhide HR2)).mono ?_
  rintro e w3 ⟨v3, rfl, b3, hl3⟩
  obtain ⟨a3, c3, rfl, l3⟩ := hl3
  have HB3 := hide ((unhide HB2).trans (b3.mono (unhide HB2).size))
  have HL3 := hide l3.rm
  clear b3 l3
  obtain ⟨ws, hws⟩ : ∃ ws, wayV f ls addr now ls.length = ws := ⟨_, rfl⟩
  have HWS := hide hws
  rw [hws] at HL3 hwl ⊢
  clear hws
  obtain ⟨ov, hov⟩ : ∃ ov, ownV ls addr now = ov := ⟨_, rfl⟩
  have HOV := hide hov
  rw [hov]
  clear hov
  generalize hN : ws.length = n at *
  have HN := hide hN
  clear hN
  go_wp2_with fail
  go_loopw [11, 24] (fun l i wr => ∃ j : Nat, j ≤ n ∧ i = .int .i64 j ∧ (∃ lv : Int, l = .int .i64 lv ∧ Hid (lstV s ov (ws.take j) = lv)) ∧ Hid (Below w3.heap.size w3 wr)) (fun _ i _ => n - (intOf i).toNat)
  case atStart => exact ⟨0, by omega, rfl, ⟨ov, rfl, hide rfl⟩, hide (Below.refl _ _)⟩
  case round =>
    obtain ⟨j, hj, rfl, ⟨lv, rfl, hlv⟩, hbl⟩ := hrel
    by_cases hlt : (j : Int) < (n : Int)
    · have k0 : (0 : Int) ≤ (j : Int) := by omega
      have hlen : j < ws.length := by rw [unhide HN]; omega
      obtain ⟨g, off, rfl⟩ := (unhide HL3).form (by omega)
      obtain ⟨c0, c1, c2, c3, c4, c5, c6⟩ := ((unhide HL3).below (unhide hbl)).at hlen
      have hbs := (unhide hbl).size
      have HST := hide (lst_step (s := s) (own := ov) hlen)
      rw [unhide hlv] at HST
      generalize ws.getD j Wy.R.zero = x at *
      have HSV : Hid (lstS s lv x = if (hasB s x.ad && ((lv == 0) || decide (x.cs < lv))) = true then x.cs else lv) := hide rfl
      have HBA := hide ((unhide hbl).alloc hbs (.cells #[.int .i64 x.ad, .int .i64 x.hd, .int .i64 x.sy, .int .i64 x.ci, .int .i64 x.co, .int .i64 x.wl, .int .i64 x.cs] 86))
      have HX := hide (bw_new wr x)
      obtain ⟨hb, hhb⟩ : ∃ hb, hasB s x.ad = hb := ⟨_, rfl⟩
      have HHB := hide hhb
      rw [hhb] at HSV
      clear hhb
      go_wp2_with fail
      generalize hW : wr.alloc (.cells #[.int .i64 x.ad, .int .i64 x.hd, .int .i64 x.sy, .int .i64 x.ci, .int .i64 x.co, .int .i64 x.wl, .int .i64 x.cs] 86) = W0 at *
      clear hW
      refine (has s x.ad _ hs).mono ?_
      rintro e w4 ⟨rfl, b4⟩
      rw [unhide HHB]
      have HB4 := hide ((unhide HBA).trans (b4.mono (unhide HBA).size))
      obtain ⟨d0, d1, d2, d3, d4, d5, d6⟩ := (unhide HX).below b4
      clear b4 c0 c1 c2 c3 c4 c5 c6
      cases hb
      · have HE : Hid (lstV s ov (ws.take (j + 1)) = lv) := hide (by rw [unhide HST, unhide HSV]; rfl)
        clear HST HSV
        go_wp2_with fail
        go_roundw
        case rel => exact ⟨j + 1, by omega, by go_num, ⟨lv, rfl, HE⟩, HB4⟩
        case measure => simp [intOf]; omega
      cases h0 : (lv == 0)
      · by_cases hc : x.cs < lv
        · have HE : Hid (lstV s ov (ws.take (j + 1)) = x.cs) := hide (by rw [unhide HST, unhide HSV, h0, decide_eq_true hc]; rfl)
          clear HST HSV
          go_wp2_with fail
          go_roundw
          case rel => exact ⟨j + 1, by omega, by go_num, ⟨x.cs, rfl, HE⟩, HB4⟩
          case measure => simp [intOf]; omega
        · have HE : Hid (lstV s ov (ws.take (j + 1)) = lv) := hide (by rw [unhide HST, unhide HSV, h0, decide_eq_false hc]; rfl)
          clear HST HSV
          go_wp2_with fail
          go_roundw
          case rel => exact ⟨j + 1, by omega, by go_num, ⟨lv, rfl, HE⟩, HB4⟩
          case measure => simp [intOf]; omega
      · have HE : Hid (lstV s ov (ws.take (j + 1)) = x.cs) := hide (by rw [unhide HST, unhide HSV, h0]; rfl)
        clear HST HSV
        go_wp2_with fail
        go_roundw
        case rel => exact ⟨j + 1, by omega, by go_num, ⟨x.cs, rfl, HE⟩, HB4⟩
        case measure => simp [intOf]; omega
    · obtain rfl : j = n := by omega
      have HE : Hid (lv = lstV s (ownV ls addr now) (wayV f ls addr now ls.length)) := hide (by rw [unhide HWS, unhide HOV, ← unhide hlv, ← unhide HN, List.take_length])
      have HBf := hide ((unhide HB3).trans ((unhide hbl).mono (unhide HB3).size))
      go_wp2_with fail
      go_ret
      exact ⟨ret_int (unhide HE), unhide HBf⟩
end Wa
end Go.Proofs.Ytpknahhdapmcoao
