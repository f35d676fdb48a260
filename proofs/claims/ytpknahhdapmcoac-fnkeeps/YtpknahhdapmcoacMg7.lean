/-
  The program's contracts: the ways to an address by one neighbor; what its own link costs; the least cost. The least cost: the program's contract, and that the model's is the same. The least cost is the model's; the program's Keeps.
-/
import Derived.Test.YtpknahhdapmcoacMg4
import Derived.Test.YtpknahhdapmcoacRecTwoWay
import Derived.Test.YtpknahhdapmcoacMg6
namespace Go.Proofs.Ytpknahhdapmcoac
open Go.ChangeShapes Go.WideShapes Go.ChangeAt Go.RowKit
set_option linter.unusedVariables false
set_option linter.unusedSimpArgs false
attribute [local go_sem ↓] Go.wp_at_zero Go.wp_at_succ
namespace Wa
open W1 Tu St Tw Mr Mt Gp
theorem own_below {w w' : World} {base : Nat} {v : Value} {n : Nat} {xs : List Value} {t sz : Nat} (h : w.ownsRow base t sz v n xs) (hb : Below w.heap.size w w') : w'.ownsRow base t sz v n xs := by
  refine h.kept (row := none) ⟨hb.os, hb.tape, hb.output, hb.size, fun k hk _ => hb.block k hk⟩ ?_
  cases v.ownBlock
  · exact .inl rfl
  · exact .inr (by simp)
/-- The way by a link; the ways by the first j. -/
def wayR (f : Int → Int → Option R) (addr : Int) (m : Lk.R) : Wy.R := ⟨m.ad, m.hd, m.sy, m.ci, m.co, m.wl, m.ci + ((f m.ad addr).getD R.zero).val⟩
def wayV (f : Int → Int → Option R) (ls : List Lk.R) (addr now : Int) (j : Nat) : List Wy.R := ((ls.take j).filter (viaOk f addr now)).map (wayR f addr)
theorem way_yes {f : Int → Int → Option R} {ls : List Lk.R} {addr now : Int} {j : Nat} (h : j < ls.length) (hs : viaOk f addr now (ls.getD j Lk.R.zero) = true) : wayV f ls addr now (j + 1) = wayV f ls addr now j ++ [wayR f addr (ls.getD j Lk.R.zero)] := by
  unfold wayV; rw [ls_take h, List.filter_append, List.filter_cons_of_pos hs, List.map_append]; rfl
theorem way_no {f : Int → Int → Option R} {ls : List Lk.R} {addr now : Int} {j : Nat} (h : j < ls.length) (hs : viaOk f addr now (ls.getD j Lk.R.zero) = false) : wayV f ls addr now (j + 1) = wayV f ls addr now j := by
  unfold wayV; rw [ls_take h, List.filter_append, List.filter_cons_of_neg (by rw [hs]; simp)]; simp
theorem way_len (f : Int → Int → Option R) (ls : List Lk.R) (addr now : Int) (j : Nat) : (wayV f ls addr now j).length ≤ j := by
  unfold wayV; rw [List.length_map]
  have := List.length_filter_le (viaOk f addr now) (ls.take j)
  have := List.length_take_le j ls
  omega
theorem via_has {f : Int → Int → Option R} {ls : List Lk.R} {addr now : Int} {j : Nat} (hb : Ln.linksB ls = true) (h : j < ls.length) : (viaL f ls addr now ls.length).contains (ls.getD j Lk.R.zero).ad = viaOk f addr now (ls.getD j Lk.R.zero) := by
  rw [Bool.eq_iff_iff, List.contains_iff_mem]
  unfold viaL
  rw [List.take_length, List.mem_map]
  constructor
  · rintro ⟨m, hm, e⟩
    rw [List.mem_filter] at hm
    obtain ⟨i, hi, rfl⟩ := List.getElem_of_mem hm.1
    have ei : ls.getD i Lk.R.zero = ls[i] := by rw [List.getD_eq_getElem?_getD, List.getElem?_eq_getElem hi]; rfl
    have : i = j := by
      rcases Nat.lt_trichotomy i j with hij | hij | hij
      · have := links_up hb j i hij h; rw [ei] at this; omega
      · exact hij
      · have := links_up hb i j hij hi; rw [ei] at this; omega
    subst this
    rw [ei]; exact hm.2
  · intro hv
    refine ⟨ls.getD j Lk.R.zero, List.mem_filter.2 ⟨?_, hv⟩, rfl⟩
    rw [List.getD_eq_getElem?_getD, List.getElem?_eq_getElem h]; exact List.getElem_mem h
theorem gL_has {L : List Int} {a : Int} (h : 1 ≤ a ∧ a ≤ 8) : hasB (gL L) a = L.contains a := by
  unfold gL
  rw [has_gN]
  unfold inB
  rw [decide_eq_true h.1, decide_eq_true h.2]; rfl
theorem field_run (ke ti va : Int) (W : World) : (Instr.field 28 (.agg #[.int .i64 ke, .int .i64 ti, .int .i64 va]) 2).run Try.prog W = .ok (.int .i64 va) W := by kernel_rfl
set_option maxRecDepth 100000 in
set_option maxHeartbeats 8000000 in
theorem waysTo (bm q : Nat) (f : Int → Int → Option R) (a : Option Addr) (ls : List Lk.R) (cap : Nat) (addr now : Int) (w : World) (hwa : (Lit.int .i64 addr).wf = true) (hok : Ln.linksB ls = true) (hval : ∀ v, 0 ≤ ((f v addr).getD R.zero).val ∧ ((f v addr).getD R.zero).val ≤ 1073741824) (hom : OM w bm q f) (hr : Lk.RM w a ls) :
    Calls Try.prog 69 #[.map (some bm), .slice a ls.length cap, .int .i64 addr, .int .i64 now] w fun e w' => ∃ v, e = .returned v ∧ Below w.heap.size w w' ∧ Wy.LstV w' v (wayV f ls addr now ls.length) w.heap.size w'.heap.size := by
  have HR := hide hr
  have HOM := hide hom
  have HWA := hide hwa
  have HOK := hide hok
  have HVA := hide hval
  have h8 := Ln.links_len hok
  have hvl := viaL_len f ls addr now ls.length
  clear hr hom hwa hok hval
  have O0 : Hid (∀ W : World, W.ownsRow W.heap.size 109 7 (.slice none 0 0) (wayV f ls addr now 0).length (Wy.flat (wayV f ls addr now 0))) := hide (fun W => Wy.own_nil W W.heap.size)
  have HVH := hide (fun j (h : j < ls.length) => via_has (f := f) (addr := addr) (now := now) (unhide HOK) h)
  go_enter Try.func69, Try.ntmps69
  go_wp2_with fail
  refine (viasOf bm q f _ ls cap addr now _ (unhide HWA) (unhide HOK) (unhide HOM) (unhide HR)).mono ?_
  rintro e w2 ⟨v2, rfl, b2, hl2⟩
  obtain ⟨a2, c2, rfl, l2⟩ := hl2
  have HB2 := hide b2
  have HR2 := hide ((unhide HR).below b2)
  have HM2 := hide ((unhide HOM).below b2)
  have HL2 := hide l2.rm
  clear b2 l2
  generalize viaL f ls addr now ls.length = vs at *
  generalize hN : ls.length = n at *
  have HN := hide hN
  clear hN
  go_wp2_with fail
  refine (groupOf a2 vs c2 _ (by omega) (unhide HL2)).mono ?_
  rintro e w3 ⟨rfl, hw3⟩
  rw [hw3]
  clear hw3
  have O2 := hide (unhide O0 w2)
  have hgl := gL_lt vs
  go_wp2_with fail
  go_loopw [10, 21] (fun v i wr => ∃ j : Nat, j ≤ n ∧ i = .int .i64 j ∧ Hid (wr.ownsRow w2.heap.size 109 7 v (wayV f ls addr now j).length (Wy.flat (wayV f ls addr now j))) ∧ Hid (Below w2.heap.size w2 wr)) (fun _ i _ => n - (intOf i).toNat)
  case atStart => exact ⟨0, by omega, rfl, O2, hide (Below.refl _ _)⟩
  case round =>
    obtain ⟨j, hj, rfl, how, hbl⟩ := hrel
    by_cases hlt : (j : Int) < (n : Int)
    · have k0 : (0 : Int) ≤ (j : Int) := by omega
      have hlen : j < ls.length := by rw [unhide HN]; omega
      obtain ⟨g, off, rfl⟩ := (unhide HR).form (by omega)
      obtain ⟨c0, c1, c2, c3, c4, c5⟩ := ((unhide HR2).below (unhide hbl)).at hlen
      have hbs := (unhide hbl).size
      have had := Ln.ok_ad (Ri.all_ok (unhide HOK) hlen)
      have hci := Ln.ok_ci (Ri.all_ok (unhide HOK) hlen)
      have hvh := unhide HVH j (by omega)
      have HY := hide (fun (h : viaOk f addr now (ls.getD j Lk.R.zero) = true) => way_yes hlen h)
      have HZ := hide (fun (h : viaOk f addr now (ls.getD j Lk.R.zero) = false) => way_no hlen h)
      generalize ls.getD j Lk.R.zero = m at *
      have hfl := way_len f ls addr now j
      have HBA := hide ((unhide hbl).alloc hbs (.cells #[.int .i64 m.ad, .int .i64 m.hd, .int .i64 m.sy, .int .i64 m.ci, .int .i64 m.co, .int .i64 m.wl] 30))
      have HOA := hide ((unhide how).alloc (.cells #[.int .i64 m.ad, .int .i64 m.hd, .int .i64 m.sy, .int .i64 m.ci, .int .i64 m.co, .int .i64 m.wl] 30))
      have HX := hide (Ln.bx_new wr m 30)
      have HWD : Hid ((Lit.int .i64 m.ad).wf = true) := hide (WalkArith.wf_i64 ⟨by omega, by omega⟩)
      have HHS : Hid (hasB (gL vs) m.ad = viaOk f addr now m) := hide (by rw [gL_has had]; exact hvh)
      clear hvh
      obtain ⟨kb, hkb⟩ : ∃ kb, viaOk f addr now m = kb := ⟨_, rfl⟩
      rw [hkb] at HY HZ HHS
      clear hkb
      go_wp2_with fail
      generalize hW : wr.alloc (.cells #[.int .i64 m.ad, .int .i64 m.hd, .int .i64 m.sy, .int .i64 m.ci, .int .i64 m.co, .int .i64 m.wl] 30) = W0 at *
      clear hW
      refine (has (gL vs) m.ad _ (by omega)).mono ?_
      rintro e w4 ⟨rfl, b4⟩
      rw [unhide HHS]
      have HB4 := hide ((unhide HBA).trans (b4.mono (unhide HBA).size))
      have HO4 := hide (own_below (unhide HOA) b4)
      have HX4 := hide ((unhide HX).below b4)
      have hs4 := (unhide HB4).size
      clear b4 c0 c1 c2 c3 c4 c5
      obtain ⟨d0, d1, d2, d3, d4, d5⟩ := unhide HX4
      cases kb
      · have HTF := hide (unhide HZ rfl)
        have HO : Hid (w4.ownsRow w2.heap.size 109 7 u10 (wayV f ls addr now (j + 1)).length (Wy.flat (wayV f ls addr now (j + 1)))) := hide (by rw [unhide HTF]; exact unhide HO4)
        go_wp2_with fail
        go_roundw
        case rel => exact ⟨j + 1, by omega, by go_num, HO, HB4⟩
        case measure => simp [intOf]; omega
      · have HTF := hide (unhide HY rfl)
        have hvb := unhide HVA m.ad
        obtain ⟨T, hT⟩ : ∃ T, (f m.ad addr).getD R.zero = T := ⟨_, rfl⟩
        have hwr : wayR f addr m = ⟨m.ad, m.hd, m.sy, m.ci, m.co, m.wl, m.ci + T.val⟩ := by unfold wayR; rw [hT]
        rw [hwr] at HTF
        clear hwr
        obtain ⟨ke, ti, va⟩ := T
        have HT := hide hT
        rw [hT] at hvb
        clear hT
        dsimp only at hvb HTF
        have HM4 := hide ((unhide HM2).below (unhide HB4))
        have hsum : IntKind.i64.wrap (m.ci + va) = m.ci + va := by rw [IntKind.wrap_i64]; omega
        have hfd : ∀ W : World, (Instr.field 28 (.agg #[.int .i64 ke, .int .i64 ti, .int .i64 va]) 2).run Try.prog W = .ok (.int .i64 va) W := fun W => field_run ke ti va W
        have BD : Below w4.heap.size w4 w4.drew := (Below.refl _ _).drew
        have HS : Hid (∀ w', Below w4.heap.size w4 w' → Ln.Bx w' wr.heap.size m) := hide (fun w' hb => (unhide HX4).below hb)
        clear HX HX4 d0 d1 d2 d3 d4 d5
        go_wp2_with fail
        refine wp_region_noPanic ?_
        refine wp_region_held_drew (S := fun w' => w'.cell? ⟨wr.heap.size, 0, none⟩ = some (.int .i64 m.ad) ∧ w'.cell? ⟨wr.heap.size, 1, none⟩ = some (.int .i64 m.hd) ∧ w'.cell? ⟨wr.heap.size, 2, none⟩ = some (.int .i64 m.sy) ∧ w'.cell? ⟨wr.heap.size, 3, none⟩ = some (.int .i64 m.ci) ∧ w'.cell? ⟨wr.heap.size, 4, none⟩ = some (.int .i64 m.co) ∧ w'.cell? ⟨wr.heap.size, 5, none⟩ = some (.int .i64 m.wl)) (by kernel_rfl) (unhide HS _ BD) (fun hHeld => ?_)
        (refine Rg.tk (i := 0) (d := 29) (v := ?_) rfl rfl (by kernel_rfl) (by kernel_rfl) (by kernel_rfl) (fun _ _ _ h => h) (by rfl) ?_ (by assumption) ?_; rotate_left; (focus (intro w0 hSw; (try dsimp only at hSw); go_simp; (try with_reducible rfl))); (try simp only [Act.put, List.setIfInBounds_toArray, List.set_cons_zero, List.set_cons_succ]))
        (refine Rg.tk (i := 1) (d := 30) (v := ?_) rfl rfl (by kernel_rfl) (by kernel_rfl) (by kernel_rfl) (fun _ _ _ h => h) (by rfl) ?_ (by assumption) ?_; rotate_left; (focus (intro w0 hSw; (try dsimp only at hSw); go_simp; (try with_reducible rfl))); (try simp only [Act.put, List.setIfInBounds_toArray, List.set_cons_zero, List.set_cons_succ]))
        (refine Rg.tk (i := 2) (d := 31) (v := ?_) rfl rfl (by kernel_rfl) (by kernel_rfl) (by kernel_rfl) (fun _ _ _ h => h) (by rfl) ?_ (by assumption) ?_; rotate_left; (focus (intro w0 hSw; (try dsimp only at hSw); go_simp; (try with_reducible rfl))); (try simp only [Act.put, List.setIfInBounds_toArray, List.set_cons_zero, List.set_cons_succ]))
        (refine Rg.tk (i := 3) (d := 32) (v := ?_) rfl rfl (by kernel_rfl) (by kernel_rfl) (by kernel_rfl) (fun _ _ _ h => h) (by rfl) ?_ (by assumption) ?_; rotate_left; (focus (intro w0 hSw; (try dsimp only at hSw); go_simp; (try with_reducible rfl))); (try simp only [Act.put, List.setIfInBounds_toArray, List.set_cons_zero, List.set_cons_succ]))
        (refine Rg.tk (i := 4) (d := 33) (v := ?_) rfl rfl (by kernel_rfl) (by kernel_rfl) (by kernel_rfl) (fun _ _ _ h => h) (by rfl) ?_ (by assumption) ?_; rotate_left; (focus (intro w0 hSw; (try dsimp only at hSw); go_simp; (try with_reducible rfl))); (try simp only [Act.put, List.setIfInBounds_toArray, List.set_cons_zero, List.set_cons_succ]))
        (refine Rg.tk (i := 5) (d := 34) (v := ?_) rfl rfl (by kernel_rfl) (by kernel_rfl) (by kernel_rfl) (fun _ _ _ h => h) (by rfl) ?_ (by assumption) ?_; rotate_left; (focus (intro w0 hSw; (try dsimp only at hSw); go_simp; (try with_reducible rfl))); (try simp only [Act.put, List.setIfInBounds_toArray, List.set_cons_zero, List.set_cons_succ]))
        (refine Rg.tk (i := 6) (d := 35) (v := ?_) rfl rfl (by kernel_rfl) (by kernel_rfl) (by kernel_rfl) (fun _ _ _ h => h) (by rfl) ?_ (by assumption) ?_; rotate_left; (focus (intro w0 hSw; (try dsimp only at hSw); go_simp; (try with_reducible rfl))); (try simp only [Act.put, List.setIfInBounds_toArray, List.set_cons_zero, List.set_cons_succ]))
        (refine Rg.tk (i := 7) (d := 36) (v := ?_) rfl rfl (by kernel_rfl) (by kernel_rfl) (by kernel_rfl) (fun _ _ _ h => h) (by rfl) ?_ (by assumption) ?_; rotate_left; (focus (intro w0 hSw; (try dsimp only at hSw); go_simp; (try with_reducible rfl))); (try simp only [Act.put, List.setIfInBounds_toArray, List.set_cons_zero, List.set_cons_succ]))
        (refine Rg.tk (i := 8) (d := 37) (v := ?_) rfl rfl (by kernel_rfl) (by kernel_rfl) (by kernel_rfl) (fun _ _ _ h => h) (by rfl) ?_ (by assumption) ?_; rotate_left; (focus (intro w0 hSw; (try dsimp only at hSw); go_simp; (try with_reducible rfl))); (try simp only [Act.put, List.setIfInBounds_toArray, List.set_cons_zero, List.set_cons_succ]))
        (refine wpAnyH_ready (rs := [9]) (by kernel_rfl) (by simp) ?_; refine AllReadyH.cons (o := _) rfl (fun K hK => ?_) AllReadyH.nil; rw [if_pos (by rfl)])
        refine wp_look1 _ _ _ 38 rfl rfl bm q f rfl ((unhide HM4).drew) m.ad addr (unhide HWD) (unhide HWA) rfl ke ti va (unhide HT) ?_
        clear hHeld
        refine hK.out _ _ (unhide HS _ BD) (fun hHeld => ?_)
        clear hK K
        (try simp only [Act.put, List.setIfInBounds_toArray, List.set_cons_zero, List.set_cons_succ])
        (refine Rg.tk (i := 10) (d := 39) (v := ?_) rfl rfl (by kernel_rfl) (by kernel_rfl) (by kernel_rfl) (fun _ _ _ h => h) (by rfl) ?_ (by assumption) ?_; rotate_left; (focus (intro w0 hSw; (try dsimp only at hSw); go_simp; (try with_reducible rfl))); (try simp only [Act.put, List.setIfInBounds_toArray, List.set_cons_zero, List.set_cons_succ]))
        (refine Rg.tk (i := 11) (d := 40) (v := ?_) rfl rfl (by kernel_rfl) (by kernel_rfl) (by kernel_rfl) (fun _ _ _ h => h) (by rfl) ?_ (by assumption) ?_; rotate_left; (focus (intro w0 hSw; (try dsimp only at hSw); go_simp; (try with_reducible rfl))); (try simp only [Act.put, List.setIfInBounds_toArray, List.set_cons_zero, List.set_cons_succ]))
        (refine Rg.tk (i := 12) (d := 41) (v := ?_) rfl rfl (by kernel_rfl) (by kernel_rfl) (by kernel_rfl) (fun _ _ _ h => h) (by rfl) ?_ (by assumption) ?_; rotate_left; (focus (intro w0 hSw; (try dsimp only at hSw); go_simp; (try with_reducible rfl))); (try simp only [Act.put, List.setIfInBounds_toArray, List.set_cons_zero, List.set_cons_succ]))
        (refine wpAnyH_ready (rs := [13]) (by kernel_rfl) (by simp) ?_; refine AllReadyH.cons (o := _) rfl (fun K hK => ?_) AllReadyH.nil; go_simp)
        have BE := BD.alloc BD.size (.cells #[.int .i64 m.ad, .int .i64 m.hd, .int .i64 m.sy, .int .i64 m.ci, .int .i64 m.co, .int .i64 m.wl, .int .i64 (m.ci + va)] 109)
        have HRW := hide (Wy.rm_new w4.drew ⟨m.ad, m.hd, m.sy, m.ci, m.co, m.wl, m.ci + va⟩)
        have HOE := hide ((own_below (unhide HO4) BD).alloc (.cells #[.int .i64 m.ad, .int .i64 m.hd, .int .i64 m.sy, .int .i64 m.ci, .int .i64 m.co, .int .i64 m.wl, .int .i64 (m.ci + va)] 109))
        clear hHeld
        refine hK.out _ _ (unhide HS _ BE) (fun hHeld => ?_)
        clear hK K
        (try simp only [Act.put, List.setIfInBounds_toArray, List.set_cons_zero, List.set_cons_succ])
        (refine wpAnyH_ready (rs := [14]) (by kernel_rfl) (by simp) ?_; refine AllReadyH.cons (o := _) rfl (fun K hK => ?_) AllReadyH.nil; rw [if_pos (by rfl)])
        refine Wy.wp_apS (unhide HOE) w4.drew.heap.size 0 1 1 [⟨m.ad, m.hd, m.sy, m.ci, m.co, m.wl, m.ci + va⟩] rfl (unhide HRW) (by simp only [List.length_cons, List.length_nil]; omega) (by simp; exact Nat.le_trans hs4 (by simp)) _ _ rfl rfl rfl rfl ?_
        intro v5 w5 o5 g5
        have HO5 : Hid (w5.ownsRow w2.heap.size 109 7 v5 (wayV f ls addr now (j + 1)).length (Wy.flat (wayV f ls addr now (j + 1)))) := hide (by rw [unhide HTF]; exact o5)
        have B5 := Wy.below_own (B := w2.heap.size) (((unhide HB4).drew).alloc (by simp; exact hs4) (.cells #[.int .i64 m.ad, .int .i64 m.hd, .int .i64 m.sy, .int .i64 m.ci, .int .i64 m.co, .int .i64 m.wl, .int .i64 (m.ci + va)] 109)) (unhide HOE) g5 (Nat.le_refl _) (by simp; omega)
        have hne : some wr.heap.size ≠ u10.ownBlock := fun e => by
          have := ((unhide how).lt wr.heap.size e.symm).2
          omega
        obtain ⟨x0, x1, x2, x3, x4, x5⟩ := unhide HS _ BE
        have HB5 := hide B5
        have y0 := g5.cell x0 hne
        have y1 := g5.cell x1 hne
        have y2 := g5.cell x2 hne
        have y3 := g5.cell x3 hne
        have y4 := g5.cell x4 hne
        have y5 := g5.cell x5 hne
        clear o5 g5 B5 hHeld x0 x1 x2 x3 x4 x5
        refine hK.out _ _ ⟨y0, y1, y2, y3, y4, y5⟩ (fun hHeld => ?_)
        clear hK K
        (try simp only [Act.put, List.setIfInBounds_toArray, List.set_cons_zero, List.set_cons_succ])
        (refine Rg.tk (i := 15) (d := 10) (v := ?_) rfl rfl (by kernel_rfl) (by kernel_rfl) (by kernel_rfl) (fun _ _ _ h => h) (by rfl) ?_ (by assumption) ?_; rotate_left; (focus (intro w0 hSw; (try dsimp only at hSw); go_simp; (try with_reducible rfl))); (try simp only [Act.put, List.setIfInBounds_toArray, List.set_cons_zero, List.set_cons_succ]))
        refine wpAnyH_done (by kernel_rfl) (NoPanic.normal ?_) _
        clear hHeld y0 y1 y2 y3 y4 y5 hne hfd
        go_wp2_with fail
        go_roundw
        case rel => exact ⟨j + 1, by omega, by go_num, HO5, HB5⟩
        case measure => simp [intOf]; omega
    · obtain rfl : j = n := by omega
      have HLs := hide ((Wy.lst_own rfl (unhide how)).mono (lo' := w.heap.size) (unhide HB2).size (Nat.le_refl _))
      have HBf := hide ((unhide HB2).trans ((unhide hbl).mono (unhide HB2).size))
      go_wp2_with fail
      go_ret
      exact ⟨_, rfl, unhide HBf, by rw [unhide HN]; exact unhide HLs⟩
/-- What an address' own link costs; 0 without one that is symmetric. -/
def ownB (addr now : Int) (m : Lk.R) : Bool := (m.ad == addr) && (Ln.statusV m now == 2)
def ownV (ls : List Lk.R) (addr now : Int) : Int := match ls.find? (ownB addr now) with | some m => m.ci | none => 0
theorem own_find {ls : List Lk.R} {addr now : Int} {j : Nat} (h : j < ls.length) : (ls.drop j).find? (ownB addr now) = if ownB addr now (ls.getD j Lk.R.zero) = true then some (ls.getD j Lk.R.zero) else (ls.drop (j + 1)).find? (ownB addr now) := by
  rw [List.drop_eq_getElem_cons h, List.getD_eq_getElem?_getD, List.getElem?_eq_getElem h]
  simp only [Option.getD_some]
  split
  · rename_i hh; rw [List.find?_cons_of_pos hh]
  · rename_i hh; rw [List.find?_cons_of_neg hh]
set_option maxRecDepth 100000 in
set_option maxHeartbeats 4000000 in
theorem ownCost (a : Option Addr) (ls : List Lk.R) (cap : Nat) (addr now : Int) (w : World) (hl : ls.length ≤ 64) (hr : Lk.RM w a ls) :
    Calls Try.prog 72 #[.slice a ls.length cap, .int .i64 addr, .int .i64 now] w fun e w' => e = .returned (.int .i64 (ownV ls addr now)) ∧ Below w.heap.size w w' := by
  have HR := hide hr
  clear hr
  have HO : Hid (ownV ls addr now = match ls.find? (ownB addr now) with | some m => m.ci | none => 0) := hide rfl
  obtain ⟨ov, hov⟩ : ∃ ov, ownV ls addr now = ov := ⟨_, rfl⟩
  rw [hov] at HO ⊢
  clear hov
  generalize hN : ls.length = n at *
  have HN := hide hN
  clear hN
  go_enter Try.func72, Try.ntmps72
  go_wp2_with fail
  go_loopw [11] (fun i wr => ∃ j : Nat, j ≤ n ∧ i = .int .i64 j ∧ Hid (ls.find? (ownB addr now) = (ls.drop j).find? (ownB addr now)) ∧ Hid (Below w.heap.size w wr)) (fun i _ => n - (intOf i).toNat)
  case atStart => exact ⟨0, by omega, rfl, hide rfl, hide (Below.refl _ _)⟩
  case round =>
    obtain ⟨j, hj, rfl, hfd, hbl⟩ := hrel
    by_cases hlt : (j : Int) < (n : Int)
    · have k0 : (0 : Int) ≤ (j : Int) := by omega
      have hlen : j < ls.length := by rw [unhide HN]; omega
      obtain ⟨g, off, rfl⟩ := (unhide HR).form (by omega)
      obtain ⟨c0, c1, c2, c3, c4, c5⟩ := ((unhide HR).below (unhide hbl)).at hlen
      have hbs := (unhide hbl).size
      have HST := hide (own_find (addr := addr) (now := now) hlen)
      generalize ls.getD j Lk.R.zero = m at *
      have HBA := hide ((unhide hbl).alloc hbs (.cells #[.int .i64 m.ad, .int .i64 m.hd, .int .i64 m.sy, .int .i64 m.ci, .int .i64 m.co, .int .i64 m.wl] 30))
      have HX := hide (Ln.bx_new wr m 30)
      have HOB : Hid (ownB addr now m = ((m.ad == addr) && (Ln.statusV m now == 2))) := hide rfl
      cases ha : (m.ad == addr)
      · have HE : Hid (ls.find? (ownB addr now) = (ls.drop (j + 1)).find? (ownB addr now)) := hide (by rw [unhide hfd, unhide HST, if_neg (by rw [unhide HOB, ha]; simp)])
        clear HST HOB
        go_wp2_with fail
        go_roundw
        case rel => exact ⟨j + 1, by omega, by go_num, HE, HBA⟩
        case measure => simp [intOf]; omega
      go_wp2_with fail
      generalize hW : wr.alloc (.cells #[.int .i64 m.ad, .int .i64 m.hd, .int .i64 m.sy, .int .i64 m.ci, .int .i64 m.co, .int .i64 m.wl] 30) = W0 at *
      clear hW
      refine (Ln.implStatus _ _ _ _ _ _ now _).mono ?_
      rintro e w2 ⟨rfl, b2⟩
      have HBL := hide ((unhide HBA).trans (b2.mono (unhide HBA).size))
      have HX2 := hide ((unhide HX).below b2)
      obtain ⟨d0, d1, d2, d3, d4, d5⟩ := unhide HX2
      clear b2 c0 c1 c2 c3 c4 c5
      have e2 : Ln.statusV ⟨m.ad, m.hd, m.sy, m.ci, m.co, m.wl⟩ now = Ln.statusV m now := rfl
      rw [e2]
      clear e2
      cases hs : (Ln.statusV m now == 2)
      · have HE : Hid (ls.find? (ownB addr now) = (ls.drop (j + 1)).find? (ownB addr now)) := hide (by rw [unhide hfd, unhide HST, if_neg (by rw [unhide HOB, hs]; simp)])
        clear HST HOB
        generalize Ln.statusV m now = sv at *
        go_wp2_with fail
        go_roundw
        case rel => exact ⟨j + 1, by omega, by go_num, HE, HBL⟩
        case measure => simp [intOf]; omega
      · have HE : Hid (m.ci = ov) := hide (by rw [unhide HO, unhide hfd, unhide HST, if_pos (by rw [unhide HOB, ha, hs]; rfl)])
        clear HST HOB
        generalize Ln.statusV m now = sv at *
        go_wp2_with fail
        go_ret
        exact ⟨ret_int (unhide HE), unhide HBL⟩
    · obtain rfl : j = n := by omega
      have HE : Hid (0 = ov) := hide (by rw [unhide HO, unhide hfd, ← unhide HN, List.drop_length]; rfl)
      go_wp2_with fail
      go_ret
      exact ⟨ret_int (unhide HE), unhide hbl⟩
end Wa
end Go.Proofs.Ytpknahhdapmcoac
namespace Go.Proofs.Ytpknahhdapmcoac
open Go.ChangeShapes Go.WideShapes Go.ChangeAt Go.RowKit
set_option linter.unusedVariables false
set_option linter.unusedSimpArgs false
attribute [local go_sem ↓] Go.wp_at_zero Go.wp_at_succ
namespace Wa
open W1 Tu St Tw Mr Mt Gp
def lstS (s : Nat) (l : Int) (x : Wy.R) : Int := if (hasB s x.ad && ((l == 0) || decide (x.cs < l))) = true then x.cs else l
def lstV (s : Nat) (own : Int) (ws : List Wy.R) : Int := ws.foldl (lstS s) own
theorem lst_step {s : Nat} {own : Int} {ws : List Wy.R} {j : Nat} (h : j < ws.length) : lstV s own (ws.take (j + 1)) = lstS s (lstV s own (ws.take j)) (ws.getD j Wy.R.zero) := by
  unfold lstV
  rw [List.take_add_one, List.getElem?_eq_getElem h, List.getD_eq_getElem?_getD, List.getElem?_eq_getElem h, List.foldl_append]; rfl
def BW (w : World) (b : Nat) (x : Wy.R) : Prop := w.cell? ⟨b, 0, none⟩ = some (.int .i64 x.ad) ∧ w.cell? ⟨b, 1, none⟩ = some (.int .i64 x.hd) ∧ w.cell? ⟨b, 2, none⟩ = some (.int .i64 x.sy) ∧ w.cell? ⟨b, 3, none⟩ = some (.int .i64 x.ci) ∧ w.cell? ⟨b, 4, none⟩ = some (.int .i64 x.co) ∧ w.cell? ⟨b, 5, none⟩ = some (.int .i64 x.wl) ∧ w.cell? ⟨b, 6, none⟩ = some (.int .i64 x.cs)
theorem BW.lt {w : World} {b : Nat} {m : Wy.R} (h : BW w b m) : b < w.heap.size := World.block_lt_of_cell? _ _ h.1
theorem BW.under {w w' : World} {B b : Nat} {m : Wy.R} (h : BW w b m) (hb : Below B w w') (hg : b < B) : BW w' b m := by
  obtain ⟨h0, h1, h2, h3, h4, h5, h6⟩ := h
  exact ⟨(hb.cell (p := ⟨b, 0, none⟩) hg).trans h0, (hb.cell (p := ⟨b, 1, none⟩) hg).trans h1, (hb.cell (p := ⟨b, 2, none⟩) hg).trans h2, (hb.cell (p := ⟨b, 3, none⟩) hg).trans h3, (hb.cell (p := ⟨b, 4, none⟩) hg).trans h4, (hb.cell (p := ⟨b, 5, none⟩) hg).trans h5, (hb.cell (p := ⟨b, 6, none⟩) hg).trans h6⟩
theorem BW.below {w w' : World} {b : Nat} {m : Wy.R} (h : BW w b m) (hb : Below w.heap.size w w') : BW w' b m := h.under hb h.lt
theorem bw_new (w : World) (x : Wy.R) : BW (w.alloc (.cells #[.int .i64 x.ad, .int .i64 x.hd, .int .i64 x.sy, .int .i64 x.ci, .int .i64 x.co, .int .i64 x.wl, .int .i64 x.cs] 109)) w.heap.size x := by
  refine ⟨?_, ?_, ?_, ?_, ?_, ?_, ?_⟩ <;> (rw [World.cell?_alloc_new]; rfl)
set_option maxRecDepth 100000 in
set_option maxHeartbeats 8000000 in
theorem leastCost (bm q : Nat) (f : Int → Int → Option R) (a : Option Addr) (ls : List Lk.R) (cap : Nat) (addr now : Int) (s : Nat) (w : World) (hs : s < 65536) (hwa : (Lit.int .i64 addr).wf = true) (hok : Ln.linksB ls = true) (hval : ∀ v, 0 ≤ ((f v addr).getD R.zero).val ∧ ((f v addr).getD R.zero).val ≤ 1073741824) (hom : OM w bm q f) (hr : Lk.RM w a ls) :
    Calls Try.prog 74 #[.map (some bm), .slice a ls.length cap, .int .i64 addr, .int .i64 now, .int .u16 s] w fun e w' => e = .returned (.int .i64 (lstV s (ownV ls addr now) (wayV f ls addr now ls.length))) ∧ Below w.heap.size w w' := by
  have HR := hide hr
  have HOM := hide hom
  have HWA := hide hwa
  have HOK := hide hok
  have HVA := hide hval
  have h8 := Ln.links_len hok
  have hwl := way_len f ls addr now ls.length
  clear hr hom hwa hok hval
  go_enter Try.func74, Try.ntmps74
  go_wp2_with fail
  refine (ownCost _ ls cap addr now _ (by omega) (unhide HR)).mono ?_
  rintro e w2 ⟨rfl, b2⟩
  have HB2 := hide b2
  have HR2 := hide ((unhide HR).below b2)
  have HM2 := hide ((unhide HOM).below b2)
  clear b2
  go_wp2_with fail
  refine (waysTo bm q f _ ls cap addr now _ (unhide HWA) (unhide HOK) (unhide HVA) (unhide HM2) (unhide HR2)).mono ?_
  rintro e w3 ⟨v3, rfl, b3, hl3⟩
  obtain ⟨a3, c3, rfl, l3⟩ := hl3
  have HB3 := hide ((unhide HB2).trans (b3.mono (unhide HB2).size))
  have HL3 := hide l3.rm
  clear b3 l3
  obtain ⟨ws, hws⟩ : ∃ ws, wayV f ls addr now ls.length = ws := ⟨_, rfl⟩
  have HWS := hide hws
  rw [hws] at HL3 hwl ⊢
  clear hws
  obtain ⟨ov, hov⟩ : ∃ ov, ownV ls addr now = ov := ⟨_, rfl⟩
  have HOV := hide hov
  rw [hov]
  clear hov
  generalize hN : ws.length = n at *
  have HN := hide hN
  clear hN
  go_wp2_with fail
  go_loopw [11, 24] (fun l i wr => ∃ j : Nat, j ≤ n ∧ i = .int .i64 j ∧ (∃ lv : Int, l = .int .i64 lv ∧ Hid (lstV s ov (ws.take j) = lv)) ∧ Hid (Below w3.heap.size w3 wr)) (fun _ i _ => n - (intOf i).toNat)
  case atStart => exact ⟨0, by omega, rfl, ⟨ov, rfl, hide rfl⟩, hide (Below.refl _ _)⟩
  case round =>
    obtain ⟨j, hj, rfl, ⟨lv, rfl, hlv⟩, hbl⟩ := hrel
    by_cases hlt : (j : Int) < (n : Int)
    · have k0 : (0 : Int) ≤ (j : Int) := by omega
      have hlen : j < ws.length := by rw [unhide HN]; omega
      obtain ⟨g, off, rfl⟩ := (unhide HL3).form (by omega)
      obtain ⟨c0, c1, c2, c3, c4, c5, c6⟩ := ((unhide HL3).below (unhide hbl)).at hlen
      have hbs := (unhide hbl).size
      have HST := hide (lst_step (s := s) (own := ov) hlen)
      rw [unhide hlv] at HST
      generalize ws.getD j Wy.R.zero = x at *
      have HSV : Hid (lstS s lv x = if (hasB s x.ad && ((lv == 0) || decide (x.cs < lv))) = true then x.cs else lv) := hide rfl
      have HBA := hide ((unhide hbl).alloc hbs (.cells #[.int .i64 x.ad, .int .i64 x.hd, .int .i64 x.sy, .int .i64 x.ci, .int .i64 x.co, .int .i64 x.wl, .int .i64 x.cs] 109))
      have HX := hide (bw_new wr x)
      obtain ⟨hb, hhb⟩ : ∃ hb, hasB s x.ad = hb := ⟨_, rfl⟩
      have HHB := hide hhb
      rw [hhb] at HSV
      clear hhb
      go_wp2_with fail
      generalize hW : wr.alloc (.cells #[.int .i64 x.ad, .int .i64 x.hd, .int .i64 x.sy, .int .i64 x.ci, .int .i64 x.co, .int .i64 x.wl, .int .i64 x.cs] 109) = W0 at *
      clear hW
      refine (has s x.ad _ hs).mono ?_
      rintro e w4 ⟨rfl, b4⟩
      rw [unhide HHB]
      have HB4 := hide ((unhide HBA).trans (b4.mono (unhide HBA).size))
      obtain ⟨d0, d1, d2, d3, d4, d5, d6⟩ := (unhide HX).below b4
      clear b4 c0 c1 c2 c3 c4 c5 c6
      cases hb
      · have HE : Hid (lstV s ov (ws.take (j + 1)) = lv) := hide (by rw [unhide HST, unhide HSV]; rfl)
        clear HST HSV
        go_wp2_with fail
        go_roundw
        case rel => exact ⟨j + 1, by omega, by go_num, ⟨lv, rfl, HE⟩, HB4⟩
        case measure => simp [intOf]; omega
      cases h0 : (lv == 0)
      · by_cases hc : x.cs < lv
        · have HE : Hid (lstV s ov (ws.take (j + 1)) = x.cs) := hide (by rw [unhide HST, unhide HSV, h0, decide_eq_true hc]; rfl)
          clear HST HSV
          go_wp2_with fail
          go_roundw
          case rel => exact ⟨j + 1, by omega, by go_num, ⟨x.cs, rfl, HE⟩, HB4⟩
          case measure => simp [intOf]; omega
        · have HE : Hid (lstV s ov (ws.take (j + 1)) = lv) := hide (by rw [unhide HST, unhide HSV, h0, decide_eq_false hc]; rfl)
          clear HST HSV
          go_wp2_with fail
          go_roundw
          case rel => exact ⟨j + 1, by omega, by go_num, ⟨lv, rfl, HE⟩, HB4⟩
          case measure => simp [intOf]; omega
      · have HE : Hid (lstV s ov (ws.take (j + 1)) = x.cs) := hide (by rw [unhide HST, unhide HSV, h0]; rfl)
        clear HST HSV
        go_wp2_with fail
        go_roundw
        case rel => exact ⟨j + 1, by omega, by go_num, ⟨x.cs, rfl, HE⟩, HB4⟩
        case measure => simp [intOf]; omega
    · obtain rfl : j = n := by omega
      have HE : Hid (lv = lstV s (ownV ls addr now) (wayV f ls addr now ls.length)) := hide (by rw [unhide HWS, unhide HOV, ← unhide hlv, ← unhide HN, List.take_length])
      have HBf := hide ((unhide HB3).trans ((unhide hbl).mono (unhide HB3).size))
      go_wp2_with fail
      go_ret
      exact ⟨ret_int (unhide HE), unhide HBf⟩
end Wa
end Go.Proofs.Ytpknahhdapmcoac
namespace Go.Proofs.Ytpknahhdapmcoac
open Go.ChangeShapes Go.WideShapes Go.ChangeAt Go.RowKit
set_option linter.unusedVariables false
set_option linter.unusedSimpArgs false
attribute [local go_sem ↓] Go.wp_at_zero Go.wp_at_succ
namespace Wa
open W1 Tu St Tw Mr Mt Gp
/-- The least of several, by a fold. -/
def stpG (nn : Int → Bool) (b c : Int) : Int := if (nn b || decide (c < b)) = true then c else b
theorem fold_min {nn : Int → Bool} (hn : ∀ c, 1 ≤ c → nn c = false) : ∀ (L : List Int) (b : Int), (∀ c ∈ L, 1 ≤ c) → (nn b = true ∨ 1 ≤ b) →
    (L = [] → L.foldl (stpG nn) b = b) ∧ (nn b = true → L ≠ [] → L.foldl (stpG nn) b ∈ L ∧ ∀ c ∈ L, L.foldl (stpG nn) b ≤ c) ∧ (nn b = false → (L.foldl (stpG nn) b = b ∨ L.foldl (stpG nn) b ∈ L) ∧ L.foldl (stpG nn) b ≤ b ∧ ∀ c ∈ L, L.foldl (stpG nn) b ≤ c)
  | [], b, _, _ => ⟨fun _ => rfl, fun _ h => absurd rfl h, fun _ => ⟨.inl rfl, Int.le_refl _, fun c hc => by cases hc⟩⟩
  | x :: t, b, h1, h2 => by
    have hx := h1 x (by simp)
    have ht : ∀ c ∈ t, 1 ≤ c := fun c hc => h1 c (by simp [hc])
    have e : (x :: t).foldl (stpG nn) b = t.foldl (stpG nn) (stpG nn b x) := rfl
    rw [e]
    refine ⟨fun h => (by cases h), fun hb _ => ?_, fun hb => ?_⟩
    · have es : stpG nn b x = x := by unfold stpG; rw [hb]; rfl
      rw [es]
      have := (fold_min hn t x ht (.inr hx)).2.2 (hn x hx)
      refine ⟨?_, fun c hc => ?_⟩
      · rcases this.1 with h | h
        · rw [h]; simp
        · exact List.mem_cons_of_mem _ h
      · rcases List.mem_cons.1 hc with rfl | hc
        · exact this.2.1
        · exact this.2.2 c hc
    · by_cases hlt : x < b
      · have es : stpG nn b x = x := by unfold stpG; rw [hb, decide_eq_true hlt]; rfl
        rw [es]
        have := (fold_min hn t x ht (.inr hx)).2.2 (hn x hx)
        refine ⟨?_, by omega, fun c hc => ?_⟩
        · rcases this.1 with h | h
          · exact .inr (by rw [h]; simp)
          · exact .inr (List.mem_cons_of_mem _ h)
        · rcases List.mem_cons.1 hc with rfl | hc
          · exact this.2.1
          · exact this.2.2 c hc
      · have es : stpG nn b x = b := by unfold stpG; rw [hb, decide_eq_false hlt]; rfl
        have hb1 : 1 ≤ b := h2.elim (fun h => by rw [hb] at h; cases h) id
        rw [es]
        have := (fold_min hn t b ht (.inr hb1)).2.2 hb
        refine ⟨?_, this.2.1, fun c hc => ?_⟩
        · rcases this.1 with h | h
          · exact .inl h
          · exact .inr (List.mem_cons_of_mem _ h)
        · rcases List.mem_cons.1 hc with rfl | hc
          · have := this.2.1; omega
          · exact this.2.2 c hc
theorem min_same {L M : List Int} (hL : ∀ c ∈ L, 1 ≤ c) (h : ∀ c, c ∈ L ↔ c ∈ M) : (L.foldl (stpG (fun b => decide (b < 0))) (-1) = -1 ∧ M.foldl (stpG (fun b => b == 0)) 0 = 0) ∨ (1 ≤ L.foldl (stpG (fun b => decide (b < 0))) (-1) ∧ L.foldl (stpG (fun b => decide (b < 0))) (-1) = M.foldl (stpG (fun b => b == 0)) 0) := by
  have hM : ∀ c ∈ M, 1 ≤ c := fun c hc => hL c ((h c).2 hc)
  have a1 := fold_min (nn := fun b => decide (b < 0)) (fun c hc => decide_eq_false (by omega)) L (-1) hL (.inl rfl)
  have a2 := fold_min (nn := fun b => b == 0) (fun c hc => by simp; omega) M 0 hM (.inl rfl)
  cases L with
  | nil =>
    have : M = [] := by
      cases M with
      | nil => rfl
      | cons y t => have := (h y).2 (by simp); cases this
    subst this
    exact .inl ⟨rfl, rfl⟩
  | cons x t =>
    have hMn : M ≠ [] := fun e => by have := (h x).1 (by simp); rw [e] at this; cases this
    have b1 := a1.2.1 rfl (by simp)
    have b2 := a2.2.1 rfl hMn
    refine .inr ⟨hL _ b1.1, Int.le_antisymm (b1.2 _ ((h _).2 b2.1)) (b2.2 _ ((h _).1 b1.1))⟩
/-- What one link offers. -/
def valT (f : Int → Int → Option R) (addr : Int) (m : Lk.R) : Int := ((f m.ad addr).getD R.zero).val
def cand (f : Int → Int → Option R) (addr now : Int) (so : List Int) (m : Lk.R) : List Int := (if ownB addr now m = true then [m.ci] else []) ++ (if (viaOk f addr now m && so.contains m.ad) = true then [m.ci + valT f addr m] else [])
theorem cost_cand (f : Int → Int → Option R) (addr now : Int) (so : List Int) (best : Int) (m : Lk.R) : costS f addr now so best m = (cand f addr now so m).foldl (stpG (fun b => decide (b < 0))) best := by
  unfold costS cand ownB viaOk
  cases hs : (Ln.statusV m now == 2)
  · simp
  · rw [if_pos rfl, Bool.and_true, Bool.true_and]
    have hk : keptB (f m.ad addr) now = ((f m.ad addr).isSome && decide (now < ((f m.ad addr).getD R.zero).til)) := by
      cases f m.ad addr <;> rfl
    rw [hk]
    unfold Mr.stepT Mr.stepD
    rw [List.foldl_append]
    have e1 : (if ((m.ad == addr) && (decide (best < 0) || decide (m.ci < best))) = true then m.ci else best) = (if (m.ad == addr) = true then [m.ci] else []).foldl (stpG (fun b => decide (b < 0))) best := by
      cases (m.ad == addr)
      · rfl
      · rfl
    rw [e1]
    generalize (if (m.ad == addr) = true then [m.ci] else []).foldl (stpG (fun b => decide (b < 0))) best = b1
    have e2 : ((((f m.ad addr).isSome && decide (now < ((f m.ad addr).getD R.zero).til)) && decide (0 < m.wl)) && so.contains m.ad) = ((decide (0 < m.wl) && ((f m.ad addr).isSome && decide (now < ((f m.ad addr).getD R.zero).til))) && so.contains m.ad) := by
      cases (f m.ad addr).isSome <;> cases decide (0 < m.wl) <;> simp
    rw [e2]
    cases ((decide (0 < m.wl) && ((f m.ad addr).isSome && decide (now < ((f m.ad addr).getD R.zero).til))) && so.contains m.ad)
    · simp
    · rfl
theorem cost_all (f : Int → Int → Option R) (addr now : Int) (so : List Int) : ∀ (ls : List Lk.R) (b : Int), ls.foldl (costS f addr now so) b = (ls.flatMap (cand f addr now so)).foldl (stpG (fun b => decide (b < 0))) b
  | [], b => rfl
  | m :: t, b => by rw [List.foldl_cons, List.flatMap_cons, List.foldl_append, cost_all f addr now so t, cost_cand]
theorem lst_all (s : Nat) : ∀ (ws : List Wy.R) (l : Int), ws.foldl (lstS s) l = ((ws.filter (fun x => hasB s x.ad)).map (·.cs)).foldl (stpG (fun b => b == 0)) l
  | [], l => rfl
  | x :: t, l => by
    rw [List.foldl_cons, lst_all s t]
    cases h : hasB s x.ad
    · rw [List.filter_cons_of_neg (by rw [h]; simp)]
      have : lstS s l x = l := by unfold lstS; rw [h]; rfl
      rw [this]
    · rw [List.filter_cons_of_pos (by rw [h])]
      have : lstS s l x = stpG (fun b => b == 0) l x.cs := by unfold lstS stpG; rw [h]; rfl
      rw [this]; rfl
def ownL (ls : List Lk.R) (addr now : Int) : List Int := match ls.find? (ownB addr now) with | some m => [m.ci] | none => []
theorem own_fold (ls : List Lk.R) (addr now : Int) : (ownL ls addr now).foldl (stpG (fun b => b == 0)) 0 = ownV ls addr now := by
  unfold ownL ownV
  cases ls.find? (ownB addr now) <;> rfl
/-- The program's least cost and the model's. -/
theorem cost_same {f : Int → Int → Option R} {ls : List Lk.R} {addr now : Int} {s : Nat} {so : List Int} (hok : Ln.linksB ls = true) (hval : ∀ v, 0 ≤ ((f v addr).getD R.zero).val) (hso : ∀ m ∈ ls, hasB s m.ad = so.contains m.ad) :
    (costV f ls addr now so ls.length = -1 ∧ lstV s (ownV ls addr now) (wayV f ls addr now ls.length) = 0) ∨ (1 ≤ costV f ls addr now so ls.length ∧ costV f ls addr now so ls.length = lstV s (ownV ls addr now) (wayV f ls addr now ls.length)) := by
  unfold costV lstV wayV
  rw [List.take_length, cost_all, lst_all, ← own_fold, ← List.foldl_append]
  have hci : ∀ m ∈ ls, 1 ≤ m.ci := fun m hm => by
    obtain ⟨i, hi, rfl⟩ := List.getElem_of_mem hm
    have := (Ln.ok_ci (Ri.all_ok hok hi)).1
    rw [List.getD_eq_getElem?_getD, List.getElem?_eq_getElem hi] at this; exact this
  refine min_same (fun c hc => ?_) (fun c => ?_)
  · obtain ⟨m, hm, hc⟩ := List.mem_flatMap.1 hc
    have h1 := hci m hm
    have h2 := hval m.ad
    unfold cand at hc
    rcases List.mem_append.1 hc with h | h
    · split at h
      · rw [List.mem_singleton] at h; omega
      · cases h
    · split at h
      · rw [List.mem_singleton] at h; unfold valT at h; omega
      · cases h
  · rw [List.mem_flatMap, List.mem_append, List.mem_map]
    constructor
    · rintro ⟨m, hm, hc⟩
      unfold cand at hc
      rcases List.mem_append.1 hc with h | h
      · split at h
        · rename_i ho
          rw [List.mem_singleton] at h
          refine .inl ?_
          unfold ownL
          cases hf : ls.find? (ownB addr now) with
          | none => exact absurd ho (by have := List.find?_eq_none.1 hf m hm; exact this)
          | some m' =>
            have h1 := List.find?_some hf
            have h2 := List.mem_of_find?_eq_some hf
            have e : m' = m := by
              unfold ownB at h1 ho
              rw [Bool.and_eq_true] at h1 ho
              have ea : m'.ad = m.ad := (eq_of_beq h1.1).trans (eq_of_beq ho.1).symm
              obtain ⟨i, hi, rfl⟩ := List.getElem_of_mem h2
              obtain ⟨j, hj, rfl⟩ := List.getElem_of_mem hm
              have ei : ls.getD i Lk.R.zero = ls[i] := by rw [List.getD_eq_getElem?_getD, List.getElem?_eq_getElem hi]; rfl
              have ej : ls.getD j Lk.R.zero = ls[j] := by rw [List.getD_eq_getElem?_getD, List.getElem?_eq_getElem hj]; rfl
              have : i = j := by
                rcases Nat.lt_trichotomy i j with hij | hij | hij
                · have := links_up hok j i hij hj; rw [ei, ej] at this; omega
                · exact hij
                · have := links_up hok i j hij hi; rw [ei, ej] at this; omega
              subst this; rfl
            rw [e, h]; simp
        · cases h
      · split at h
        · rename_i ho
          rw [List.mem_singleton] at h
          rw [Bool.and_eq_true] at ho
          refine .inr ⟨wayR f addr m, ?_, h.symm⟩
          rw [List.mem_filter]
          refine ⟨List.mem_map.2 ⟨m, List.mem_filter.2 ⟨hm, ho.1⟩, rfl⟩, ?_⟩
          show hasB s m.ad = true
          rw [hso m hm]; exact ho.2
        · cases h
    · rintro (h | ⟨x, hx, rfl⟩)
      · unfold ownL at h
        cases hf : ls.find? (ownB addr now) with
        | none => rw [hf] at h; cases h
        | some m =>
          rw [hf, List.mem_singleton] at h
          refine ⟨m, List.mem_of_find?_eq_some hf, ?_⟩
          unfold cand
          rw [if_pos (List.find?_some hf), h]; simp
      · rw [List.mem_filter] at hx
        obtain ⟨m, hm, rfl⟩ := List.mem_map.1 hx.1
        rw [List.mem_filter] at hm
        refine ⟨m, hm.1, ?_⟩
        have h2 : hasB s m.ad = true := hx.2
        unfold cand
        rw [hm.2, ← hso m hm.1, h2]
        exact List.mem_append.2 (.inr (by simp [wayR, valT]))
theorem links_mem {ls : List Lk.R} (hok : Ln.linksB ls = true) : ∀ m ∈ ls, 1 ≤ m.ad ∧ m.ad ≤ 8 := fun m hm => by
  obtain ⟨i, hi, rfl⟩ := List.getElem_of_mem hm
  have := Ln.ok_ad (Ri.all_ok hok hi)
  rw [List.getD_eq_getElem?_getD, List.getElem?_eq_getElem hi] at this; exact this
theorem has_every {ls : List Lk.R} (hok : Ln.linksB ls = true) : ∀ m ∈ ls, hasB 65535 m.ad = (allL ls ls.length).contains m.ad := fun m hm => by
  have h := links_mem hok m hm
  rw [has_all]
  unfold inB
  rw [decide_eq_true h.1, decide_eq_true h.2]
  symm
  rw [Bool.and_self, List.contains_iff_mem]
  unfold allL
  rw [List.take_length]
  exact List.mem_map.2 ⟨m, hm, rfl⟩
theorem has_some {ls : List Lk.R} {rs : List Int} (hok : Ln.linksB ls = true) : ∀ m ∈ ls, hasB (gL rs) m.ad = rs.contains m.ad := fun m hm => gL_has (links_mem hok m hm)
/-- The costs differ where the model's do. -/
theorem diff_same {x y a b : Int} (h1 : (x = -1 ∧ a = 0) ∨ (1 ≤ x ∧ x = a)) (h2 : (y = -1 ∧ b = 0) ∨ (1 ≤ y ∧ y = b)) : (a != b) = (x != y) := by
  rw [Bool.eq_iff_iff]
  simp only [bne_iff_ne, ne_eq]
  omega
theorem vals_ok {ms : List R} (h : twoB ms = true) (addr : Int) : ∀ v, 0 ≤ ((findT ms v addr).getD R.zero).val ∧ ((findT ms v addr).getD R.zero).val ≤ 1073741824 := fun v => find_val (two_set h) v addr
set_option maxRecDepth 100000 in
set_option maxHeartbeats 8000000 in
theorem implKeeps (a : Option Addr) (ms : List R) (cap : Nat) (b : Option Addr) (ls : List Lk.R) (capl : Nat) (me now : Int) (b2 : Option Addr) (rs : List Int) (capr : Nat) (w : World) (hm : ms.length ≤ 1048576) (hl : ls.length ≤ 1048576) (hrl : rs.length ≤ 1048576) (hr : RM w a ms) (hr' : Lk.RM w b ls) (hrr : In.RM w b2 rs) :
    Calls Try.prog 26 #[.slice a ms.length cap, .slice b ls.length capl, .int .i64 me, .int .i64 now, .slice b2 rs.length capr] w fun e w' => e = .returned (.tuple #[.bool (keepA ms ls me now rs), .int .i64 (codeM ms ls rs)]) ∧ Below w.heap.size w w' := by
  have HRC := hide (fun W h1 h2 => relaysCode a ms cap b ls capl b2 rs capr W hm hl hrl h1 h2)
  have HR := hide hr
  have HL := hide hr'
  have HRR := hide hrr
  clear hr hr' hrr
  by_cases hc : codeM ms ls rs = 0
  rotate_left
  · have h1 : keepA ms ls me now rs = false := by unfold keepA; rw [decide_eq_false hc]; rfl
    rw [h1]
    clear h1
    generalize hcd : codeM ms ls rs = cd at *
    clear hcd
    have q1 : (cd != 0) = true := by simpa using hc
    go_enter Try.func26, Try.ntmps26
    go_wp2_with fail
    refine (unhide HRC _ (unhide HR) (unhide HL)).mono ?_
    rintro e w1 ⟨rfl, b1⟩
    have HB1 := hide b1
    clear b1
    go_wp2_with fail
    go_ret2
    exact ⟨rfl, unhide HB1⟩
  have hr8 := (codeM_zero hc).2
  have HOK := hide (codeTL_ok (codeM_zero hc).1)
  have h1 : keepA ms ls me now rs = keepN (findT ms) ls me now rs 8 := by unfold keepA; rw [decide_eq_true hc]; rfl
  rw [h1]
  rw [hc] at HRC ⊢
  clear hc h1
  have HKS := hide (fun n => keep_succ (f := findT ms) (ls := ls) (me := me) (now := now) (rs := rs) (n := n))
  have HKN := hide (fun n (hn : n < 8) h => keep_no (f := findT ms) (ls := ls) (me := me) (now := now) (rs := rs) (n := n) hn h)
  have HDS : Hid (∀ x : Int, (lstV (gL rs) (ownV ls x now) (wayV (findT ms) ls x now ls.length) != lstV 65535 (ownV ls x now) (wayV (findT ms) ls x now ls.length)) = (costV (findT ms) ls x now rs ls.length != costV (findT ms) ls x now (allL ls ls.length) ls.length)) := hide (fun x => diff_same (cost_same (unhide HOK).2 (fun v => (vals_ok (unhide HOK).1 x v).1) (has_some (unhide HOK).2)) (cost_same (unhide HOK).2 (fun v => (vals_ok (unhide HOK).1 x v).1) (has_every (unhide HOK).2)))
  have hgl := gL_lt rs
  go_enter Try.func26, Try.ntmps26
  go_wp2_with fail
  refine (unhide HRC _ (unhide HR) (unhide HL)).mono ?_
  rintro e w1 ⟨rfl, b1⟩
  have HB1 := hide b1
  have HR1 := hide ((unhide HR).below b1)
  have HL1 := hide ((unhide HL).below b1)
  have HRR1 := hide ((unhide HRR).below b1)
  clear b1
  go_wp2_with fail
  refine (tuplesByHop _ ms cap _ (unhide HOK).1 (unhide HR1)).mono ?_
  rintro e w2 ⟨bm, rfl, hbm, om2, b2'⟩
  have HB2 := hide ((unhide HB1).trans (b2'.mono (unhide HB1).size))
  have HM2 := hide om2
  have HL2 := hide ((unhide HL1).below b2')
  have HRR2 := hide ((unhide HRR1).below b2')
  clear b2' om2
  go_wp2_with fail
  refine (groupOf b2 rs capr _ (by omega) (unhide HRR2)).mono ?_
  rintro e w3 ⟨rfl, hw3⟩
  rw [hw3]
  clear hw3
  go_wp2_with fail
  go_loopw [15] (fun i wr => ∃ j : Nat, j ≤ 8 ∧ i = .int .i64 ((j : Int) + 1) ∧ Hid (keepN (findT ms) ls me now rs j = true) ∧ Hid (Below w2.heap.size w2 wr)) (fun i _ => 9 - (intOf i).toNat)
  case atStart => exact ⟨0, by omega, rfl, hide rfl, hide (Below.refl _ _)⟩
  case round =>
    obtain ⟨j, hj, rfl, hkp, hbl⟩ := hrel
    by_cases hlt : (j : Int) + 1 ≤ 8
    · have HKJ := hide (unhide HKS j)
      rw [unhide hkp] at HKJ
      have HKF := hide (unhide HKN j (by omega))
      have HKB : Hid (keepB (findT ms) ls me now rs ((j : Int) + 1) = (!((j : Int) + 1 != me) || !(costV (findT ms) ls ((j : Int) + 1) now rs ls.length != costV (findT ms) ls ((j : Int) + 1) now (allL ls ls.length) ls.length))) := hide rfl
      have HDJ := hide (unhide HDS ((j : Int) + 1))
      cases hme : ((j : Int) + 1 != me)
      · have HE : Hid (keepN (findT ms) ls me now rs (j + 1) = true) := hide (by rw [unhide HKJ, unhide HKB, hme]; rfl)
        clear HKJ HKF HKB HDJ
        go_wp2_with fail
        go_roundw
        case rel => exact ⟨j + 1, by omega, by go_num, HE, hbl⟩
        case measure => simp [intOf]; omega
      have HWK : Hid ((Lit.int .i64 ((j : Int) + 1)).wf = true) := hide (WalkArith.wf_i64 ⟨by omega, by omega⟩)
      have HMr := hide ((unhide HM2).below (unhide hbl))
      have HLr := hide ((unhide HL2).below (unhide hbl))
      go_wp2_with fail
      refine (leastCost bm ms.length (findT ms) _ ls capl ((j : Int) + 1) now (gL rs) _ (by omega) (unhide HWK) (unhide HOK).2 (vals_ok (unhide HOK).1 _) (unhide HMr) (unhide HLr)).mono ?_
      rintro e w4 ⟨rfl, b4⟩
      have HB4 := hide ((unhide hbl).trans (b4.mono (unhide hbl).size))
      have HM4 := hide ((unhide HMr).below b4)
      have HL4 := hide ((unhide HLr).below b4)
      clear b4
      generalize lstV (gL rs) (ownV ls ((j : Int) + 1) now) (wayV (findT ms) ls ((j : Int) + 1) now ls.length) = l1 at *
      go_wp2_with fail
      refine (leastCost bm ms.length (findT ms) _ ls capl ((j : Int) + 1) now 65535 _ (by omega) (unhide HWK) (unhide HOK).2 (vals_ok (unhide HOK).1 _) (unhide HM4) (unhide HL4)).mono ?_
      rintro e w5 ⟨rfl, b5⟩
      have HB5 := hide ((unhide HB4).trans (b5.mono (unhide HB4).size))
      clear b5
      generalize lstV 65535 (ownV ls ((j : Int) + 1) now) (wayV (findT ms) ls ((j : Int) + 1) now ls.length) = l2 at *
      cases hd : (l1 != l2)
      · have HE : Hid (keepN (findT ms) ls me now rs (j + 1) = true) := hide (by rw [unhide HKJ, unhide HKB, ← unhide HDJ, hd]; simp)
        clear HKJ HKF HKB HDJ
        go_wp2_with fail
        go_roundw
        case rel => exact ⟨j + 1, by omega, by go_num, HE, HB5⟩
        case measure => simp [intOf]; omega
      · have HE : Hid (false = keepN (findT ms) ls me now rs 8) := hide (unhide HKF (by rw [unhide HKB, ← unhide HDJ, hd, hme]; rfl)).symm
        have HBf := hide ((unhide HB2).trans ((unhide HB5).mono (unhide HB2).size))
        clear HKJ HKF HKB HDJ
        go_wp2_with fail
        go_ret2
        exact ⟨by rw [← unhide HE]; rfl, unhide HBf⟩
    · obtain rfl : j = 8 := by omega
      have HBf := hide ((unhide HB2).trans ((unhide hbl).mono (unhide HB2).size))
      go_wp2_with fail
      go_ret2
      exact ⟨by rw [unhide hkp]; rfl, unhide HBf⟩
end Wa
end Go.Proofs.Ytpknahhdapmcoac
