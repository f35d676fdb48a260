/-
  The program's contracts: the ways to an address by one neighbor; what its own link costs; the least cost.
-/
import Derived.Test.YtpknahhdapmcoaoGrpG
import Derived.Test.YtpknahhdapmcoaoRecTwoWay
namespace Go.Proofs.Ytpknahhdapmcoao
open Go.ChangeShapes Go.WideShapes Go.ChangeAt Go.RowKit
set_option linter.unusedVariables false
set_option linter.unusedSimpArgs false
attribute [local go_sem ↓] Go.wp_at_zero Go.wp_at_succ
namespace Wa
open W1 Tu St Tw Mr Mt Gp
theorem own_below {w w' : World} {base : Nat} {v : Value} {n : Nat} {xs : List Value} {t sz : Nat} (h : w.ownsRow base t sz v n xs) (hb : Below w.heap.size w w') : w'.ownsRow base t sz v n xs := by
  refine h.kept (row := none) ⟨hb.os, hb.tape, hb.output, hb.size, fun k hk _ => hb.block k hk⟩ ?_
  cases v.ownBlock
  · exact .inl rfl
  · exact .inr (by simp)
/-- The way by a link; the ways by the first j. -/
def wayR (f : Int → Int → Option R) (addr : Int) (m : Lk.R) : Wy.R := ⟨m.ad, m.hd, m.sy, m.ci, m.co, m.wl, m.ci + ((f m.ad addr).getD R.zero).val⟩
def wayV (f : Int → Int → Option R) (ls : List Lk.R) (addr now : Int) (j : Nat) : List Wy.R := ((ls.take j).filter (viaOk f addr now)).map (wayR f addr)
theorem way_yes {f : Int → Int → Option R} {ls : List Lk.R} {addr now : Int} {j : Nat} (h : j < ls.length) (hs : viaOk f addr now (ls.getD j Lk.R.zero) = true) : wayV f ls addr now (j + 1) = wayV f ls addr now j ++ [wayR f addr (ls.getD j Lk.R.zero)] := by
  unfold wayV; rw [ls_take h, List.filter_append, List.filter_cons_of_pos hs, List.map_append]; rfl
theorem way_no {f : Int → Int → Option R} {ls : List Lk.R} {addr now : Int} {j : Nat} (h : j < ls.length) (hs : viaOk f addr now (ls.getD j Lk.R.zero) = false) : wayV f ls addr now (j + 1) = wayV f ls addr now j := by
  unfold wayV; rw [ls_take h, List.filter_append, List.filter_cons_of_neg (by rw [hs]; simp)]; simp
theorem way_len (f : Int → Int → Option R) (ls : List Lk.R) (addr now : Int) (j : Nat) : (wayV f ls addr now j).length ≤ j := by
  unfold wayV; rw [List.length_map]
  have := List.length_filter_le (viaOk f addr now) (ls.take j)
  have := List.length_take_le j ls
  omega
theorem via_has {f : Int → Int → Option R} {ls : List Lk.R} {addr now : Int} {j : Nat} (hb : Ln.linksB ls = true) (h : j < ls.length) : (viaL f ls addr now ls.length).contains (ls.getD j Lk.R.zero).ad = viaOk f addr now (ls.getD j Lk.R.zero) := by
  rw [Bool.eq_iff_iff, List.contains_iff_mem]
  unfold viaL
  rw [List.take_length, List.mem_map]
  constructor
  · rintro ⟨m, hm, e⟩
    rw [List.mem_filter] at hm
    obtain ⟨i, hi, rfl⟩ := List.getElem_of_mem hm.1
    have ei : ls.getD i Lk.R.zero = ls[i] := by rw [List.getD_eq_getElem?_getD, List.getElem?_eq_getElem hi]; rfl
    have : i = j := by
      rcases Nat.lt_trichotomy i j with hij | hij | hij
      · have := links_up hb j i hij h; rw [ei] at this; omega
      · exact hij
      · have := links_up hb i j hij hi; rw [ei] at this; omega
    subst this
    rw [ei]; exact hm.2
  · intro hv
    refine ⟨ls.getD j Lk.R.zero, List.mem_filter.2 ⟨?_, hv⟩, rfl⟩
    rw [List.getD_eq_getElem?_getD, List.getElem?_eq_getElem h]; exact List.getElem_mem h
theorem gL_has {L : List Int} {a : Int} (h : 1 ≤ a ∧ a ≤ 8) : hasB (gL L) a = L.contains a := by
  unfold gL
  rw [has_gN]
  unfold inB
  rw [decide_eq_true h.1, decide_eq_true h.2]; rfl
theorem field_run (ke ti va : Int) (W : World) : (Instr.field 50 (.agg #[.int .i64 ke, .int .i64 ti, .int .i64 va]) 2).run Try.prog W = .ok (.int .i64 va) W := by kernel_rfl
set_option maxRecDepth 100000 in
set_option maxHeartbeats 8000000 in
theorem waysTo (bm q : Nat) (f : Int → Int → Option R) (a : Option Addr) (ls : List Lk.R) (cap : Nat) (addr now : Int) (w : World) (hwa : (Lit.int .i64 addr).wf = true) (hok : Ln.linksB ls = true) (hval : ∀ v, 0 ≤ ((f v addr).getD R.zero).val ∧ ((f v addr).getD R.zero).val ≤ 1073741824) (hom : OM w bm q f) (hr : Lk.RM w a ls) :
    Calls Try.prog 58 #[.map (some bm), .slice a ls.length cap, .int .i64 addr, .int .i64 now] w fun e w' => ∃ v, e = .returned v ∧ Below w.heap.size w w' ∧ Wy.LstV w' v (wayV f ls addr now ls.length) w.heap.size w'.heap.size := by
  have HR := hide hr
  have HOM := hide hom
  have HWA := hide hwa
  have HOK := hide hok
  have HVA := hide hval
  have h8 := Ln.links_len hok
  have hvl := viaL_len f ls addr now ls.length
  clear hr hom hwa hok hval
  have O0 : Hid (∀ W : World, W.ownsRow W.heap.size 86 7 (.slice none 0 0) (wayV f ls addr now 0).length (Wy.flat (wayV f ls addr now 0))) := hide (fun W => Wy.own_nil W W.heap.size)
  have HVH := hide (fun j (h : j < ls.length) => via_has (f := f) (addr := addr) (now := now) (unhide HOK) h)
  go_enter Try.func58, Try.ntmps58
  go_wp2_with fail
  refine (viasOf bm q f _ ls cap addr now _ (unhide HWA) (unhide HOK) (unhide HOM) (unhide HR)).mono ?_
  rintro e w2 ⟨v2, rfl, b2, hl2⟩
  obtain ⟨a2, c2, rfl, l2⟩ := hl2
  have HB2 := hide b2
  have HR2 := hide ((unhide HR).below b2)
  have HM2 := hide ((unhide HOM).below b2)
  have HL2 := hide l2.rm
  clear b2 l2
  generalize viaL f ls addr now ls.length = vs at *
  generalize hN : ls.length = n at *
  have HN := hide hN
  clear hN
  go_wp2_with fail
  refine (groupOf a2 vs c2 _ (by omega) (unhide HL2)).mono ?_
  rintro e w3 ⟨rfl, hw3⟩
  rw [hw3]
  clear hw3
  have O2 := hide (unhide O0 w2)
  have hgl := gL_lt vs
  go_wp2_with fail
  go_loopw [10, 21] (fun v i wr => ∃ j : Nat, j ≤ n ∧ i = .int .i64 j ∧ Hid (wr.ownsRow w2.heap.size 86 7 v (wayV f ls addr now j).length (Wy.flat (wayV f ls addr now j))) ∧ Hid (Below w2.heap.size w2 wr)) (fun _ i _ => n - (intOf i).toNat)
  case atStart => exact ⟨0, by omega, rfl, O2, hide (Below.refl _ _)⟩
  case round =>
    obtain ⟨j, hj, rfl, how, hbl⟩ := hrel
    by_cases hlt : (j : Int) < (n : Int)
    · have k0 : (0 : Int) ≤ (j : Int) := by omega
      have hlen : j < ls.length := by rw [unhide HN]; omega
      obtain ⟨g, off, rfl⟩ := (unhide HR).form (by omega)
      obtain ⟨c0, c1, c2, c3, c4, c5⟩ := ((unhide HR2).below (unhide hbl)).at hlen
      have hbs := (unhide hbl).size
      have had := Ln.ok_ad (Ri.all_ok (unhide HOK) hlen)
      have hci := Ln.ok_ci (Ri.all_ok (unhide HOK) hlen)
      have hvh := unhide HVH j (by omega)
      have HY := hide (fun (h : viaOk f addr now (ls.getD j Lk.R.zero) = true) => way_yes hlen h)
      have HZ := hide (fun (h : viaOk f addr now (ls.getD j Lk.R.zero) = false) => way_no hlen h)
      generalize ls.getD j Lk.R.zero = m at *
      have hfl := way_len f ls addr now j
      have HBA := hide ((unhide hbl).alloc hbs (.cells #[.int .i64 m.ad, .int .i64 m.hd, .int .i64 m.sy, .int .i64 m.ci, .int .i64 m.co, .int .i64 m.wl] 54))
      have HOA := hide ((unhide how).alloc (.cells #[.int .i64 m.ad, .int .i64 m.hd, .int .i64 m.sy, .int .i64 m.ci, .int .i64 m.co, .int .i64 m.wl] 54))
      have HX := hide (Ln.bx_new wr m 54)
      have HWD : Hid ((Lit.int .i64 m.ad).wf = true) := hide (WalkArith.wf_i64 ⟨by omega, by omega⟩)
      have HHS : Hid (hasB (gL vs) m.ad = viaOk f addr now m) := hide (by rw [gL_has had]; exact hvh)
      clear hvh
      obtain ⟨kb, hkb⟩ : ∃ kb, viaOk f addr now m = kb := ⟨_, rfl⟩
      rw [hkb] at HY HZ HHS
      clear hkb
      go_wp2_with fail
      generalize hW : wr.alloc (.cells #[.int .i64 m.ad, .int .i64 m.hd, .int .i64 m.sy, .int .i64 m.ci, .int .i64 m.co, .int .i64 m.wl] 54) = W0 at *
      clear hW
      refine (has (gL vs) m.ad _ (by omega)).mono ?_
      rintro e w4 ⟨rfl, b4⟩
      rw [unhide HHS]
      have HB4 := hide ((unhide HBA).trans (b4.mono (unhide HBA).size))
      have HO4 := hide (own_below (unhide HOA) b4)
      have HX4 := hide ((unhide HX).below b4)
      have hs4 := (unhide HB4).size
      clear b4 c0 c1 c2 c3 c4 c5
      obtain ⟨d0, d1, d2, d3, d4, d5⟩ := unhide HX4
      cases kb
      · have HTF := hide (unhide HZ rfl)
        have HO : Hid (w4.ownsRow w2.heap.size 86 7 u10 (wayV f ls addr now (j + 1)).length (Wy.flat (wayV f ls addr now (j + 1)))) := hide (by rw [unhide HTF]; exact unhide HO4)
        go_wp2_with fail
        go_roundw
        case rel => exact ⟨j + 1, by omega, by go_num, HO, HB4⟩
        case measure => simp [intOf]; omega
      · have HTF := hide (unhide HY rfl)
        have hvb := unhide HVA m.ad
        obtain ⟨T, hT⟩ : ∃ T, (f m.ad addr).getD R.zero = T := ⟨_, rfl⟩
        have hwr : wayR f addr m = ⟨m.ad, m.hd, m.sy, m.ci, m.co, m.wl, m.ci + T.val⟩ := by unfold wayR; rw [hT]
        rw [hwr] at HTF
        clear hwr
        obtain ⟨ke, ti, va⟩ := T
        have HT := hide hT
        rw [hT] at hvb
        clear hT
        dsimp only at hvb HTF
        have HM4 := hide ((unhide HM2).below (unhide HB4))
        have hsum : IntKind.i64.wrap (m.ci + va) = m.ci + va := by rw [IntKind.wrap_i64]; omega
        have hfd : ∀ W : World, (Instr.field 50 (.agg #[.int .i64 ke, .int .i64 ti, .int .i64 va]) 2).run Try.prog W = .ok (.int .i64 va) W := fun W => field_run ke ti va W
        have BD : Below w4.heap.size w4 w4.drew := (Below.refl _ _).drew
        have HS : Hid (∀ w', Below w4.heap.size w4 w' → Ln.Bx w' wr.heap.size m) := hide (fun w' hb => (unhide HX4).below hb)
        clear HX HX4 d0 d1 d2 d3 d4 d5
        go_wp2_with fail
        refine wp_region_noPanic ?_
        refine wp_region_held_drew (S := fun w' => w'.cell? ⟨wr.heap.size, 0, none⟩ = some (.int .i64 m.ad) ∧ w'.cell? ⟨wr.heap.size, 1, none⟩ = some (.int .i64 m.hd) ∧ w'.cell? ⟨wr.heap.size, 2, none⟩ = some (.int .i64 m.sy) ∧ w'.cell? ⟨wr.heap.size, 3, none⟩ = some (.int .i64 m.ci) ∧ w'.cell? ⟨wr.heap.size, 4, none⟩ = some (.int .i64 m.co) ∧ w'.cell? ⟨wr.heap.size, 5, none⟩ = some (.int .i64 m.wl)) (by kernel_rfl) (unhide HS _ BD) (fun hHeld => ?_)
        (refine Rg.tk (i := 0) (d := 29) (v := ?_) rfl rfl (by kernel_rfl) (by kernel_rfl) (by kernel_rfl) (fun _ _ _ h => h) (by rfl) ?_ (by assumption) ?_; rotate_left; (focus (intro w0 hSw; (try dsimp only at hSw); go_simp; (try with_reducible rfl))); (try simp only [Act.put, List.setIfInBounds_toArray, List.set_cons_zero, List.set_cons_succ]))
        (refine Rg.tk (i := 1) (d := 30) (v := ?_) rfl rfl (by kernel_rfl) (by kernel_rfl) (by kernel_rfl) (fun _ _ _ h => h) (by rfl) ?_ (by assumption) ?_; rotate_left; (focus (intro w0 hSw; (try dsimp only at hSw); go_simp; (try with_reducible rfl))); (try simp only [Act.put, List.setIfInBounds_toArray, List.set_cons_zero, List.set_cons_succ]))
        (refine Rg.tk (i := 2) (d := 31) (v := ?_) rfl rfl (by kernel_rfl) (by kernel_rfl) (by kernel_rfl) (fun _ _ _ h => h) (by rfl) ?_ (by assumption) ?_; rotate_left; (focus (intro w0 hSw; (try dsimp only at hSw); go_simp; (try with_reducible rfl))); (try simp only [Act.put, List.setIfInBounds_toArray, List.set_cons_zero, List.set_cons_succ]))
        (refine Rg.tk (i := 3) (d := 32) (v := ?_) rfl rfl (by kernel_rfl) (by kernel_rfl) (by kernel_rfl) (fun _ _ _ h => h) (by rfl) ?_ (by assumption) ?_; rotate_left; (focus (intro w0 hSw; (try dsimp only at hSw); go_simp; (try with_reducible rfl))); (try simp only [Act.put, List.setIfInBounds_toArray, List.set_cons_zero, List.set_cons_succ]))
        (refine Rg.tk (i := 4) (d := 33) (v := ?_) rfl rfl (by kernel_rfl) (by kernel_rfl) (by kernel_rfl) (fun _ _ _ h => h) (by rfl) ?_ (by assumption) ?_; rotate_left; (focus (intro w0 hSw; (try dsimp only at hSw); go_simp; (try with_reducible rfl))); (try simp only [Act.put, List.setIfInBounds_toArray, List.set_cons_zero, List.set_cons_succ]))
        (refine Rg.tk (i := 5) (d := 34) (v := ?_) rfl rfl (by kernel_rfl) (by kernel_rfl) (by kernel_rfl) (fun _ _ _ h => h) (by rfl) ?_ (by assumption) ?_; rotate_left; (focus (intro w0 hSw; (try dsimp only at hSw); go_simp; (try with_reducible rfl))); (try simp only [Act.put, List.setIfInBounds_toArray, List.set_cons_zero, List.set_cons_succ]))
        (refine Rg.tk (i := 6) (d := 35) (v := ?_) rfl rfl (by kernel_rfl) (by kernel_rfl) (by kernel_rfl) (fun _ _ _ h => h) (by rfl) ?_ (by assumption) ?_; rotate_left; (focus (intro w0 hSw; (try dsimp only at hSw); go_simp; (try with_reducible rfl))); (try simp only [Act.put, List.setIfInBounds_toArray, List.set_cons_zero, List.set_cons_succ]))
        (refine Rg.tk (i := 7) (d := 36) (v := ?_) rfl rfl (by kernel_rfl) (by kernel_rfl) (by kernel_rfl) (fun _ _ _ h => h) (by rfl) ?_ (by assumption) ?_; rotate_left; (focus (intro w0 hSw; (try dsimp only at hSw); go_simp; (try with_reducible rfl))); (try simp only [Act.put, List.setIfInBounds_toArray, List.set_cons_zero, List.set_cons_succ]))
        (refine Rg.tk (i := 8) (d := 37) (v := ?_) rfl rfl (by kernel_rfl) (by kernel_rfl) (by kernel_rfl) (fun _ _ _ h => h) (by rfl) ?_ (by assumption) ?_; rotate_left; (focus (intro w0 hSw; (try dsimp only at hSw); go_simp; (try with_reducible rfl))); (try simp only [Act.put, List.setIfInBounds_toArray, List.set_cons_zero, List.set_cons_succ]))
        (refine wpAnyH_ready (rs := [9]) (by kernel_rfl) (by simp) ?_; refine AllReadyH.cons (o := _) rfl (fun K hK => ?_) AllReadyH.nil; rw [if_pos (by rfl)])
        refine wp_look1 _ _ _ 38 rfl rfl bm q f rfl ((unhide HM4).drew) m.ad addr (unhide HWD) (unhide HWA) rfl ke ti va (unhide HT) ?_
        clear hHeld
        refine hK.out _ _ (unhide HS _ BD) (fun hHeld => ?_)
        clear hK K
        (try simp only [Act.put, List.setIfInBounds_toArray, List.set_cons_zero, List.set_cons_succ])
        (refine Rg.tk (i := 10) (d := 39) (v := ?_) rfl rfl (by kernel_rfl) (by kernel_rfl) (by kernel_rfl) (fun _ _ _ h => h) (by rfl) ?_ (by assumption) ?_; rotate_left; (focus (intro w0 hSw; (try dsimp only at hSw); go_simp; (try with_reducible rfl))); (try simp only [Act.put, List.setIfInBounds_toArray, List.set_cons_zero, List.set_cons_succ]))
        (refine Rg.tk (i := 11) (d := 40) (v := ?_) rfl rfl (by kernel_rfl) (by kernel_rfl) (by kernel_rfl) (fun _ _ _ h => h) (by rfl) ?_ (by assumption) ?_; rotate_left; (focus (intro w0 hSw; (try dsimp only at hSw); go_simp; (try with_reducible rfl))); (try simp only [Act.put, List.setIfInBounds_toArray, List.set_cons_zero, List.set_cons_succ]))
        (refine Rg.tk (i := 12) (d := 41) (v := ?_) rfl rfl (by kernel_rfl) (by kernel_rfl) (by kernel_rfl) (fun _ _ _ h => h) (by rfl) ?_ (by assumption) ?_; rotate_left; (focus (intro w0 hSw; (try dsimp only at hSw); go_simp; (try with_reducible rfl))); (try simp only [Act.put, List.setIfInBounds_toArray, List.set_cons_zero, List.set_cons_succ]))
        (refine wpAnyH_ready (rs := [13]) (by kernel_rfl) (by simp) ?_; refine AllReadyH.cons (o := _) rfl (fun K hK => ?_) AllReadyH.nil; go_simp)
        have BE := BD.alloc BD.size (.cells #[.int .i64 m.ad, .int .i64 m.hd, .int .i64 m.sy, .int .i64 m.ci, .int .i64 m.co, .int .i64 m.wl, .int .i64 (m.ci + va)] 86)
        have HRW := hide (Wy.rm_new w4.drew ⟨m.ad, m.hd, m.sy, m.ci, m.co, m.wl, m.ci + va⟩)
        have HOE := hide ((own_below (unhide HO4) BD).alloc (.cells #[.int .i64 m.ad, .int .i64 m.hd, .int .i64 m.sy, .int .i64 m.ci, .int .i64 m.co, .int .i64 m.wl, .int .i64 (m.ci + va)] 86))
        clear hHeld
        refine hK.out _ _ (unhide HS _ BE) (fun hHeld => ?_)
        clear hK K
        (try simp only [Act.put, List.setIfInBounds_toArray, List.set_cons_zero, List.set_cons_succ])
        (refine wpAnyH_ready (rs := [14]) (by kernel_rfl) (by simp) ?_; refine AllReadyH.cons (o := _) rfl (fun K hK => ?_) AllReadyH.nil; rw [if_pos (by rfl)])
        refine Wy.wp_apS (unhide HOE) w4.drew.heap.size 0 1 1 [⟨m.ad, m.hd, m.sy, m.ci, m.co, m.wl, m.ci + va⟩] rfl (unhide HRW) (by simp only [List.length_cons, List.length_nil]; omega) (by simp; exact Nat.le_trans hs4 (by simp)) _ _ rfl rfl rfl rfl ?_
        intro v5 w5 o5 g5
        have HO5 : Hid (w5.ownsRow w2.heap.size 86 7 v5 (wayV f ls addr now (j + 1)).length (Wy.flat (wayV f ls addr now (j + 1)))) := hide (by rw [unhide HTF]; exact o5)
        have B5 := Wy.below_own (B := w2.heap.size) (((unhide HB4).drew).alloc (by simp; exact hs4) (.cells #[.int .i64 m.ad, .int .i64 m.hd, .int .i64 m.sy, .int .i64 m.ci, .int .i64 m.co, .int .i64 m.wl, .int .i64 (m.ci + va)] 86)) (unhide HOE) g5 (Nat.le_refl _) (by simp; omega)
        have hne : some wr.heap.size ≠ u10.ownBlock := fun e => by
          have := ((unhide how).lt wr.heap.size e.symm).2
          omega
        obtain ⟨x0, x1, x2, x3, x4, x5⟩ := unhide HS _ BE
        have HB5 := hide B5
        have y0 := g5.cell x0 hne
        have y1 := g5.cell x1 hne
        have y2 := g5.cell x2 hne
        have y3 := g5.cell x3 hne
        have y4 := g5.cell x4 hne
        have y5 := g5.cell x5 hne
        clear o5 g5 B5 hHeld x0 x1 x2 x3 x4 x5
        refine hK.out _ _ ⟨y0, y1, y2, y3, y4, y5⟩ (fun hHeld => ?_)
        clear hK K
        (try simp only [Act.put, List.setIfInBounds_toArray, List.set_cons_zero, List.set_cons_succ])
        (refine Rg.tk (i := 15) (d := 10) (v := ?_) rfl rfl (by kernel_rfl) (by kernel_rfl) (by kernel_rfl) (fun _ _ _ h => h) (by rfl) ?_ (by assumption) ?_; rotate_left; (focus (intro w0 hSw; (try dsimp only at hSw); go_simp; (try with_reducible rfl))); (try simp only [Act.put, List.setIfInBounds_toArray, List.set_cons_zero, List.set_cons_succ]))
        refine wpAnyH_done (by kernel_rfl) (NoPanic.normal ?_) _
        clear hHeld y0 y1 y2 y3 y4 y5 hne hfd
        go_wp2_with fail
        go_roundw
        case rel => exact ⟨j + 1, by omega, by go_num, HO5, HB5⟩
        case measure => simp [intOf]; omega
    · obtain rfl : j = n := by omega
      have HLs := hide ((Wy.lst_own rfl (unhide how)).mono (lo' := w.heap.size) (unhide HB2).size (Nat.le_refl _))
      have HBf := hide ((unhide HB2).trans ((unhide hbl).mono (unhide HB2).size))
      go_wp2_with fail
      go_ret
      exact ⟨_, rfl, unhide HBf, by rw [unhide HN]; exact unhide HLs⟩
/-- What an address' own link costs; 0 without one that is symmetric. -/
def ownB (addr now : Int) (m : Lk.R) : Bool := (m.ad == addr) && (Ln.statusV m now == 2)
def ownV (ls : List Lk.R) (addr now : Int) : Int := match ls.find? (ownB addr now) with | some m => m.ci | none => 0
theorem own_find {ls : List Lk.R} {addr now : Int} {j : Nat} (h : j < ls.length) : (ls.drop j).find? (ownB addr now) = if ownB addr now (ls.getD j Lk.R.zero) = true then some (ls.getD j Lk.R.zero) else (ls.drop (j + 1)).find? (ownB addr now) := by
  rw [List.drop_eq_getElem_cons h, List.getD_eq_getElem?_getD, List.getElem?_eq_getElem h]
  simp only [Option.getD_some]
  split
  · rename_i hh; rw [List.find?_cons_of_pos hh]
  · rename_i hh; rw [List.find?_cons_of_neg hh]
set_option maxRecDepth 100000 in
set_option maxHeartbeats 4000000 in
theorem ownCost (a : Option Addr) (ls : List Lk.R) (cap : Nat) (addr now : Int) (w : World) (hl : ls.length ≤ 64) (hr : Lk.RM w a ls) :
    Calls Try.prog 61 #[.slice a ls.length cap, .int .i64 addr, .int .i64 now] w fun e w' => e = .returned (.int .i64 (ownV ls addr now)) ∧ Below w.heap.size w w' := by
  have HR := hide hr
  clear hr
  have HO : Hid (ownV ls addr now = match ls.find? (ownB addr now) with | some m => m.ci | none => 0) := hide rfl
  obtain ⟨ov, hov⟩ : ∃ ov, ownV ls addr now = ov := ⟨_, rfl⟩
  rw [hov] at HO ⊢
  clear hov
  generalize hN : ls.length = n at *
  have HN := hide hN
  clear hN
  go_enter Try.func61, Try.ntmps61
  go_wp2_with fail
  go_loopw [11] (fun i wr => ∃ j : Nat, j ≤ n ∧ i = .int .i64 j ∧ Hid (ls.find? (ownB addr now) = (ls.drop j).find? (ownB addr now)) ∧ Hid (Below w.heap.size w wr)) (fun i _ => n - (intOf i).toNat)
  case atStart => exact ⟨0, by omega, rfl, hide rfl, hide (Below.refl _ _)⟩
  case round =>
    obtain ⟨j, hj, rfl, hfd, hbl⟩ := hrel
    by_cases hlt : (j : Int) < (n : Int)
    · have k0 : (0 : Int) ≤ (j : Int) := by omega
      have hlen : j < ls.length := by rw [unhide HN]; omega
      obtain ⟨g, off, rfl⟩ := (unhide HR).form (by omega)
      obtain ⟨c0, c1, c2, c3, c4, c5⟩ := ((unhide HR).below (unhide hbl)).at hlen
      have hbs := (unhide hbl).size
      have HST := hide (own_find (addr := addr) (now := now) hlen)
      generalize ls.getD j Lk.R.zero = m at *
      have HBA := hide ((unhide hbl).alloc hbs (.cells #[.int .i64 m.ad, .int .i64 m.hd, .int .i64 m.sy, .int .i64 m.ci, .int .i64 m.co, .int .i64 m.wl] 54))
      have HX := hide (Ln.bx_new wr m 54)
      have HOB : Hid (ownB addr now m = ((m.ad == addr) && (Ln.statusV m now == 2))) := hide rfl
      cases ha : (m.ad == addr)
      · have HE : Hid (ls.find? (ownB addr now) = (ls.drop (j + 1)).find? (ownB addr now)) := hide (by rw [unhide hfd, unhide HST, if_neg (by rw [unhide HOB, ha]; simp)])
        clear HST HOB
        go_wp2_with fail
        go_roundw
        case rel => exact ⟨j + 1, by omega, by go_num, HE, HBA⟩
        case measure => simp [intOf]; omega
      go_wp2_with fail
      generalize hW : wr.alloc (.cells #[.int .i64 m.ad, .int .i64 m.hd, .int .i64 m.sy, .int .i64 m.ci, .int .i64 m.co, .int .i64 m.wl] 54) = W0 at *
      clear hW
      refine (Ln.implStatus _ _ _ _ _ _ now _).mono ?_
      rintro e w2 ⟨rfl, b2⟩
      have HBL := hide ((unhide HBA).trans (b2.mono (unhide HBA).size))
      have HX2 := hide ((unhide HX).below b2)
      obtain ⟨d0, d1, d2, d3, d4, d5⟩ := unhide HX2
      clear b2 c0 c1 c2 c3 c4 c5
      have e2 : Ln.statusV ⟨m.ad, m.hd, m.sy, m.ci, m.co, m.wl⟩ now = Ln.statusV m now := rfl
      rw [e2]
      clear e2
      cases hs : (Ln.statusV m now == 2)
      · have HE : Hid (ls.find? (ownB addr now) = (ls.drop (j + 1)).find? (ownB addr now)) := hide (by rw [unhide hfd, unhide HST, if_neg (by rw [unhide HOB, hs]; simp)])
        clear HST HOB
        generalize Ln.statusV m now = sv at *
        go_wp2_with fail
        go_roundw
        case rel => exact ⟨j + 1, by omega, by go_num, HE, HBL⟩
        case measure => simp [intOf]; omega
      · have HE : Hid (m.ci = ov) := hide (by rw [unhide HO, unhide hfd, unhide HST, if_pos (by rw [unhide HOB, ha, hs]; rfl)])
        clear HST HOB
        generalize Ln.statusV m now = sv at *
        go_wp2_with fail
        go_ret
        exact ⟨ret_int (unhide HE), unhide HBL⟩
    · obtain rfl : j = n := by omega
      have HE : Hid (0 = ov) := hide (by rw [unhide HO, unhide hfd, ← unhide HN, List.drop_length]; rfl)
      go_wp2_with fail
      go_ret
      exact ⟨ret_int (unhide HE), unhide hbl⟩
end Wa
end Go.Proofs.Ytpknahhdapmcoao
