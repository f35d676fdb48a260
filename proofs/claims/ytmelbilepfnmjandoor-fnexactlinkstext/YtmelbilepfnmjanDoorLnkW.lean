/-
  Contracts of LinksText, the program's and the model's: a line a link, or none and the code, where the program's table of words and the library's table of powers of ten lie as their initialisers lay them. (written by mklnkw.py)
-/
import Derived.Test.YtmelbilepfnmjanDoorShelf
import Derived.Test.YtmelbilepfnmjanDoorLnkI
import Derived.Test.YtmelbilepfnmjanDoorLnkC
import Derived.Test.YtmelbilepfnmjanDoorStrs
import Derived.Lib.AppendIntMem
namespace Go.Proofs.YtmelbilepfnmjanDoor
open Go.ChangeShapes Go.WideShapes Go.ChangeAt Go.RowKit
set_option linter.unusedVariables false
set_option linter.unusedSimpArgs false
attribute [local go_sem ↓] Go.wp_at_zero Go.wp_at_succ
attribute [local go_sem] ByteArray.size_append
namespace Ln
open W1 Lk
abbrev s32 : ByteArray := ⟨#[32]⟩
abbrev wd0 : ByteArray := ⟨#[108, 111, 115, 116]⟩
abbrev wd1 : ByteArray := ⟨#[104, 101, 97, 114, 100]⟩
abbrev wd2 : ByteArray := ⟨#[115, 121, 109]⟩
/-- The words of a status. -/
def wd (k : Nat) : ByteArray := if k = 0 then wd0 else if k = 1 then wd1 else wd2
def dg (n : Int) : ByteArray := Di.dig n.toNat
/-- A link's line. -/
def lnT (now : Int) (m : R) : ByteArray := dg m.ad ++ s32 ++ wd (statusV m now).toNat ++ s32 ++ dg m.ci ++ s32 ++ dg m.co
def txtL (now : Int) (ms : List R) (j : Nat) : List ByteArray := (ms.take j).map (lnT now)
def txtA (ms : List R) (now : Int) : List ByteArray := if codeL ms = 0 then txtL now ms ms.length else []
theorem wd_size (k : Nat) : (wd k).size ≤ 5 := by unfold wd; split <;> (try split) <;> decide
theorem dg_size {n : Int} (h : n ≤ 99999999) : (dg n).size ≤ 8 := Di.dig_size8 _ (by omega)
theorem txtL_succ {now : Int} {ms : List R} {j : Nat} (h : j < ms.length) : txtL now ms (j + 1) = txtL now ms j ++ [lnT now (ms.getD j R.zero)] := by
  unfold txtL
  rw [List.take_add_one, List.getElem?_eq_getElem h, List.map_append, List.getD_eq_getElem?_getD, List.getElem?_eq_getElem h]; rfl
theorem txtL_len (now : Int) (ms : List R) (j : Nat) : (txtL now ms j).length ≤ j := by unfold txtL; rw [List.length_map]; exact List.length_take_le _ _
theorem txt_len (ms : List R) (now : Int) : (txtA ms now).length ≤ ms.length := by
  unfold txtA; split
  · exact txtL_len _ _ _
  · exact Nat.zero_le _
/-- The tables lie where the program's and the library's variables are. -/
abbrev TabP (w : World) : Prop := Lib.TabIs Tryd.prog w "internal/strconv.uint64pow10" .u64 Lib.pow10Tab
def TabW (w : World) (G : Nat) : Prop := w.cell? ⟨G, 0, none⟩ = some (.string wd0) ∧ w.cell? ⟨G, 1, none⟩ = some (.string wd1) ∧ w.cell? ⟨G, 2, none⟩ = some (.string wd2)
theorem TabW.below {w w' : World} {G : Nat} (h : TabW w G) (hb : Below w.heap.size w w') : TabW w' G := by
  have hg : G < w.heap.size := World.block_lt_of_cell? _ _ h.1
  obtain ⟨h0, h1, h2⟩ := h
  exact ⟨(hb.cell (p := ⟨G, 0, none⟩) hg).trans h0, (hb.cell (p := ⟨G, 1, none⟩) hg).trans h1, (hb.cell (p := ⟨G, 2, none⟩) hg).trans h2⟩
theorem TabW.at {w : World} {G k : Nat} (h : TabW w G) (hk : k ≤ 2) : w.cell? ⟨G, k, none⟩ = some (.string (wd k)) := by
  have h3 : k = 0 ∨ k = 1 ∨ k = 2 := by omega
  rcases h3 with rfl | rfl | rfl
  · exact h.1
  · exact h.2.1
  · exact h.2.2
theorem tab_new (w : World) (t : Nat) : TabW (w.alloc (.cells #[.string wd0, .string wd1, .string wd2] t)) w.heap.size := by
  refine ⟨?_, ?_, ?_⟩ <;> simp [World.cell?_alloc_new]
theorem wpAnyH_strong {P : Program} {ops : Array Oper} {Q : Exit → Act → World → Prop} {md : Region.Mode} {S S' : World → Prop} (hi : ∀ w, S' w → S w) :
    ∀ {fuel : Nat} {listed : Array Bool} {a : Act} {w : World}, wpAnyH P md ops Q S' fuel listed a w → wpAnyH P md ops Q S fuel listed a w
  | 0, _, _, _, h => h
  | fuel + 1, _, _, _, h => ⟨h.1, fun i hh => wpOp_mono (fun _ _ h' => ⟨hi _ h'.1, wpAnyH_strong hi h'.2⟩) (h.2 i hh)⟩
theorem sBoxT {w : World} {b g k : Nat} {ad hd sy ci co wl : Int} {s : ByteArray} (h : Bx w b ⟨ad, hd, sy, ci, co, wl⟩) (ht : w.cell? ⟨g, k, none⟩ = some (.string s)) : (Bx w b ⟨ad, hd, sy, ci, co, wl⟩ ∧ w.cell? ⟨g, k, none⟩ = some (.string s)) ∧ w.cell? ⟨b, 0, none⟩ = some (.int .i64 ad) ∧ w.cell? ⟨b, 1, none⟩ = some (.int .i64 hd) ∧ w.cell? ⟨b, 2, none⟩ = some (.int .i64 sy) ∧ w.cell? ⟨b, 3, none⟩ = some (.int .i64 ci) ∧ w.cell? ⟨b, 4, none⟩ = some (.int .i64 co) ∧ w.cell? ⟨b, 5, none⟩ = some (.int .i64 wl) ∧ w.cell? ⟨g, k, none⟩ = some (.string s) := ⟨⟨h, ht⟩, h.1, h.2.1, h.2.2.1, h.2.2.2.1, h.2.2.2.2.1, h.2.2.2.2.2, ht⟩
theorem itoa (n : Int) (h0 : 0 ≤ n) (h1 : n ≤ 99999999) (w : World) (ht : TabP w) :
    Calls Tryd.prog 18 #[.int .i64 n] w fun e w' => e = .returned (.string (dg n)) ∧ Below w.heap.size w w' := by
  refine (Tryd.strconv_Itoa n (by omega) (by omega) w ht).mono ?_
  rintro e w' ⟨rfl, k, os, rfl⟩
  refine ⟨?_, Lib.below_grow _ _ (Nat.le_refl _) _ _⟩
  obtain ⟨u, rfl⟩ := Int.eq_ofNat_of_zero_le h0
  rw [Lib.itoa_nonneg]; rfl
theorem digs (n : Int) (h0 : 0 ≤ n) (h1 : n ≤ 99999999) (w : World) :
    Calls Tryd.prog 22 #[.int .i64 n] w fun e w' => e = .returned (.string (dg n)) ∧ Below w.heap.size w w' := by
  obtain ⟨u, rfl⟩ := Int.eq_ofNat_of_zero_le h0
  exact Di.digits8 u (by omega) w
theorem bx_kept {w w' : World} {b : Nat} {m : R} {r : Option Nat} (h : Bx w b m) (hg : w.grownBy w' r) (hne : some b ≠ r) : Bx w' b m := by
  have hb := hg.block b h.lt hne
  obtain ⟨h0, h1, h2, h3, h4, h5⟩ := h
  exact ⟨(World.cell?_of_block (a := ⟨b, 0, none⟩) hb).trans h0, (World.cell?_of_block (a := ⟨b, 1, none⟩) hb).trans h1, (World.cell?_of_block (a := ⟨b, 2, none⟩) hb).trans h2, (World.cell?_of_block (a := ⟨b, 3, none⟩) hb).trans h3, (World.cell?_of_block (a := ⟨b, 4, none⟩) hb).trans h4, (World.cell?_of_block (a := ⟨b, 5, none⟩) hb).trans h5⟩
set_option maxRecDepth 100000 in
set_option maxHeartbeats 4000000 in
theorem implText (a : Option Addr) (ms : List R) (cap : Nat) (now : Int) (w : World) (hm : ms.length ≤ 1048576) (hr : RM w a ms) (hp : TabP w) (ht : TabW w 0) :
    Calls Tryd.prog 7 #[.slice a ms.length cap, .int .i64 now] w fun e w' => ∃ v, e = .returned (.tuple #[v, .int .i64 (codeL ms)]) ∧ Below w.heap.size w w' ∧ Ss.LstV w' v (txtA ms now) w.heap.size w'.heap.size := by
  have HP := hide (Lib.tabBelow_of_tabIs hp)
  have HW : Hid (∀ w', Below w.heap.size w w' → TabW w' 0) := hide (fun w' hb => ht.below hb)
  have HR := hide hr
  clear hr hp ht
  by_cases hc : codeL ms = 0
  rotate_left
  · have h1 : txtA ms now = [] := by unfold txtA; rw [if_neg hc]
    rw [h1]
    clear h1
    generalize hcd : codeL ms = cd at *
    have HC := hide hcd
    clear hcd
    have q1 : (cd != 0) = true := by simpa using hc
    go_enter Tryd.func7, Tryd.ntmps7
    go_wp2_with fail
    refine (linksCode _ ms cap _ hm (unhide HR)).mono ?_
    rintro e w1 ⟨rfl, b1⟩
    rw [unhide HC]
    have HB1 := hide b1
    clear b1
    go_wp2_with fail
    go_ret2
    exact ⟨_, rfl, unhide HB1, Ss.lstV_nil _ _ _ _ _⟩
  have hok : linksB ms = true := by
    cases hh : linksB ms
    · unfold codeL at hc; rw [hh] at hc; split at hc <;> simp at hc
    · rfl
  have h8 := links_len hok
  have h1 : txtA ms now = txtL now ms ms.length := by unfold txtA; rw [if_pos hc]
  rw [h1, hc]
  have HC := hide hc
  have HOK := hide hok
  clear h1 hc hok
  generalize hN : ms.length = n at *
  have HN := hide hN
  clear hN
  go_enter Tryd.func7, Tryd.ntmps7
  go_wp2_with fail
  rw [← unhide HN]
  refine (linksCode _ ms cap _ (by have := unhide HN; omega) (unhide HR)).mono ?_
  rintro e w1 ⟨rfl, b1⟩
  rw [unhide HC]
  have HB1 := hide b1
  have hb1 := b1.size
  clear b1
  obtain ⟨i0, hi, hz0, hz1, hz2⟩ := Ss.infoI
  obtain ⟨wm, hmk, hmown, hmgrow⟩ := run_make_own (P := Tryd.prog) w1 w.heap.size 24 9 i0 _ 1 Tryd.underlying24 hi hz0 hz1 .i64 .i64 n (by rw [hz2]; omega) (by unfold maxLen; omega) hb1
  have OW : Hid (wm.ownsRow w.heap.size 9 1 (.slice (some ⟨w1.heap.size, 0, none⟩) 0 n) (txtL now ms 0).length (Ss.flat (txtL now ms 0))) := hide hmown
  have DM : Hid (Below w.heap.size w wm) := hide ((unhide HB1).grown hmgrow hb1 (fun k hk => by cases hk))
  clear hi hz0 hz1 hz2 hmown hmgrow
  rw [unhide HN]
  go_wp2_with fail
  clear hmk
  go_loopw [7, 21] (fun v i wr => ∃ j : Nat, j ≤ n ∧ i = .int .i64 j ∧ Hid (wr.ownsRow w.heap.size 9 1 v (txtL now ms j).length (Ss.flat (txtL now ms j))) ∧ Hid (Below w.heap.size w wr)) (fun _ i _ => n - (intOf i).toNat)
  case atStart => exact ⟨0, by omega, rfl, OW, DM⟩
  case round =>
    obtain ⟨j, hj, rfl, how, hbl⟩ := hrel
    by_cases hlt : (j : Int) < (n : Int)
    · have k0 : (0 : Int) ≤ (j : Int) := by omega
      have hlen : j < ms.length := by rw [unhide HN]; omega
      have HNO : Hid (∀ kk, u7.ownBlock = some kk → kk < wr.heap.size) := hide (fun kk h => ((unhide how).lt kk h).2)
      obtain ⟨g, off, rfl⟩ := (unhide HR).form (by omega)
      obtain ⟨c0, c1, c2, c3, c4, c5⟩ := ((unhide HR).below (unhide hbl)).at hlen
      have hbs := (unhide hbl).size
      have hok := Ri.all_ok (unhide HOK) hlen
      obtain ⟨a0, a1⟩ := ok_ad hok
      obtain ⟨i0, i1⟩ := ok_ci hok
      obtain ⟨o0, o1⟩ := ok_co hok
      have HTF := hide (txtL_succ (now := now) hlen)
      have hfl := txtL_len now ms j
      have sa := dg_size (n := (ms.getD j R.zero).ad) (by omega)
      have sc := dg_size (n := (ms.getD j R.zero).ci) (by omega)
      have so := dg_size (n := (ms.getD j R.zero).co) (by omega)
      have hsv := status_in (ms.getD j R.zero) now
      have HLN : Hid (lnT now (ms.getD j R.zero) = dg (ms.getD j R.zero).ad ++ s32 ++ wd (statusV (ms.getD j R.zero) now).toNat ++ s32 ++ dg (ms.getD j R.zero).ci ++ s32 ++ dg (ms.getD j R.zero).co) := hide rfl
      clear hok
      generalize ms.getD j R.zero = m at *
      have HSV : Hid (∀ x, statusV m now = x → statusV ⟨m.ad, m.hd, m.sy, m.ci, m.co, m.wl⟩ now = x) := hide (fun x h => h)
      obtain ⟨k, hk⟩ : ∃ k : Nat, statusV m now = (k : Int) := ⟨(statusV m now).toNat, by omega⟩
      have HSK := hide (unhide HSV _ hk)
      rw [hk, Int.toNat_natCast] at HLN
      have hk2 : k ≤ 2 := by omega
      have k1 : (0 : Int) ≤ (k : Int) := by omega
      have k3 : (k : Int) < 3 := by omega
      have sw := wd_size k
      clear hk hsv HSV
      obtain ⟨ad, hd, sy, ci, co, wl⟩ := m
      dsimp only at c0 c1 c2 c3 c4 c5 a0 a1 i0 i1 o0 o1 sa sc so HSK HLN HTF
      generalize hda : dg ad = da at *
      have HDA := hide hda
      clear hda
      generalize hdc : dg ci = dc at *
      have HDC := hide hdc
      clear hdc
      generalize hdq : dg co = dq at *
      have HDQ := hide hdq
      clear hdq
      generalize hwk : wd k = wk at *
      have HWK := hide hwk
      clear hwk
      rw [unhide HLN] at HTF
      have qq0 : ¬ (9223372036854775807 < da.size + 1) := by omega
      have qq1 : ¬ (9223372036854775807 < da.size + 1 + wk.size) := by omega
      have qq2 : ¬ (9223372036854775807 < da.size + 1 + wk.size + 1) := by omega
      have qq3 : ¬ (9223372036854775807 < da.size + 1 + wk.size + 1 + dc.size) := by omega
      have qq4 : ¬ (9223372036854775807 < da.size + 1 + wk.size + 1 + dc.size + 1) := by omega
      have qq5 : ¬ (9223372036854775807 < da.size + 1 + wk.size + 1 + dc.size + 1 + dq.size) := by omega
      have HX := hide (bx_new wr ⟨ad, hd, sy, ci, co, wl⟩ 37)
      have HBA := hide ((unhide hbl).alloc hbs (.cells #[.int .i64 ad, .int .i64 hd, .int .i64 sy, .int .i64 ci, .int .i64 co, .int .i64 wl] 37))
      have HOA := hide ((unhide how).alloc (.cells #[.int .i64 ad, .int .i64 hd, .int .i64 sy, .int .i64 ci, .int .i64 co, .int .i64 wl] 37))
      go_wp2_with fail
      generalize hW0 : wr.alloc (.cells #[.int .i64 ad, .int .i64 hd, .int .i64 sy, .int .i64 ci, .int .i64 co, .int .i64 wl] 37) = W0 at *
      clear hW0 c0 c1 c2 c3 c4 c5
      refine (implStatus ad hd sy ci co wl now _).mono ?_
      rintro e v0 ⟨rfl, d0⟩
      rw [unhide HSK]
      have Y0 := hide ((unhide HX).below d0)
      have E0 := hide ((unhide HBA).trans (d0.mono (unhide HBA).size))
      have O0 := hide (Ss.own_below (unhide HOA) d0)
      clear d0 HX HBA HOA
      have tc := (unhide HW _ (unhide E0)).at hk2
      rw [unhide HWK] at tc
      go_wp2_with fail
      clear tc
      refine wp_region_noPanic ?_
      refine wp_region_held_drew (S := fun w' => Bx w' wr.heap.size ⟨ad, hd, sy, ci, co, wl⟩ ∧ w'.cell? ⟨wr.heap.size, 0, none⟩ = some (.int .i64 ad) ∧ w'.cell? ⟨wr.heap.size, 1, none⟩ = some (.int .i64 hd) ∧ w'.cell? ⟨wr.heap.size, 2, none⟩ = some (.int .i64 sy) ∧ w'.cell? ⟨wr.heap.size, 3, none⟩ = some (.int .i64 ci) ∧ w'.cell? ⟨wr.heap.size, 4, none⟩ = some (.int .i64 co) ∧ w'.cell? ⟨wr.heap.size, 5, none⟩ = some (.int .i64 wl)) (by kernel_rfl) (sBox (unhide Y0).drew) (fun hHeld => ?_)
      (refine Rg.tk (i := 0) (d := 30) (v := ?_) rfl rfl (by kernel_rfl) (by kernel_rfl) (by kernel_rfl) (fun _ _ _ h => h) (by rfl) ?_ (by assumption) ?_; rotate_left; (focus (intro w0 hSw; (try dsimp only at hSw); go_simp; (try with_reducible rfl))); (try simp only [Act.put, List.setIfInBounds_toArray, List.set_cons_zero, List.set_cons_succ]))
      (refine Rg.tk (i := 1) (d := 31) (v := ?_) rfl rfl (by kernel_rfl) (by kernel_rfl) (by kernel_rfl) (fun _ _ _ h => h) (by rfl) ?_ (by assumption) ?_; rotate_left; (focus (intro w0 hSw; (try dsimp only at hSw); go_simp; (try with_reducible rfl))); (try simp only [Act.put, List.setIfInBounds_toArray, List.set_cons_zero, List.set_cons_succ]))
      (refine Rg.tk (i := 2) (d := 32) (v := ?_) rfl rfl (by kernel_rfl) (by kernel_rfl) (by kernel_rfl) (fun _ _ _ h => h) (by rfl) ?_ (by assumption) ?_; rotate_left; (focus (intro w0 hSw; (try dsimp only at hSw); go_simp; (try with_reducible rfl))); (try simp only [Act.put, List.setIfInBounds_toArray, List.set_cons_zero, List.set_cons_succ]))
      (refine Rg.tk (i := 5) (d := 35) (v := ?_) rfl rfl (by kernel_rfl) (by kernel_rfl) (by kernel_rfl) (fun _ _ _ h => h) (by rfl) ?_ (by assumption) ?_; rotate_left; (focus (intro w0 hSw; (try dsimp only at hSw); go_simp; (try with_reducible rfl))); (try simp only [Act.put, List.setIfInBounds_toArray, List.set_cons_zero, List.set_cons_succ]))
      (refine Rg.tk (i := 8) (d := 38) (v := ?_) rfl rfl (by kernel_rfl) (by kernel_rfl) (by kernel_rfl) (fun _ _ _ h => h) (by rfl) ?_ (by assumption) ?_; rotate_left; (focus (intro w0 hSw; (try dsimp only at hSw); go_simp; (try with_reducible rfl))); (try simp only [Act.put, List.setIfInBounds_toArray, List.set_cons_zero, List.set_cons_succ]))
      (refine Rg.tk (i := 9) (d := 39) (v := ?_) rfl rfl (by kernel_rfl) (by kernel_rfl) (by kernel_rfl) (fun _ _ _ h => h) (by rfl) ?_ (by assumption) ?_; rotate_left; (focus (intro w0 hSw; (try dsimp only at hSw); go_simp; (try with_reducible rfl))); (try simp only [Act.put, List.setIfInBounds_toArray, List.set_cons_zero, List.set_cons_succ]))
      (refine Rg.tk (i := 13) (d := 43) (v := ?_) rfl rfl (by kernel_rfl) (by kernel_rfl) (by kernel_rfl) (fun _ _ _ h => h) (by rfl) ?_ (by assumption) ?_; rotate_left; (focus (intro w0 hSw; (try dsimp only at hSw); go_simp; (try with_reducible rfl))); (try simp only [Act.put, List.setIfInBounds_toArray, List.set_cons_zero, List.set_cons_succ]))
      (refine Rg.tk (i := 14) (d := 44) (v := ?_) rfl rfl (by kernel_rfl) (by kernel_rfl) (by kernel_rfl) (fun _ _ _ h => h) (by rfl) ?_ (by assumption) ?_; rotate_left; (focus (intro w0 hSw; (try dsimp only at hSw); go_simp; (try with_reducible rfl))); (try simp only [Act.put, List.setIfInBounds_toArray, List.set_cons_zero, List.set_cons_succ]))
      have OD : Hid (v0.drew.ownsRow w.heap.size 9 1 u7 (txtL now ms j).length (Ss.flat (txtL now ms j))) := O0
      have ED := hide (unhide E0).drew
      have YD := hide (unhide Y0).drew
      clear O0 E0 Y0
      generalize hV : v0.drew = vD at *
      clear hV
      (refine wpAnyH_ready (rs := [3]) (by kernel_rfl) (by simp) ?_; refine AllReadyH.cons (o := _) rfl (fun K hK => ?_) AllReadyH.nil; go_simp)
      refine (itoa ad (by omega) (by omega) _ (unhide HP _ (unhide ED))).mono ?_
      rintro e v1 ⟨rfl, d1⟩
      rw [unhide HDA]
      have O1 := hide (Ss.own_below (unhide OD) d1)
      have E1 := hide ((unhide ED).trans (d1.mono (unhide ED).size))
      have Y1 := hide ((unhide YD).below d1)
      clear d1 hHeld OD ED YD
      refine hK.out _ _ (sBox (unhide Y1)) (fun hHeld => ?_)
      clear hK K
      (try simp only [Act.put, List.setIfInBounds_toArray, List.set_cons_zero, List.set_cons_succ])
      (refine Rg.tk (i := 4) (d := 34) (v := ?_) rfl rfl (by kernel_rfl) (by kernel_rfl) (by kernel_rfl) (fun _ _ _ h => h) (by rfl) ?_ (by assumption) ?_; rotate_left; (focus (intro w0 hSw; (try dsimp only at hSw); go_simp; (try with_reducible rfl))); (try simp only [Act.put, List.setIfInBounds_toArray, List.set_cons_zero, List.set_cons_succ]))
      (refine Rg.tk (i := 6) (d := 36) (v := ?_) rfl rfl (by kernel_rfl) (by kernel_rfl) (by kernel_rfl) (fun _ _ _ h => h) (by rfl) ?_ (by assumption) ?_; rotate_left; (focus (intro w0 hSw; (try dsimp only at hSw); go_simp; (try with_reducible rfl))); (try simp only [Act.put, List.setIfInBounds_toArray, List.set_cons_zero, List.set_cons_succ]))
      (refine Rg.tk (i := 7) (d := 37) (v := ?_) rfl rfl (by kernel_rfl) (by kernel_rfl) (by kernel_rfl) (fun _ _ _ h => h) (by rfl) ?_ (by assumption) ?_; rotate_left; (focus (intro w0 hSw; (try dsimp only at hSw); go_simp; (try with_reducible rfl))); (try simp only [Act.put, List.setIfInBounds_toArray, List.set_cons_zero, List.set_cons_succ]))
      (refine wpAnyH_ready (rs := [10]) (by kernel_rfl) (by simp) ?_; refine AllReadyH.cons (o := _) rfl (fun K hK => ?_) AllReadyH.nil; go_simp)
      refine (itoa ci (by omega) (by omega) _ (unhide HP _ (unhide E1))).mono ?_
      rintro e v2 ⟨rfl, d2⟩
      rw [unhide HDC]
      have O2 := hide (Ss.own_below (unhide O1) d2)
      have E2 := hide ((unhide E1).trans (d2.mono (unhide E1).size))
      have Y2 := hide ((unhide Y1).below d2)
      clear d2 hHeld O1 E1 Y1
      refine hK.out _ _ (sBox (unhide Y2)) (fun hHeld => ?_)
      clear hK K
      (try simp only [Act.put, List.setIfInBounds_toArray, List.set_cons_zero, List.set_cons_succ])
      (refine Rg.tk (i := 11) (d := 41) (v := ?_) rfl rfl (by kernel_rfl) (by kernel_rfl) (by kernel_rfl) (fun _ _ _ h => h) (by rfl) ?_ (by assumption) ?_; rotate_left; (focus (intro w0 hSw; (try dsimp only at hSw); go_simp; (try with_reducible rfl))); (try simp only [Act.put, List.setIfInBounds_toArray, List.set_cons_zero, List.set_cons_succ]))
      (refine Rg.tk (i := 12) (d := 42) (v := ?_) rfl rfl (by kernel_rfl) (by kernel_rfl) (by kernel_rfl) (fun _ _ _ h => h) (by rfl) ?_ (by assumption) ?_; rotate_left; (focus (intro w0 hSw; (try dsimp only at hSw); go_simp; (try with_reducible rfl))); (try simp only [Act.put, List.setIfInBounds_toArray, List.set_cons_zero, List.set_cons_succ]))
      (refine wpAnyH_ready (rs := [15]) (by kernel_rfl) (by simp) ?_; refine AllReadyH.cons (o := _) rfl (fun K hK => ?_) AllReadyH.nil; go_simp)
      refine (itoa co (by omega) (by omega) _ (unhide HP _ (unhide E2))).mono ?_
      rintro e v3 ⟨rfl, d3⟩
      rw [unhide HDQ]
      have O3 := hide (Ss.own_below (unhide O2) d3)
      have E3 := hide ((unhide E2).trans (d3.mono (unhide E2).size))
      have Y3 := hide ((unhide Y2).below d3)
      clear d3 hHeld O2 E2 Y2
      refine hK.out _ _ (sBox (unhide Y3)) (fun hHeld => ?_)
      clear hK K
      (try simp only [Act.put, List.setIfInBounds_toArray, List.set_cons_zero, List.set_cons_succ])
      (refine Rg.tk (i := 16) (d := 46) (v := ?_) rfl rfl (by kernel_rfl) (by kernel_rfl) (by kernel_rfl) (fun _ _ _ h => h) (by rfl) ?_ (by assumption) ?_; rotate_left; (focus (intro w0 hSw; (try dsimp only at hSw); go_simp; (try with_reducible rfl))); (try simp only [Act.put, List.setIfInBounds_toArray, List.set_cons_zero, List.set_cons_succ]))
      (refine wpAnyH_ready (rs := [17]) (by kernel_rfl) (by simp) ?_; refine AllReadyH.cons (o := _) rfl (fun K hK => ?_) AllReadyH.nil; go_simp)
      have OA := hide ((unhide O3).alloc (.cells #[.string (da ++ s32 ++ wk ++ s32 ++ dc ++ s32 ++ dq)] 9))
      have EA := hide ((unhide E3).alloc (unhide E3).size (.cells #[.string (da ++ s32 ++ wk ++ s32 ++ dc ++ s32 ++ dq)] 9))
      have YA := hide ((unhide Y3).below ((Below.refl _ _).alloc (Nat.le_refl _) (.cells #[.string (da ++ s32 ++ wk ++ s32 ++ dc ++ s32 ++ dq)] 9)))
      have RA : Hid (Ss.RM (v3.alloc (.cells #[.string (da ++ s32 ++ wk ++ s32 ++ dc ++ s32 ++ dq)] 9)) (some ⟨v3.heap.size, 0, none⟩) [da ++ s32 ++ wk ++ s32 ++ dc ++ s32 ++ dq]) := hide (Ss.rm_new v3 (da ++ s32 ++ wk ++ s32 ++ dc ++ s32 ++ dq))
      have hsA := (unhide EA).size
      clear hHeld
      refine hK.out _ _ (sBox (unhide YA)) (fun hHeld => ?_)
      clear hK K
      (try simp only [Act.put, List.setIfInBounds_toArray, List.set_cons_zero, List.set_cons_succ])
      (refine wpAnyH_ready (rs := [18]) (by kernel_rfl) (by simp) ?_; refine AllReadyH.cons (o := _) rfl (fun K hK => ?_) AllReadyH.nil; rw [if_pos (by rfl)])
      refine Ss.wp_apS (unhide OA) v3.heap.size 0 1 1 [da ++ s32 ++ wk ++ s32 ++ dc ++ s32 ++ dq] rfl (unhide RA) (by simp only [List.length_cons, List.length_nil]; omega) hsA _ _ rfl rfl rfl rfl ?_
      intro vB wB oB gB
      have OB : Hid (wB.ownsRow w.heap.size 9 1 vB (txtL now ms (j + 1)).length (Ss.flat (txtL now ms (j + 1)))) := hide (by rw [unhide HTF]; exact oB)
      have EB := hide (Ss.below_own (unhide EA) (unhide OA) gB (Nat.le_refl _) hsA)
      have YB := hide (bx_kept (unhide YA) gB (fun e => by have := unhide HNO _ e.symm; omega))
      clear oB gB hHeld
      refine hK.out _ _ (sBox (unhide YB)) (fun hHeld => ?_)
      clear hK K
      (try simp only [Act.put, List.setIfInBounds_toArray, List.set_cons_zero, List.set_cons_succ])
      (refine Rg.tk (i := 19) (d := 7) (v := ?_) rfl rfl (by kernel_rfl) (by kernel_rfl) (by kernel_rfl) (fun _ _ _ h => h) (by rfl) ?_ (by assumption) ?_; rotate_left; (focus (intro w0 hSw; (try dsimp only at hSw); go_simp; (try with_reducible rfl))); (try simp only [Act.put, List.setIfInBounds_toArray, List.set_cons_zero, List.set_cons_succ]))
      refine wpAnyH_done (by kernel_rfl) (NoPanic.normal ?_) _
      clear hHeld
      go_wp2_with fail
      go_roundw
      case rel => exact ⟨j + 1, by omega, by go_num, OB, EB⟩
      case measure => simp [intOf]; omega
    · obtain rfl : j = n := by omega
      have HL := hide (Ss.lst_own rfl (unhide how))
      go_wp2_with fail
      go_ret2
      exact ⟨_, rfl, unhide hbl, unhide HL⟩
set_option maxRecDepth 100000 in
set_option maxHeartbeats 8000000 in
theorem l06Text (a : Option Addr) (ms : List R) (cap : Nat) (now : Int) (w : World) (hok : linksB ms = true) (hr : RM w a ms) :
    Calls Tryd.prog 14 #[.slice a ms.length cap, .int .i64 now] w fun e w' => ∃ v, e = .returned v ∧ Below w.heap.size w w' ∧ Ss.LstV w' v (txtL now ms ms.length) w.heap.size w'.heap.size := by
  have HR := hide hr
  have h8 := links_len hok
  have HOK := hide hok
  have OW := hide (Ss.own_empty w w.heap.size (Nat.le_refl _))
  have DM := hide ((Below.refl w.heap.size w).alloc (Nat.le_refl _) (.cells #[] 9))
  clear hr hok
  generalize hN : ms.length = n at *
  have HN := hide hN
  clear hN
  go_enter Tryd.func14, Tryd.ntmps14
  go_wp2_with fail
  go_loopw [5, 6] (fun v i wr => ∃ j : Nat, j ≤ n ∧ i = .int .i64 j ∧ Hid (wr.ownsRow w.heap.size 9 1 v (txtL now ms j).length (Ss.flat (txtL now ms j))) ∧ Hid (Below w.heap.size w wr)) (fun _ i _ => n - (intOf i).toNat)
  case atStart => exact ⟨0, by omega, rfl, OW, DM⟩
  case round =>
    obtain ⟨j, hj, rfl, how, hbl⟩ := hrel
    by_cases hlt : (j : Int) < (n : Int)
    · have k0 : (0 : Int) ≤ (j : Int) := by omega
      have hlen : j < ms.length := by rw [unhide HN]; omega
      have HNO : Hid (∀ kk, u5.ownBlock = some kk → kk < wr.heap.size) := hide (fun kk h => ((unhide how).lt kk h).2)
      obtain ⟨g, off, rfl⟩ := (unhide HR).form (by omega)
      obtain ⟨c0, c1, c2, c3, c4, c5⟩ := ((unhide HR).below (unhide hbl)).at hlen
      have hbs := (unhide hbl).size
      have hok := Ri.all_ok (unhide HOK) hlen
      obtain ⟨a0, a1⟩ := ok_ad hok
      obtain ⟨i0, i1⟩ := ok_ci hok
      obtain ⟨o0, o1⟩ := ok_co hok
      have HTF := hide (txtL_succ (now := now) hlen)
      have hfl := txtL_len now ms j
      have sa := dg_size (n := (ms.getD j R.zero).ad) (by omega)
      have sc := dg_size (n := (ms.getD j R.zero).ci) (by omega)
      have so := dg_size (n := (ms.getD j R.zero).co) (by omega)
      have hsv := status_in (ms.getD j R.zero) now
      have HLN : Hid (lnT now (ms.getD j R.zero) = dg (ms.getD j R.zero).ad ++ s32 ++ wd (statusV (ms.getD j R.zero) now).toNat ++ s32 ++ dg (ms.getD j R.zero).ci ++ s32 ++ dg (ms.getD j R.zero).co) := hide rfl
      clear hok
      generalize ms.getD j R.zero = m at *
      have HSV : Hid (∀ x, statusV m now = x → statusV ⟨m.ad, m.hd, m.sy, m.ci, m.co, m.wl⟩ now = x) := hide (fun x h => h)
      obtain ⟨k, hk⟩ : ∃ k : Nat, statusV m now = (k : Int) := ⟨(statusV m now).toNat, by omega⟩
      have HSK := hide (unhide HSV _ hk)
      rw [hk, Int.toNat_natCast] at HLN
      have hk2 : k ≤ 2 := by omega
      have k1 : (0 : Int) ≤ (k : Int) := by omega
      have k3 : (k : Int) < 3 := by omega
      have sw := wd_size k
      clear hk hsv HSV
      obtain ⟨ad, hd, sy, ci, co, wl⟩ := m
      dsimp only at c0 c1 c2 c3 c4 c5 a0 a1 i0 i1 o0 o1 sa sc so HSK HLN HTF
      generalize hda : dg ad = da at *
      have HDA := hide hda
      clear hda
      generalize hdc : dg ci = dc at *
      have HDC := hide hdc
      clear hdc
      generalize hdq : dg co = dq at *
      have HDQ := hide hdq
      clear hdq
      generalize hwk : wd k = wk at *
      have HWK := hide hwk
      clear hwk
      rw [unhide HLN] at HTF
      have qq0 : ¬ (9223372036854775807 < da.size + 1) := by omega
      have qq1 : ¬ (9223372036854775807 < da.size + 1 + wk.size) := by omega
      have qq2 : ¬ (9223372036854775807 < da.size + 1 + wk.size + 1) := by omega
      have qq3 : ¬ (9223372036854775807 < da.size + 1 + wk.size + 1 + dc.size) := by omega
      have qq4 : ¬ (9223372036854775807 < da.size + 1 + wk.size + 1 + dc.size + 1) := by omega
      have qq5 : ¬ (9223372036854775807 < da.size + 1 + wk.size + 1 + dc.size + 1 + dq.size) := by omega
      have Y0 := hide (bx_new wr ⟨ad, hd, sy, ci, co, wl⟩ 37)
      have E0 := hide ((unhide hbl).alloc hbs (.cells #[.int .i64 ad, .int .i64 hd, .int .i64 sy, .int .i64 ci, .int .i64 co, .int .i64 wl] 37))
      have O0 := hide ((unhide how).alloc (.cells #[.int .i64 ad, .int .i64 hd, .int .i64 sy, .int .i64 ci, .int .i64 co, .int .i64 wl] 37))
      go_wp2_with fail
      generalize hW0 : wr.alloc (.cells #[.int .i64 ad, .int .i64 hd, .int .i64 sy, .int .i64 ci, .int .i64 co, .int .i64 wl] 37) = v0 at *
      clear hW0 c0 c1 c2 c3 c4 c5
      refine wp_region_noPanic ?_
      refine wp_region_held_drew (S := fun w' => Bx w' wr.heap.size ⟨ad, hd, sy, ci, co, wl⟩ ∧ w'.cell? ⟨wr.heap.size, 0, none⟩ = some (.int .i64 ad) ∧ w'.cell? ⟨wr.heap.size, 1, none⟩ = some (.int .i64 hd) ∧ w'.cell? ⟨wr.heap.size, 2, none⟩ = some (.int .i64 sy) ∧ w'.cell? ⟨wr.heap.size, 3, none⟩ = some (.int .i64 ci) ∧ w'.cell? ⟨wr.heap.size, 4, none⟩ = some (.int .i64 co) ∧ w'.cell? ⟨wr.heap.size, 5, none⟩ = some (.int .i64 wl)) (by kernel_rfl) (sBox (unhide Y0).drew) (fun hHeld => ?_)
      (refine Rg.tk (i := 0) (d := 19) (v := ?_) rfl rfl (by kernel_rfl) (by kernel_rfl) (by kernel_rfl) (fun _ _ _ h => h) (by rfl) ?_ (by assumption) ?_; rotate_left; (focus (intro w0 hSw; (try dsimp only at hSw); go_simp; (try with_reducible rfl))); (try simp only [Act.put, List.setIfInBounds_toArray, List.set_cons_zero, List.set_cons_succ]))
      (refine Rg.tk (i := 1) (d := 20) (v := ?_) rfl rfl (by kernel_rfl) (by kernel_rfl) (by kernel_rfl) (fun _ _ _ h => h) (by rfl) ?_ (by assumption) ?_; rotate_left; (focus (intro w0 hSw; (try dsimp only at hSw); go_simp; (try with_reducible rfl))); (try simp only [Act.put, List.setIfInBounds_toArray, List.set_cons_zero, List.set_cons_succ]))
      (refine Rg.tk (i := 2) (d := 21) (v := ?_) rfl rfl (by kernel_rfl) (by kernel_rfl) (by kernel_rfl) (fun _ _ _ h => h) (by rfl) ?_ (by assumption) ?_; rotate_left; (focus (intro w0 hSw; (try dsimp only at hSw); go_simp; (try with_reducible rfl))); (try simp only [Act.put, List.setIfInBounds_toArray, List.set_cons_zero, List.set_cons_succ]))
      (refine Rg.tk (i := 6) (d := 25) (v := ?_) rfl rfl (by kernel_rfl) (by kernel_rfl) (by kernel_rfl) (fun _ _ _ h => h) (by rfl) ?_ (by assumption) ?_; rotate_left; (focus (intro w0 hSw; (try dsimp only at hSw); go_simp; (try with_reducible rfl))); (try simp only [Act.put, List.setIfInBounds_toArray, List.set_cons_zero, List.set_cons_succ]))
      (refine Rg.tk (i := 7) (d := 26) (v := ?_) rfl rfl (by kernel_rfl) (by kernel_rfl) (by kernel_rfl) (fun _ _ _ h => h) (by rfl) ?_ (by assumption) ?_; rotate_left; (focus (intro w0 hSw; (try dsimp only at hSw); go_simp; (try with_reducible rfl))); (try simp only [Act.put, List.setIfInBounds_toArray, List.set_cons_zero, List.set_cons_succ]))
      (refine Rg.tk (i := 13) (d := 32) (v := ?_) rfl rfl (by kernel_rfl) (by kernel_rfl) (by kernel_rfl) (fun _ _ _ h => h) (by rfl) ?_ (by assumption) ?_; rotate_left; (focus (intro w0 hSw; (try dsimp only at hSw); go_simp; (try with_reducible rfl))); (try simp only [Act.put, List.setIfInBounds_toArray, List.set_cons_zero, List.set_cons_succ]))
      (refine Rg.tk (i := 14) (d := 33) (v := ?_) rfl rfl (by kernel_rfl) (by kernel_rfl) (by kernel_rfl) (fun _ _ _ h => h) (by rfl) ?_ (by assumption) ?_; rotate_left; (focus (intro w0 hSw; (try dsimp only at hSw); go_simp; (try with_reducible rfl))); (try simp only [Act.put, List.setIfInBounds_toArray, List.set_cons_zero, List.set_cons_succ]))
      (refine Rg.tk (i := 18) (d := 37) (v := ?_) rfl rfl (by kernel_rfl) (by kernel_rfl) (by kernel_rfl) (fun _ _ _ h => h) (by rfl) ?_ (by assumption) ?_; rotate_left; (focus (intro w0 hSw; (try dsimp only at hSw); go_simp; (try with_reducible rfl))); (try simp only [Act.put, List.setIfInBounds_toArray, List.set_cons_zero, List.set_cons_succ]))
      (refine Rg.tk (i := 19) (d := 38) (v := ?_) rfl rfl (by kernel_rfl) (by kernel_rfl) (by kernel_rfl) (fun _ _ _ h => h) (by rfl) ?_ (by assumption) ?_; rotate_left; (focus (intro w0 hSw; (try dsimp only at hSw); go_simp; (try with_reducible rfl))); (try simp only [Act.put, List.setIfInBounds_toArray, List.set_cons_zero, List.set_cons_succ]))
      have OD : Hid (v0.drew.ownsRow w.heap.size 9 1 u5 (txtL now ms j).length (Ss.flat (txtL now ms j))) := O0
      have ED := hide (unhide E0).drew
      have YD := hide (unhide Y0).drew
      clear O0 E0 Y0
      generalize hV : v0.drew = vD at *
      clear hV
      (refine wpAnyH_ready (rs := [3, 5]) (by kernel_rfl) (by simp) ?_; refine AllReadyH.cons (o := _) rfl (fun K hK => ?_) (AllReadyH.cons (o := _) rfl (fun K hK => ?_) AllReadyH.nil))
      · go_simp
        refine (digs ad (by omega) (by omega) _).mono ?_
        rintro e vDc ⟨rfl, dDc⟩
        rw [unhide HDA]
        have ODc := hide (Ss.own_below (unhide OD) dDc)
        have EDc := hide ((unhide ED).trans (dDc.mono (unhide ED).size))
        have YDc := hide ((unhide YD).below dDc)
        clear dDc hHeld OD ED YD
        refine hK.out _ _ (sBox (unhide YDc)) (fun hHeld => ?_)
        clear hK K
        (try simp only [Act.put, List.setIfInBounds_toArray, List.set_cons_zero, List.set_cons_succ])
        (refine Rg.tk (i := 4) (d := 23) (v := ?_) rfl rfl (by kernel_rfl) (by kernel_rfl) (by kernel_rfl) (fun _ _ _ h => h) (by rfl) ?_ (by assumption) ?_; rotate_left; (focus (intro w0 hSw; (try dsimp only at hSw); go_simp; (try with_reducible rfl))); (try simp only [Act.put, List.setIfInBounds_toArray, List.set_cons_zero, List.set_cons_succ]))
        (refine wpAnyH_ready (rs := [5, 8]) (by kernel_rfl) (by simp) ?_; refine AllReadyH.cons (o := _) rfl (fun K hK => ?_) (AllReadyH.cons (o := _) rfl (fun K hK => ?_) AllReadyH.nil))
        · go_simp
          have ODct := hide ((unhide ODc).alloc (.cells #[.string wd0, .string wd1, .string wd2] 9))
          have EDct := hide ((unhide EDc).alloc (unhide EDc).size (.cells #[.string wd0, .string wd1, .string wd2] 9))
          have YDct := hide ((unhide YDc).below ((Below.refl _ _).alloc (Nat.le_refl _) (.cells #[.string wd0, .string wd1, .string wd2] 9)))
          have CDct : Hid ((vDc.alloc (.cells #[.string wd0, .string wd1, .string wd2] 9)).cell? ⟨vDc.heap.size, k, none⟩ = some (.string wk)) := hide (by have := (tab_new vDc 9).at hk2; rw [unhide HWK] at this; exact this)
          have hxDct : wr.heap.size < vDc.heap.size := (unhide YDc).lt
          clear hHeld ODc EDc YDc
          generalize hU : vDc.alloc (.cells #[.string wd0, .string wd1, .string wd2] 9) = vDct at *
          clear hU
          refine hK.out _ _ (sBox (unhide YDct)) (fun hHeld => ?_)
          clear hK K
          (try simp only [Act.put, List.setIfInBounds_toArray, List.set_cons_zero, List.set_cons_succ])
          refine wpAnyH_strong (S' := fun w' => (Bx w' wr.heap.size ⟨ad, hd, sy, ci, co, wl⟩ ∧ w'.cell? ⟨vDc.heap.size, k, none⟩ = some (.string wk)) ∧ w'.cell? ⟨wr.heap.size, 0, none⟩ = some (.int .i64 ad) ∧ w'.cell? ⟨wr.heap.size, 1, none⟩ = some (.int .i64 hd) ∧ w'.cell? ⟨wr.heap.size, 2, none⟩ = some (.int .i64 sy) ∧ w'.cell? ⟨wr.heap.size, 3, none⟩ = some (.int .i64 ci) ∧ w'.cell? ⟨wr.heap.size, 4, none⟩ = some (.int .i64 co) ∧ w'.cell? ⟨wr.heap.size, 5, none⟩ = some (.int .i64 wl) ∧ w'.cell? ⟨vDc.heap.size, k, none⟩ = some (.string wk)) (fun _ h => sBox h.1.1) ?_
          clear hHeld
          have hHeld := sBoxT (unhide YDct) (unhide CDct)
          (refine wpAnyH_ready (rs := [8]) (by kernel_rfl) (by simp) ?_; refine AllReadyH.cons (o := _) rfl (fun K hK => ?_) AllReadyH.nil; go_simp)
          refine (l06Status ad hd sy ci co wl now _).mono ?_
          rintro e vDctc ⟨rfl, dDctc⟩
          rw [unhide HSK]
          have ODctc := hide (Ss.own_below (unhide ODct) dDctc)
          have EDctc := hide ((unhide EDct).trans (dDctc.mono (unhide EDct).size))
          have YDctc := hide ((unhide YDct).below dDctc)
          have CDctc : Hid (vDctc.cell? ⟨vDc.heap.size, k, none⟩ = some (.string wk)) := hide ((dDctc.cell (p := ⟨vDc.heap.size, k, none⟩) (World.block_lt_of_cell? _ _ (unhide CDct))).trans (unhide CDct))
          clear dDctc hHeld ODct EDct YDct CDct
          refine hK.out _ _ (sBoxT (unhide YDctc) (unhide CDctc)) (fun hHeld => ?_)
          clear hK K
          (try simp only [Act.put, List.setIfInBounds_toArray, List.set_cons_zero, List.set_cons_succ])
          (refine Rg.tk (i := 9) (d := 28) (v := ?_) rfl rfl (by kernel_rfl) (by kernel_rfl) (by kernel_rfl) (fun _ _ _ h => h) (by rfl) ?_ (by assumption) ?_; rotate_left; (focus (intro w0 hSw; (try dsimp only at hSw); go_simp; (try with_reducible rfl))); (try simp only [Act.put, List.setIfInBounds_toArray, List.set_cons_zero, List.set_cons_succ]))
          (refine Rg.tk (i := 10) (d := 29) (v := ?_) rfl rfl (by kernel_rfl) (by kernel_rfl) (by kernel_rfl) (fun _ _ _ h => h) (by rfl) ?_ (by assumption) ?_; rotate_left; (focus (intro w0 hSw; (try dsimp only at hSw); go_simp; (try with_reducible rfl))); (try simp only [Act.put, List.setIfInBounds_toArray, List.set_cons_zero, List.set_cons_succ]))
          (refine Rg.tk (i := 11) (d := 30) (v := ?_) rfl rfl (by kernel_rfl) (by kernel_rfl) (by kernel_rfl) (fun _ _ _ h => h) (by rfl) ?_ (by assumption) ?_; rotate_left; (focus (intro w0 hSw; (try dsimp only at hSw); go_simp; (try with_reducible rfl))); (try simp only [Act.put, List.setIfInBounds_toArray, List.set_cons_zero, List.set_cons_succ]))
          (refine Rg.tk (i := 12) (d := 31) (v := ?_) rfl rfl (by kernel_rfl) (by kernel_rfl) (by kernel_rfl) (fun _ _ _ h => h) (by rfl) ?_ (by assumption) ?_; rotate_left; (focus (intro w0 hSw; (try dsimp only at hSw); go_simp; (try with_reducible rfl))); (try simp only [Act.put, List.setIfInBounds_toArray, List.set_cons_zero, List.set_cons_succ]))
          (refine wpAnyH_ready (rs := [15]) (by kernel_rfl) (by simp) ?_; refine AllReadyH.cons (o := _) rfl (fun K hK => ?_) AllReadyH.nil; go_simp)
          refine (digs ci (by omega) (by omega) _).mono ?_
          rintro e vDctcc ⟨rfl, dDctcc⟩
          rw [unhide HDC]
          have ODctcc := hide (Ss.own_below (unhide ODctc) dDctcc)
          have EDctcc := hide ((unhide EDctc).trans (dDctcc.mono (unhide EDctc).size))
          have YDctcc := hide ((unhide YDctc).below dDctcc)
          have CDctcc : Hid (vDctcc.cell? ⟨vDc.heap.size, k, none⟩ = some (.string wk)) := hide ((dDctcc.cell (p := ⟨vDc.heap.size, k, none⟩) (World.block_lt_of_cell? _ _ (unhide CDctc))).trans (unhide CDctc))
          clear dDctcc hHeld ODctc EDctc YDctc CDctc
          refine hK.out _ _ (sBoxT (unhide YDctcc) (unhide CDctcc)) (fun hHeld => ?_)
          clear hK K
          (try simp only [Act.put, List.setIfInBounds_toArray, List.set_cons_zero, List.set_cons_succ])
          (refine Rg.tk (i := 16) (d := 35) (v := ?_) rfl rfl (by kernel_rfl) (by kernel_rfl) (by kernel_rfl) (fun _ _ _ h => h) (by rfl) ?_ (by assumption) ?_; rotate_left; (focus (intro w0 hSw; (try dsimp only at hSw); go_simp; (try with_reducible rfl))); (try simp only [Act.put, List.setIfInBounds_toArray, List.set_cons_zero, List.set_cons_succ]))
          (refine Rg.tk (i := 17) (d := 36) (v := ?_) rfl rfl (by kernel_rfl) (by kernel_rfl) (by kernel_rfl) (fun _ _ _ h => h) (by rfl) ?_ (by assumption) ?_; rotate_left; (focus (intro w0 hSw; (try dsimp only at hSw); go_simp; (try with_reducible rfl))); (try simp only [Act.put, List.setIfInBounds_toArray, List.set_cons_zero, List.set_cons_succ]))
          (refine wpAnyH_ready (rs := [20]) (by kernel_rfl) (by simp) ?_; refine AllReadyH.cons (o := _) rfl (fun K hK => ?_) AllReadyH.nil; go_simp)
          refine (digs co (by omega) (by omega) _).mono ?_
          rintro e vDctccc ⟨rfl, dDctccc⟩
          rw [unhide HDQ]
          have ODctccc := hide (Ss.own_below (unhide ODctcc) dDctccc)
          have EDctccc := hide ((unhide EDctcc).trans (dDctccc.mono (unhide EDctcc).size))
          have YDctccc := hide ((unhide YDctcc).below dDctccc)
          have CDctccc : Hid (vDctccc.cell? ⟨vDc.heap.size, k, none⟩ = some (.string wk)) := hide ((dDctccc.cell (p := ⟨vDc.heap.size, k, none⟩) (World.block_lt_of_cell? _ _ (unhide CDctcc))).trans (unhide CDctcc))
          clear dDctccc hHeld ODctcc EDctcc YDctcc CDctcc
          refine hK.out _ _ (sBoxT (unhide YDctccc) (unhide CDctccc)) (fun hHeld => ?_)
          clear hK K
          (try simp only [Act.put, List.setIfInBounds_toArray, List.set_cons_zero, List.set_cons_succ])
          (refine Rg.tk (i := 21) (d := 40) (v := ?_) rfl rfl (by kernel_rfl) (by kernel_rfl) (by kernel_rfl) (fun _ _ _ h => h) (by rfl) ?_ (by assumption) ?_; rotate_left; (focus (intro w0 hSw; (try dsimp only at hSw); go_simp; (try with_reducible rfl))); (try simp only [Act.put, List.setIfInBounds_toArray, List.set_cons_zero, List.set_cons_succ]))
          (refine wpAnyH_ready (rs := [22]) (by kernel_rfl) (by simp) ?_; refine AllReadyH.cons (o := _) rfl (fun K hK => ?_) AllReadyH.nil; go_simp)
          have OA := hide ((unhide ODctccc).alloc (.cells #[.string (da ++ s32 ++ wk ++ s32 ++ dc ++ s32 ++ dq)] 9))
          have EA := hide ((unhide EDctccc).alloc (unhide EDctccc).size (.cells #[.string (da ++ s32 ++ wk ++ s32 ++ dc ++ s32 ++ dq)] 9))
          have YA := hide ((unhide YDctccc).below ((Below.refl _ _).alloc (Nat.le_refl _) (.cells #[.string (da ++ s32 ++ wk ++ s32 ++ dc ++ s32 ++ dq)] 9)))
          have CA : Hid ((vDctccc.alloc (.cells #[.string (da ++ s32 ++ wk ++ s32 ++ dc ++ s32 ++ dq)] 9)).cell? ⟨vDc.heap.size, k, none⟩ = some (.string wk)) := hide ((((Below.refl vDctccc.heap.size vDctccc).alloc (Nat.le_refl _) (.cells #[.string (da ++ s32 ++ wk ++ s32 ++ dc ++ s32 ++ dq)] 9)).cell (p := ⟨vDc.heap.size, k, none⟩) (World.block_lt_of_cell? _ _ (unhide CDctccc))).trans (unhide CDctccc))
          have RA : Hid (Ss.RM (vDctccc.alloc (.cells #[.string (da ++ s32 ++ wk ++ s32 ++ dc ++ s32 ++ dq)] 9)) (some ⟨vDctccc.heap.size, 0, none⟩) [da ++ s32 ++ wk ++ s32 ++ dc ++ s32 ++ dq]) := hide (Ss.rm_new vDctccc (da ++ s32 ++ wk ++ s32 ++ dc ++ s32 ++ dq))
          have hsA := (unhide EA).size
          clear hHeld
          refine hK.out _ _ (sBoxT (unhide YA) (unhide CA)) (fun hHeld => ?_)
          clear hK K
          (try simp only [Act.put, List.setIfInBounds_toArray, List.set_cons_zero, List.set_cons_succ])
          (refine wpAnyH_ready (rs := [23]) (by kernel_rfl) (by simp) ?_; refine AllReadyH.cons (o := _) rfl (fun K hK => ?_) AllReadyH.nil; rw [if_pos (by rfl)])
          refine Ss.wp_apS (unhide OA) vDctccc.heap.size 0 1 1 [da ++ s32 ++ wk ++ s32 ++ dc ++ s32 ++ dq] rfl (unhide RA) (by simp only [List.length_cons, List.length_nil]; omega) hsA _ _ rfl rfl rfl rfl ?_
          intro vB wB oB gB
          have OB : Hid (wB.ownsRow w.heap.size 9 1 vB (txtL now ms (j + 1)).length (Ss.flat (txtL now ms (j + 1)))) := hide (by rw [unhide HTF]; exact oB)
          have EB := hide (Ss.below_own (unhide EA) (unhide OA) gB (Nat.le_refl _) hsA)
          have YB := hide (bx_kept (unhide YA) gB (fun e => by have := unhide HNO _ e.symm; omega))
          have CB : Hid (wB.cell? ⟨vDc.heap.size, k, none⟩ = some (.string wk)) := hide ((World.cell?_of_block (a := ⟨vDc.heap.size, k, none⟩) (gB.block vDc.heap.size (World.block_lt_of_cell? _ _ (unhide CA)) (fun e => by have := unhide HNO _ e.symm; omega))).trans (unhide CA))
          clear oB gB hHeld
          refine hK.out _ _ (sBoxT (unhide YB) (unhide CB)) (fun hHeld => ?_)
          clear hK K
          (try simp only [Act.put, List.setIfInBounds_toArray, List.set_cons_zero, List.set_cons_succ])
          (refine Rg.tk (i := 24) (d := 5) (v := ?_) rfl rfl (by kernel_rfl) (by kernel_rfl) (by kernel_rfl) (fun _ _ _ h => h) (by rfl) ?_ (by assumption) ?_; rotate_left; (focus (intro w0 hSw; (try dsimp only at hSw); go_simp; (try with_reducible rfl))); (try simp only [Act.put, List.setIfInBounds_toArray, List.set_cons_zero, List.set_cons_succ]))
          refine wpAnyH_done (by kernel_rfl) (NoPanic.normal ?_) _
          clear hHeld
          go_wp2_with fail
          go_roundw
          case rel => exact ⟨j + 1, by omega, by go_num, OB, EB⟩
          case measure => simp [intOf]; omega
        · go_simp
          refine (l06Status ad hd sy ci co wl now _).mono ?_
          rintro e vDcc ⟨rfl, dDcc⟩
          rw [unhide HSK]
          have ODcc := hide (Ss.own_below (unhide ODc) dDcc)
          have EDcc := hide ((unhide EDc).trans (dDcc.mono (unhide EDc).size))
          have YDcc := hide ((unhide YDc).below dDcc)
          clear dDcc hHeld ODc EDc YDc
          refine hK.out _ _ (sBox (unhide YDcc)) (fun hHeld => ?_)
          clear hK K
          (try simp only [Act.put, List.setIfInBounds_toArray, List.set_cons_zero, List.set_cons_succ])
          (refine wpAnyH_ready (rs := [5, 15]) (by kernel_rfl) (by simp) ?_; refine AllReadyH.cons (o := _) rfl (fun K hK => ?_) (AllReadyH.cons (o := _) rfl (fun K hK => ?_) AllReadyH.nil))
          · go_simp
            have ODcct := hide ((unhide ODcc).alloc (.cells #[.string wd0, .string wd1, .string wd2] 9))
            have EDcct := hide ((unhide EDcc).alloc (unhide EDcc).size (.cells #[.string wd0, .string wd1, .string wd2] 9))
            have YDcct := hide ((unhide YDcc).below ((Below.refl _ _).alloc (Nat.le_refl _) (.cells #[.string wd0, .string wd1, .string wd2] 9)))
            have CDcct : Hid ((vDcc.alloc (.cells #[.string wd0, .string wd1, .string wd2] 9)).cell? ⟨vDcc.heap.size, k, none⟩ = some (.string wk)) := hide (by have := (tab_new vDcc 9).at hk2; rw [unhide HWK] at this; exact this)
            have hxDcct : wr.heap.size < vDcc.heap.size := (unhide YDcc).lt
            clear hHeld ODcc EDcc YDcc
            generalize hU : vDcc.alloc (.cells #[.string wd0, .string wd1, .string wd2] 9) = vDcct at *
            clear hU
            refine hK.out _ _ (sBox (unhide YDcct)) (fun hHeld => ?_)
            clear hK K
            (try simp only [Act.put, List.setIfInBounds_toArray, List.set_cons_zero, List.set_cons_succ])
            refine wpAnyH_strong (S' := fun w' => (Bx w' wr.heap.size ⟨ad, hd, sy, ci, co, wl⟩ ∧ w'.cell? ⟨vDcc.heap.size, k, none⟩ = some (.string wk)) ∧ w'.cell? ⟨wr.heap.size, 0, none⟩ = some (.int .i64 ad) ∧ w'.cell? ⟨wr.heap.size, 1, none⟩ = some (.int .i64 hd) ∧ w'.cell? ⟨wr.heap.size, 2, none⟩ = some (.int .i64 sy) ∧ w'.cell? ⟨wr.heap.size, 3, none⟩ = some (.int .i64 ci) ∧ w'.cell? ⟨wr.heap.size, 4, none⟩ = some (.int .i64 co) ∧ w'.cell? ⟨wr.heap.size, 5, none⟩ = some (.int .i64 wl) ∧ w'.cell? ⟨vDcc.heap.size, k, none⟩ = some (.string wk)) (fun _ h => sBox h.1.1) ?_
            clear hHeld
            have hHeld := sBoxT (unhide YDcct) (unhide CDcct)
            (refine Rg.tk (i := 9) (d := 28) (v := ?_) rfl rfl (by kernel_rfl) (by kernel_rfl) (by kernel_rfl) (fun _ _ _ h => h) (by rfl) ?_ (by assumption) ?_; rotate_left; (focus (intro w0 hSw; (try dsimp only at hSw); go_simp; (try with_reducible rfl))); (try simp only [Act.put, List.setIfInBounds_toArray, List.set_cons_zero, List.set_cons_succ]))
            (refine Rg.tk (i := 10) (d := 29) (v := ?_) rfl rfl (by kernel_rfl) (by kernel_rfl) (by kernel_rfl) (fun _ _ _ h => h) (by rfl) ?_ (by assumption) ?_; rotate_left; (focus (intro w0 hSw; (try dsimp only at hSw); go_simp; (try with_reducible rfl))); (try simp only [Act.put, List.setIfInBounds_toArray, List.set_cons_zero, List.set_cons_succ]))
            (refine Rg.tk (i := 11) (d := 30) (v := ?_) rfl rfl (by kernel_rfl) (by kernel_rfl) (by kernel_rfl) (fun _ _ _ h => h) (by rfl) ?_ (by assumption) ?_; rotate_left; (focus (intro w0 hSw; (try dsimp only at hSw); go_simp; (try with_reducible rfl))); (try simp only [Act.put, List.setIfInBounds_toArray, List.set_cons_zero, List.set_cons_succ]))
            (refine Rg.tk (i := 12) (d := 31) (v := ?_) rfl rfl (by kernel_rfl) (by kernel_rfl) (by kernel_rfl) (fun _ _ _ h => h) (by rfl) ?_ (by assumption) ?_; rotate_left; (focus (intro w0 hSw; (try dsimp only at hSw); go_simp; (try with_reducible rfl))); (try simp only [Act.put, List.setIfInBounds_toArray, List.set_cons_zero, List.set_cons_succ]))
            (refine wpAnyH_ready (rs := [15]) (by kernel_rfl) (by simp) ?_; refine AllReadyH.cons (o := _) rfl (fun K hK => ?_) AllReadyH.nil; go_simp)
            refine (digs ci (by omega) (by omega) _).mono ?_
            rintro e vDcctc ⟨rfl, dDcctc⟩
            rw [unhide HDC]
            have ODcctc := hide (Ss.own_below (unhide ODcct) dDcctc)
            have EDcctc := hide ((unhide EDcct).trans (dDcctc.mono (unhide EDcct).size))
            have YDcctc := hide ((unhide YDcct).below dDcctc)
            have CDcctc : Hid (vDcctc.cell? ⟨vDcc.heap.size, k, none⟩ = some (.string wk)) := hide ((dDcctc.cell (p := ⟨vDcc.heap.size, k, none⟩) (World.block_lt_of_cell? _ _ (unhide CDcct))).trans (unhide CDcct))
            clear dDcctc hHeld ODcct EDcct YDcct CDcct
            refine hK.out _ _ (sBoxT (unhide YDcctc) (unhide CDcctc)) (fun hHeld => ?_)
            clear hK K
            (try simp only [Act.put, List.setIfInBounds_toArray, List.set_cons_zero, List.set_cons_succ])
            (refine Rg.tk (i := 16) (d := 35) (v := ?_) rfl rfl (by kernel_rfl) (by kernel_rfl) (by kernel_rfl) (fun _ _ _ h => h) (by rfl) ?_ (by assumption) ?_; rotate_left; (focus (intro w0 hSw; (try dsimp only at hSw); go_simp; (try with_reducible rfl))); (try simp only [Act.put, List.setIfInBounds_toArray, List.set_cons_zero, List.set_cons_succ]))
            (refine Rg.tk (i := 17) (d := 36) (v := ?_) rfl rfl (by kernel_rfl) (by kernel_rfl) (by kernel_rfl) (fun _ _ _ h => h) (by rfl) ?_ (by assumption) ?_; rotate_left; (focus (intro w0 hSw; (try dsimp only at hSw); go_simp; (try with_reducible rfl))); (try simp only [Act.put, List.setIfInBounds_toArray, List.set_cons_zero, List.set_cons_succ]))
            (refine wpAnyH_ready (rs := [20]) (by kernel_rfl) (by simp) ?_; refine AllReadyH.cons (o := _) rfl (fun K hK => ?_) AllReadyH.nil; go_simp)
            refine (digs co (by omega) (by omega) _).mono ?_
            rintro e vDcctcc ⟨rfl, dDcctcc⟩
            rw [unhide HDQ]
            have ODcctcc := hide (Ss.own_below (unhide ODcctc) dDcctcc)
            have EDcctcc := hide ((unhide EDcctc).trans (dDcctcc.mono (unhide EDcctc).size))
            have YDcctcc := hide ((unhide YDcctc).below dDcctcc)
            have CDcctcc : Hid (vDcctcc.cell? ⟨vDcc.heap.size, k, none⟩ = some (.string wk)) := hide ((dDcctcc.cell (p := ⟨vDcc.heap.size, k, none⟩) (World.block_lt_of_cell? _ _ (unhide CDcctc))).trans (unhide CDcctc))
            clear dDcctcc hHeld ODcctc EDcctc YDcctc CDcctc
            refine hK.out _ _ (sBoxT (unhide YDcctcc) (unhide CDcctcc)) (fun hHeld => ?_)
            clear hK K
            (try simp only [Act.put, List.setIfInBounds_toArray, List.set_cons_zero, List.set_cons_succ])
            (refine Rg.tk (i := 21) (d := 40) (v := ?_) rfl rfl (by kernel_rfl) (by kernel_rfl) (by kernel_rfl) (fun _ _ _ h => h) (by rfl) ?_ (by assumption) ?_; rotate_left; (focus (intro w0 hSw; (try dsimp only at hSw); go_simp; (try with_reducible rfl))); (try simp only [Act.put, List.setIfInBounds_toArray, List.set_cons_zero, List.set_cons_succ]))
            (refine wpAnyH_ready (rs := [22]) (by kernel_rfl) (by simp) ?_; refine AllReadyH.cons (o := _) rfl (fun K hK => ?_) AllReadyH.nil; go_simp)
            have OA := hide ((unhide ODcctcc).alloc (.cells #[.string (da ++ s32 ++ wk ++ s32 ++ dc ++ s32 ++ dq)] 9))
            have EA := hide ((unhide EDcctcc).alloc (unhide EDcctcc).size (.cells #[.string (da ++ s32 ++ wk ++ s32 ++ dc ++ s32 ++ dq)] 9))
            have YA := hide ((unhide YDcctcc).below ((Below.refl _ _).alloc (Nat.le_refl _) (.cells #[.string (da ++ s32 ++ wk ++ s32 ++ dc ++ s32 ++ dq)] 9)))
            have CA : Hid ((vDcctcc.alloc (.cells #[.string (da ++ s32 ++ wk ++ s32 ++ dc ++ s32 ++ dq)] 9)).cell? ⟨vDcc.heap.size, k, none⟩ = some (.string wk)) := hide ((((Below.refl vDcctcc.heap.size vDcctcc).alloc (Nat.le_refl _) (.cells #[.string (da ++ s32 ++ wk ++ s32 ++ dc ++ s32 ++ dq)] 9)).cell (p := ⟨vDcc.heap.size, k, none⟩) (World.block_lt_of_cell? _ _ (unhide CDcctcc))).trans (unhide CDcctcc))
            have RA : Hid (Ss.RM (vDcctcc.alloc (.cells #[.string (da ++ s32 ++ wk ++ s32 ++ dc ++ s32 ++ dq)] 9)) (some ⟨vDcctcc.heap.size, 0, none⟩) [da ++ s32 ++ wk ++ s32 ++ dc ++ s32 ++ dq]) := hide (Ss.rm_new vDcctcc (da ++ s32 ++ wk ++ s32 ++ dc ++ s32 ++ dq))
            have hsA := (unhide EA).size
            clear hHeld
            refine hK.out _ _ (sBoxT (unhide YA) (unhide CA)) (fun hHeld => ?_)
            clear hK K
            (try simp only [Act.put, List.setIfInBounds_toArray, List.set_cons_zero, List.set_cons_succ])
            (refine wpAnyH_ready (rs := [23]) (by kernel_rfl) (by simp) ?_; refine AllReadyH.cons (o := _) rfl (fun K hK => ?_) AllReadyH.nil; rw [if_pos (by rfl)])
            refine Ss.wp_apS (unhide OA) vDcctcc.heap.size 0 1 1 [da ++ s32 ++ wk ++ s32 ++ dc ++ s32 ++ dq] rfl (unhide RA) (by simp only [List.length_cons, List.length_nil]; omega) hsA _ _ rfl rfl rfl rfl ?_
            intro vB wB oB gB
            have OB : Hid (wB.ownsRow w.heap.size 9 1 vB (txtL now ms (j + 1)).length (Ss.flat (txtL now ms (j + 1)))) := hide (by rw [unhide HTF]; exact oB)
            have EB := hide (Ss.below_own (unhide EA) (unhide OA) gB (Nat.le_refl _) hsA)
            have YB := hide (bx_kept (unhide YA) gB (fun e => by have := unhide HNO _ e.symm; omega))
            have CB : Hid (wB.cell? ⟨vDcc.heap.size, k, none⟩ = some (.string wk)) := hide ((World.cell?_of_block (a := ⟨vDcc.heap.size, k, none⟩) (gB.block vDcc.heap.size (World.block_lt_of_cell? _ _ (unhide CA)) (fun e => by have := unhide HNO _ e.symm; omega))).trans (unhide CA))
            clear oB gB hHeld
            refine hK.out _ _ (sBoxT (unhide YB) (unhide CB)) (fun hHeld => ?_)
            clear hK K
            (try simp only [Act.put, List.setIfInBounds_toArray, List.set_cons_zero, List.set_cons_succ])
            (refine Rg.tk (i := 24) (d := 5) (v := ?_) rfl rfl (by kernel_rfl) (by kernel_rfl) (by kernel_rfl) (fun _ _ _ h => h) (by rfl) ?_ (by assumption) ?_; rotate_left; (focus (intro w0 hSw; (try dsimp only at hSw); go_simp; (try with_reducible rfl))); (try simp only [Act.put, List.setIfInBounds_toArray, List.set_cons_zero, List.set_cons_succ]))
            refine wpAnyH_done (by kernel_rfl) (NoPanic.normal ?_) _
            clear hHeld
            go_wp2_with fail
            go_roundw
            case rel => exact ⟨j + 1, by omega, by go_num, OB, EB⟩
            case measure => simp [intOf]; omega
          · go_simp
            refine (digs ci (by omega) (by omega) _).mono ?_
            rintro e vDccc ⟨rfl, dDccc⟩
            rw [unhide HDC]
            have ODccc := hide (Ss.own_below (unhide ODcc) dDccc)
            have EDccc := hide ((unhide EDcc).trans (dDccc.mono (unhide EDcc).size))
            have YDccc := hide ((unhide YDcc).below dDccc)
            clear dDccc hHeld ODcc EDcc YDcc
            refine hK.out _ _ (sBox (unhide YDccc)) (fun hHeld => ?_)
            clear hK K
            (try simp only [Act.put, List.setIfInBounds_toArray, List.set_cons_zero, List.set_cons_succ])
            (refine wpAnyH_ready (rs := [5, 20]) (by kernel_rfl) (by simp) ?_; refine AllReadyH.cons (o := _) rfl (fun K hK => ?_) (AllReadyH.cons (o := _) rfl (fun K hK => ?_) AllReadyH.nil))
            · go_simp
              have ODccct := hide ((unhide ODccc).alloc (.cells #[.string wd0, .string wd1, .string wd2] 9))
              have EDccct := hide ((unhide EDccc).alloc (unhide EDccc).size (.cells #[.string wd0, .string wd1, .string wd2] 9))
              have YDccct := hide ((unhide YDccc).below ((Below.refl _ _).alloc (Nat.le_refl _) (.cells #[.string wd0, .string wd1, .string wd2] 9)))
              have CDccct : Hid ((vDccc.alloc (.cells #[.string wd0, .string wd1, .string wd2] 9)).cell? ⟨vDccc.heap.size, k, none⟩ = some (.string wk)) := hide (by have := (tab_new vDccc 9).at hk2; rw [unhide HWK] at this; exact this)
              have hxDccct : wr.heap.size < vDccc.heap.size := (unhide YDccc).lt
              clear hHeld ODccc EDccc YDccc
              generalize hU : vDccc.alloc (.cells #[.string wd0, .string wd1, .string wd2] 9) = vDccct at *
              clear hU
              refine hK.out _ _ (sBox (unhide YDccct)) (fun hHeld => ?_)
              clear hK K
              (try simp only [Act.put, List.setIfInBounds_toArray, List.set_cons_zero, List.set_cons_succ])
              refine wpAnyH_strong (S' := fun w' => (Bx w' wr.heap.size ⟨ad, hd, sy, ci, co, wl⟩ ∧ w'.cell? ⟨vDccc.heap.size, k, none⟩ = some (.string wk)) ∧ w'.cell? ⟨wr.heap.size, 0, none⟩ = some (.int .i64 ad) ∧ w'.cell? ⟨wr.heap.size, 1, none⟩ = some (.int .i64 hd) ∧ w'.cell? ⟨wr.heap.size, 2, none⟩ = some (.int .i64 sy) ∧ w'.cell? ⟨wr.heap.size, 3, none⟩ = some (.int .i64 ci) ∧ w'.cell? ⟨wr.heap.size, 4, none⟩ = some (.int .i64 co) ∧ w'.cell? ⟨wr.heap.size, 5, none⟩ = some (.int .i64 wl) ∧ w'.cell? ⟨vDccc.heap.size, k, none⟩ = some (.string wk)) (fun _ h => sBox h.1.1) ?_
              clear hHeld
              have hHeld := sBoxT (unhide YDccct) (unhide CDccct)
              (refine Rg.tk (i := 9) (d := 28) (v := ?_) rfl rfl (by kernel_rfl) (by kernel_rfl) (by kernel_rfl) (fun _ _ _ h => h) (by rfl) ?_ (by assumption) ?_; rotate_left; (focus (intro w0 hSw; (try dsimp only at hSw); go_simp; (try with_reducible rfl))); (try simp only [Act.put, List.setIfInBounds_toArray, List.set_cons_zero, List.set_cons_succ]))
              (refine Rg.tk (i := 10) (d := 29) (v := ?_) rfl rfl (by kernel_rfl) (by kernel_rfl) (by kernel_rfl) (fun _ _ _ h => h) (by rfl) ?_ (by assumption) ?_; rotate_left; (focus (intro w0 hSw; (try dsimp only at hSw); go_simp; (try with_reducible rfl))); (try simp only [Act.put, List.setIfInBounds_toArray, List.set_cons_zero, List.set_cons_succ]))
              (refine Rg.tk (i := 11) (d := 30) (v := ?_) rfl rfl (by kernel_rfl) (by kernel_rfl) (by kernel_rfl) (fun _ _ _ h => h) (by rfl) ?_ (by assumption) ?_; rotate_left; (focus (intro w0 hSw; (try dsimp only at hSw); go_simp; (try with_reducible rfl))); (try simp only [Act.put, List.setIfInBounds_toArray, List.set_cons_zero, List.set_cons_succ]))
              (refine Rg.tk (i := 12) (d := 31) (v := ?_) rfl rfl (by kernel_rfl) (by kernel_rfl) (by kernel_rfl) (fun _ _ _ h => h) (by rfl) ?_ (by assumption) ?_; rotate_left; (focus (intro w0 hSw; (try dsimp only at hSw); go_simp; (try with_reducible rfl))); (try simp only [Act.put, List.setIfInBounds_toArray, List.set_cons_zero, List.set_cons_succ]))
              (refine Rg.tk (i := 16) (d := 35) (v := ?_) rfl rfl (by kernel_rfl) (by kernel_rfl) (by kernel_rfl) (fun _ _ _ h => h) (by rfl) ?_ (by assumption) ?_; rotate_left; (focus (intro w0 hSw; (try dsimp only at hSw); go_simp; (try with_reducible rfl))); (try simp only [Act.put, List.setIfInBounds_toArray, List.set_cons_zero, List.set_cons_succ]))
              (refine Rg.tk (i := 17) (d := 36) (v := ?_) rfl rfl (by kernel_rfl) (by kernel_rfl) (by kernel_rfl) (fun _ _ _ h => h) (by rfl) ?_ (by assumption) ?_; rotate_left; (focus (intro w0 hSw; (try dsimp only at hSw); go_simp; (try with_reducible rfl))); (try simp only [Act.put, List.setIfInBounds_toArray, List.set_cons_zero, List.set_cons_succ]))
              (refine wpAnyH_ready (rs := [20]) (by kernel_rfl) (by simp) ?_; refine AllReadyH.cons (o := _) rfl (fun K hK => ?_) AllReadyH.nil; go_simp)
              refine (digs co (by omega) (by omega) _).mono ?_
              rintro e vDccctc ⟨rfl, dDccctc⟩
              rw [unhide HDQ]
              have ODccctc := hide (Ss.own_below (unhide ODccct) dDccctc)
              have EDccctc := hide ((unhide EDccct).trans (dDccctc.mono (unhide EDccct).size))
              have YDccctc := hide ((unhide YDccct).below dDccctc)
              have CDccctc : Hid (vDccctc.cell? ⟨vDccc.heap.size, k, none⟩ = some (.string wk)) := hide ((dDccctc.cell (p := ⟨vDccc.heap.size, k, none⟩) (World.block_lt_of_cell? _ _ (unhide CDccct))).trans (unhide CDccct))
              clear dDccctc hHeld ODccct EDccct YDccct CDccct
              refine hK.out _ _ (sBoxT (unhide YDccctc) (unhide CDccctc)) (fun hHeld => ?_)
              clear hK K
              (try simp only [Act.put, List.setIfInBounds_toArray, List.set_cons_zero, List.set_cons_succ])
              (refine Rg.tk (i := 21) (d := 40) (v := ?_) rfl rfl (by kernel_rfl) (by kernel_rfl) (by kernel_rfl) (fun _ _ _ h => h) (by rfl) ?_ (by assumption) ?_; rotate_left; (focus (intro w0 hSw; (try dsimp only at hSw); go_simp; (try with_reducible rfl))); (try simp only [Act.put, List.setIfInBounds_toArray, List.set_cons_zero, List.set_cons_succ]))
              (refine wpAnyH_ready (rs := [22]) (by kernel_rfl) (by simp) ?_; refine AllReadyH.cons (o := _) rfl (fun K hK => ?_) AllReadyH.nil; go_simp)
              have OA := hide ((unhide ODccctc).alloc (.cells #[.string (da ++ s32 ++ wk ++ s32 ++ dc ++ s32 ++ dq)] 9))
              have EA := hide ((unhide EDccctc).alloc (unhide EDccctc).size (.cells #[.string (da ++ s32 ++ wk ++ s32 ++ dc ++ s32 ++ dq)] 9))
              have YA := hide ((unhide YDccctc).below ((Below.refl _ _).alloc (Nat.le_refl _) (.cells #[.string (da ++ s32 ++ wk ++ s32 ++ dc ++ s32 ++ dq)] 9)))
              have CA : Hid ((vDccctc.alloc (.cells #[.string (da ++ s32 ++ wk ++ s32 ++ dc ++ s32 ++ dq)] 9)).cell? ⟨vDccc.heap.size, k, none⟩ = some (.string wk)) := hide ((((Below.refl vDccctc.heap.size vDccctc).alloc (Nat.le_refl _) (.cells #[.string (da ++ s32 ++ wk ++ s32 ++ dc ++ s32 ++ dq)] 9)).cell (p := ⟨vDccc.heap.size, k, none⟩) (World.block_lt_of_cell? _ _ (unhide CDccctc))).trans (unhide CDccctc))
              have RA : Hid (Ss.RM (vDccctc.alloc (.cells #[.string (da ++ s32 ++ wk ++ s32 ++ dc ++ s32 ++ dq)] 9)) (some ⟨vDccctc.heap.size, 0, none⟩) [da ++ s32 ++ wk ++ s32 ++ dc ++ s32 ++ dq]) := hide (Ss.rm_new vDccctc (da ++ s32 ++ wk ++ s32 ++ dc ++ s32 ++ dq))
              have hsA := (unhide EA).size
              clear hHeld
              refine hK.out _ _ (sBoxT (unhide YA) (unhide CA)) (fun hHeld => ?_)
              clear hK K
              (try simp only [Act.put, List.setIfInBounds_toArray, List.set_cons_zero, List.set_cons_succ])
              (refine wpAnyH_ready (rs := [23]) (by kernel_rfl) (by simp) ?_; refine AllReadyH.cons (o := _) rfl (fun K hK => ?_) AllReadyH.nil; rw [if_pos (by rfl)])
              refine Ss.wp_apS (unhide OA) vDccctc.heap.size 0 1 1 [da ++ s32 ++ wk ++ s32 ++ dc ++ s32 ++ dq] rfl (unhide RA) (by simp only [List.length_cons, List.length_nil]; omega) hsA _ _ rfl rfl rfl rfl ?_
              intro vB wB oB gB
              have OB : Hid (wB.ownsRow w.heap.size 9 1 vB (txtL now ms (j + 1)).length (Ss.flat (txtL now ms (j + 1)))) := hide (by rw [unhide HTF]; exact oB)
              have EB := hide (Ss.below_own (unhide EA) (unhide OA) gB (Nat.le_refl _) hsA)
              have YB := hide (bx_kept (unhide YA) gB (fun e => by have := unhide HNO _ e.symm; omega))
              have CB : Hid (wB.cell? ⟨vDccc.heap.size, k, none⟩ = some (.string wk)) := hide ((World.cell?_of_block (a := ⟨vDccc.heap.size, k, none⟩) (gB.block vDccc.heap.size (World.block_lt_of_cell? _ _ (unhide CA)) (fun e => by have := unhide HNO _ e.symm; omega))).trans (unhide CA))
              clear oB gB hHeld
              refine hK.out _ _ (sBoxT (unhide YB) (unhide CB)) (fun hHeld => ?_)
              clear hK K
              (try simp only [Act.put, List.setIfInBounds_toArray, List.set_cons_zero, List.set_cons_succ])
              (refine Rg.tk (i := 24) (d := 5) (v := ?_) rfl rfl (by kernel_rfl) (by kernel_rfl) (by kernel_rfl) (fun _ _ _ h => h) (by rfl) ?_ (by assumption) ?_; rotate_left; (focus (intro w0 hSw; (try dsimp only at hSw); go_simp; (try with_reducible rfl))); (try simp only [Act.put, List.setIfInBounds_toArray, List.set_cons_zero, List.set_cons_succ]))
              refine wpAnyH_done (by kernel_rfl) (NoPanic.normal ?_) _
              clear hHeld
              go_wp2_with fail
              go_roundw
              case rel => exact ⟨j + 1, by omega, by go_num, OB, EB⟩
              case measure => simp [intOf]; omega
            · go_simp
              refine (digs co (by omega) (by omega) _).mono ?_
              rintro e vDcccc ⟨rfl, dDcccc⟩
              rw [unhide HDQ]
              have ODcccc := hide (Ss.own_below (unhide ODccc) dDcccc)
              have EDcccc := hide ((unhide EDccc).trans (dDcccc.mono (unhide EDccc).size))
              have YDcccc := hide ((unhide YDccc).below dDcccc)
              clear dDcccc hHeld ODccc EDccc YDccc
              refine hK.out _ _ (sBox (unhide YDcccc)) (fun hHeld => ?_)
              clear hK K
              (try simp only [Act.put, List.setIfInBounds_toArray, List.set_cons_zero, List.set_cons_succ])
              (refine wpAnyH_ready (rs := [5]) (by kernel_rfl) (by simp) ?_; refine AllReadyH.cons (o := _) rfl (fun K hK => ?_) AllReadyH.nil; go_simp)
              have ODcccct := hide ((unhide ODcccc).alloc (.cells #[.string wd0, .string wd1, .string wd2] 9))
              have EDcccct := hide ((unhide EDcccc).alloc (unhide EDcccc).size (.cells #[.string wd0, .string wd1, .string wd2] 9))
              have YDcccct := hide ((unhide YDcccc).below ((Below.refl _ _).alloc (Nat.le_refl _) (.cells #[.string wd0, .string wd1, .string wd2] 9)))
              have CDcccct : Hid ((vDcccc.alloc (.cells #[.string wd0, .string wd1, .string wd2] 9)).cell? ⟨vDcccc.heap.size, k, none⟩ = some (.string wk)) := hide (by have := (tab_new vDcccc 9).at hk2; rw [unhide HWK] at this; exact this)
              have hxDcccct : wr.heap.size < vDcccc.heap.size := (unhide YDcccc).lt
              clear hHeld ODcccc EDcccc YDcccc
              generalize hU : vDcccc.alloc (.cells #[.string wd0, .string wd1, .string wd2] 9) = vDcccct at *
              clear hU
              refine hK.out _ _ (sBox (unhide YDcccct)) (fun hHeld => ?_)
              clear hK K
              (try simp only [Act.put, List.setIfInBounds_toArray, List.set_cons_zero, List.set_cons_succ])
              refine wpAnyH_strong (S' := fun w' => (Bx w' wr.heap.size ⟨ad, hd, sy, ci, co, wl⟩ ∧ w'.cell? ⟨vDcccc.heap.size, k, none⟩ = some (.string wk)) ∧ w'.cell? ⟨wr.heap.size, 0, none⟩ = some (.int .i64 ad) ∧ w'.cell? ⟨wr.heap.size, 1, none⟩ = some (.int .i64 hd) ∧ w'.cell? ⟨wr.heap.size, 2, none⟩ = some (.int .i64 sy) ∧ w'.cell? ⟨wr.heap.size, 3, none⟩ = some (.int .i64 ci) ∧ w'.cell? ⟨wr.heap.size, 4, none⟩ = some (.int .i64 co) ∧ w'.cell? ⟨wr.heap.size, 5, none⟩ = some (.int .i64 wl) ∧ w'.cell? ⟨vDcccc.heap.size, k, none⟩ = some (.string wk)) (fun _ h => sBox h.1.1) ?_
              clear hHeld
              have hHeld := sBoxT (unhide YDcccct) (unhide CDcccct)
              (refine Rg.tk (i := 9) (d := 28) (v := ?_) rfl rfl (by kernel_rfl) (by kernel_rfl) (by kernel_rfl) (fun _ _ _ h => h) (by rfl) ?_ (by assumption) ?_; rotate_left; (focus (intro w0 hSw; (try dsimp only at hSw); go_simp; (try with_reducible rfl))); (try simp only [Act.put, List.setIfInBounds_toArray, List.set_cons_zero, List.set_cons_succ]))
              (refine Rg.tk (i := 10) (d := 29) (v := ?_) rfl rfl (by kernel_rfl) (by kernel_rfl) (by kernel_rfl) (fun _ _ _ h => h) (by rfl) ?_ (by assumption) ?_; rotate_left; (focus (intro w0 hSw; (try dsimp only at hSw); go_simp; (try with_reducible rfl))); (try simp only [Act.put, List.setIfInBounds_toArray, List.set_cons_zero, List.set_cons_succ]))
              (refine Rg.tk (i := 11) (d := 30) (v := ?_) rfl rfl (by kernel_rfl) (by kernel_rfl) (by kernel_rfl) (fun _ _ _ h => h) (by rfl) ?_ (by assumption) ?_; rotate_left; (focus (intro w0 hSw; (try dsimp only at hSw); go_simp; (try with_reducible rfl))); (try simp only [Act.put, List.setIfInBounds_toArray, List.set_cons_zero, List.set_cons_succ]))
              (refine Rg.tk (i := 12) (d := 31) (v := ?_) rfl rfl (by kernel_rfl) (by kernel_rfl) (by kernel_rfl) (fun _ _ _ h => h) (by rfl) ?_ (by assumption) ?_; rotate_left; (focus (intro w0 hSw; (try dsimp only at hSw); go_simp; (try with_reducible rfl))); (try simp only [Act.put, List.setIfInBounds_toArray, List.set_cons_zero, List.set_cons_succ]))
              (refine Rg.tk (i := 16) (d := 35) (v := ?_) rfl rfl (by kernel_rfl) (by kernel_rfl) (by kernel_rfl) (fun _ _ _ h => h) (by rfl) ?_ (by assumption) ?_; rotate_left; (focus (intro w0 hSw; (try dsimp only at hSw); go_simp; (try with_reducible rfl))); (try simp only [Act.put, List.setIfInBounds_toArray, List.set_cons_zero, List.set_cons_succ]))
              (refine Rg.tk (i := 17) (d := 36) (v := ?_) rfl rfl (by kernel_rfl) (by kernel_rfl) (by kernel_rfl) (fun _ _ _ h => h) (by rfl) ?_ (by assumption) ?_; rotate_left; (focus (intro w0 hSw; (try dsimp only at hSw); go_simp; (try with_reducible rfl))); (try simp only [Act.put, List.setIfInBounds_toArray, List.set_cons_zero, List.set_cons_succ]))
              (refine Rg.tk (i := 21) (d := 40) (v := ?_) rfl rfl (by kernel_rfl) (by kernel_rfl) (by kernel_rfl) (fun _ _ _ h => h) (by rfl) ?_ (by assumption) ?_; rotate_left; (focus (intro w0 hSw; (try dsimp only at hSw); go_simp; (try with_reducible rfl))); (try simp only [Act.put, List.setIfInBounds_toArray, List.set_cons_zero, List.set_cons_succ]))
              (refine wpAnyH_ready (rs := [22]) (by kernel_rfl) (by simp) ?_; refine AllReadyH.cons (o := _) rfl (fun K hK => ?_) AllReadyH.nil; go_simp)
              have OA := hide ((unhide ODcccct).alloc (.cells #[.string (da ++ s32 ++ wk ++ s32 ++ dc ++ s32 ++ dq)] 9))
              have EA := hide ((unhide EDcccct).alloc (unhide EDcccct).size (.cells #[.string (da ++ s32 ++ wk ++ s32 ++ dc ++ s32 ++ dq)] 9))
              have YA := hide ((unhide YDcccct).below ((Below.refl _ _).alloc (Nat.le_refl _) (.cells #[.string (da ++ s32 ++ wk ++ s32 ++ dc ++ s32 ++ dq)] 9)))
              have CA : Hid ((vDcccct.alloc (.cells #[.string (da ++ s32 ++ wk ++ s32 ++ dc ++ s32 ++ dq)] 9)).cell? ⟨vDcccc.heap.size, k, none⟩ = some (.string wk)) := hide ((((Below.refl vDcccct.heap.size vDcccct).alloc (Nat.le_refl _) (.cells #[.string (da ++ s32 ++ wk ++ s32 ++ dc ++ s32 ++ dq)] 9)).cell (p := ⟨vDcccc.heap.size, k, none⟩) (World.block_lt_of_cell? _ _ (unhide CDcccct))).trans (unhide CDcccct))
              have RA : Hid (Ss.RM (vDcccct.alloc (.cells #[.string (da ++ s32 ++ wk ++ s32 ++ dc ++ s32 ++ dq)] 9)) (some ⟨vDcccct.heap.size, 0, none⟩) [da ++ s32 ++ wk ++ s32 ++ dc ++ s32 ++ dq]) := hide (Ss.rm_new vDcccct (da ++ s32 ++ wk ++ s32 ++ dc ++ s32 ++ dq))
              have hsA := (unhide EA).size
              clear hHeld
              refine hK.out _ _ (sBoxT (unhide YA) (unhide CA)) (fun hHeld => ?_)
              clear hK K
              (try simp only [Act.put, List.setIfInBounds_toArray, List.set_cons_zero, List.set_cons_succ])
              (refine wpAnyH_ready (rs := [23]) (by kernel_rfl) (by simp) ?_; refine AllReadyH.cons (o := _) rfl (fun K hK => ?_) AllReadyH.nil; rw [if_pos (by rfl)])
              refine Ss.wp_apS (unhide OA) vDcccct.heap.size 0 1 1 [da ++ s32 ++ wk ++ s32 ++ dc ++ s32 ++ dq] rfl (unhide RA) (by simp only [List.length_cons, List.length_nil]; omega) hsA _ _ rfl rfl rfl rfl ?_
              intro vB wB oB gB
              have OB : Hid (wB.ownsRow w.heap.size 9 1 vB (txtL now ms (j + 1)).length (Ss.flat (txtL now ms (j + 1)))) := hide (by rw [unhide HTF]; exact oB)
              have EB := hide (Ss.below_own (unhide EA) (unhide OA) gB (Nat.le_refl _) hsA)
              have YB := hide (bx_kept (unhide YA) gB (fun e => by have := unhide HNO _ e.symm; omega))
              have CB : Hid (wB.cell? ⟨vDcccc.heap.size, k, none⟩ = some (.string wk)) := hide ((World.cell?_of_block (a := ⟨vDcccc.heap.size, k, none⟩) (gB.block vDcccc.heap.size (World.block_lt_of_cell? _ _ (unhide CA)) (fun e => by have := unhide HNO _ e.symm; omega))).trans (unhide CA))
              clear oB gB hHeld
              refine hK.out _ _ (sBoxT (unhide YB) (unhide CB)) (fun hHeld => ?_)
              clear hK K
              (try simp only [Act.put, List.setIfInBounds_toArray, List.set_cons_zero, List.set_cons_succ])
              (refine Rg.tk (i := 24) (d := 5) (v := ?_) rfl rfl (by kernel_rfl) (by kernel_rfl) (by kernel_rfl) (fun _ _ _ h => h) (by rfl) ?_ (by assumption) ?_; rotate_left; (focus (intro w0 hSw; (try dsimp only at hSw); go_simp; (try with_reducible rfl))); (try simp only [Act.put, List.setIfInBounds_toArray, List.set_cons_zero, List.set_cons_succ]))
              refine wpAnyH_done (by kernel_rfl) (NoPanic.normal ?_) _
              clear hHeld
              go_wp2_with fail
              go_roundw
              case rel => exact ⟨j + 1, by omega, by go_num, OB, EB⟩
              case measure => simp [intOf]; omega
      · go_simp
        have ODt := hide ((unhide OD).alloc (.cells #[.string wd0, .string wd1, .string wd2] 9))
        have EDt := hide ((unhide ED).alloc (unhide ED).size (.cells #[.string wd0, .string wd1, .string wd2] 9))
        have YDt := hide ((unhide YD).below ((Below.refl _ _).alloc (Nat.le_refl _) (.cells #[.string wd0, .string wd1, .string wd2] 9)))
        have CDt : Hid ((vD.alloc (.cells #[.string wd0, .string wd1, .string wd2] 9)).cell? ⟨vD.heap.size, k, none⟩ = some (.string wk)) := hide (by have := (tab_new vD 9).at hk2; rw [unhide HWK] at this; exact this)
        have hxDt : wr.heap.size < vD.heap.size := (unhide YD).lt
        clear hHeld OD ED YD
        generalize hU : vD.alloc (.cells #[.string wd0, .string wd1, .string wd2] 9) = vDt at *
        clear hU
        refine hK.out _ _ (sBox (unhide YDt)) (fun hHeld => ?_)
        clear hK K
        (try simp only [Act.put, List.setIfInBounds_toArray, List.set_cons_zero, List.set_cons_succ])
        refine wpAnyH_strong (S' := fun w' => (Bx w' wr.heap.size ⟨ad, hd, sy, ci, co, wl⟩ ∧ w'.cell? ⟨vD.heap.size, k, none⟩ = some (.string wk)) ∧ w'.cell? ⟨wr.heap.size, 0, none⟩ = some (.int .i64 ad) ∧ w'.cell? ⟨wr.heap.size, 1, none⟩ = some (.int .i64 hd) ∧ w'.cell? ⟨wr.heap.size, 2, none⟩ = some (.int .i64 sy) ∧ w'.cell? ⟨wr.heap.size, 3, none⟩ = some (.int .i64 ci) ∧ w'.cell? ⟨wr.heap.size, 4, none⟩ = some (.int .i64 co) ∧ w'.cell? ⟨wr.heap.size, 5, none⟩ = some (.int .i64 wl) ∧ w'.cell? ⟨vD.heap.size, k, none⟩ = some (.string wk)) (fun _ h => sBox h.1.1) ?_
        clear hHeld
        have hHeld := sBoxT (unhide YDt) (unhide CDt)
        (refine wpAnyH_ready (rs := [3]) (by kernel_rfl) (by simp) ?_; refine AllReadyH.cons (o := _) rfl (fun K hK => ?_) AllReadyH.nil; go_simp)
        refine (digs ad (by omega) (by omega) _).mono ?_
        rintro e vDtc ⟨rfl, dDtc⟩
        rw [unhide HDA]
        have ODtc := hide (Ss.own_below (unhide ODt) dDtc)
        have EDtc := hide ((unhide EDt).trans (dDtc.mono (unhide EDt).size))
        have YDtc := hide ((unhide YDt).below dDtc)
        have CDtc : Hid (vDtc.cell? ⟨vD.heap.size, k, none⟩ = some (.string wk)) := hide ((dDtc.cell (p := ⟨vD.heap.size, k, none⟩) (World.block_lt_of_cell? _ _ (unhide CDt))).trans (unhide CDt))
        clear dDtc hHeld ODt EDt YDt CDt
        refine hK.out _ _ (sBoxT (unhide YDtc) (unhide CDtc)) (fun hHeld => ?_)
        clear hK K
        (try simp only [Act.put, List.setIfInBounds_toArray, List.set_cons_zero, List.set_cons_succ])
        (refine Rg.tk (i := 4) (d := 23) (v := ?_) rfl rfl (by kernel_rfl) (by kernel_rfl) (by kernel_rfl) (fun _ _ _ h => h) (by rfl) ?_ (by assumption) ?_; rotate_left; (focus (intro w0 hSw; (try dsimp only at hSw); go_simp; (try with_reducible rfl))); (try simp only [Act.put, List.setIfInBounds_toArray, List.set_cons_zero, List.set_cons_succ]))
        (refine wpAnyH_ready (rs := [8]) (by kernel_rfl) (by simp) ?_; refine AllReadyH.cons (o := _) rfl (fun K hK => ?_) AllReadyH.nil; go_simp)
        refine (l06Status ad hd sy ci co wl now _).mono ?_
        rintro e vDtcc ⟨rfl, dDtcc⟩
        rw [unhide HSK]
        have ODtcc := hide (Ss.own_below (unhide ODtc) dDtcc)
        have EDtcc := hide ((unhide EDtc).trans (dDtcc.mono (unhide EDtc).size))
        have YDtcc := hide ((unhide YDtc).below dDtcc)
        have CDtcc : Hid (vDtcc.cell? ⟨vD.heap.size, k, none⟩ = some (.string wk)) := hide ((dDtcc.cell (p := ⟨vD.heap.size, k, none⟩) (World.block_lt_of_cell? _ _ (unhide CDtc))).trans (unhide CDtc))
        clear dDtcc hHeld ODtc EDtc YDtc CDtc
        refine hK.out _ _ (sBoxT (unhide YDtcc) (unhide CDtcc)) (fun hHeld => ?_)
        clear hK K
        (try simp only [Act.put, List.setIfInBounds_toArray, List.set_cons_zero, List.set_cons_succ])
        (refine Rg.tk (i := 9) (d := 28) (v := ?_) rfl rfl (by kernel_rfl) (by kernel_rfl) (by kernel_rfl) (fun _ _ _ h => h) (by rfl) ?_ (by assumption) ?_; rotate_left; (focus (intro w0 hSw; (try dsimp only at hSw); go_simp; (try with_reducible rfl))); (try simp only [Act.put, List.setIfInBounds_toArray, List.set_cons_zero, List.set_cons_succ]))
        (refine Rg.tk (i := 10) (d := 29) (v := ?_) rfl rfl (by kernel_rfl) (by kernel_rfl) (by kernel_rfl) (fun _ _ _ h => h) (by rfl) ?_ (by assumption) ?_; rotate_left; (focus (intro w0 hSw; (try dsimp only at hSw); go_simp; (try with_reducible rfl))); (try simp only [Act.put, List.setIfInBounds_toArray, List.set_cons_zero, List.set_cons_succ]))
        (refine Rg.tk (i := 11) (d := 30) (v := ?_) rfl rfl (by kernel_rfl) (by kernel_rfl) (by kernel_rfl) (fun _ _ _ h => h) (by rfl) ?_ (by assumption) ?_; rotate_left; (focus (intro w0 hSw; (try dsimp only at hSw); go_simp; (try with_reducible rfl))); (try simp only [Act.put, List.setIfInBounds_toArray, List.set_cons_zero, List.set_cons_succ]))
        (refine Rg.tk (i := 12) (d := 31) (v := ?_) rfl rfl (by kernel_rfl) (by kernel_rfl) (by kernel_rfl) (fun _ _ _ h => h) (by rfl) ?_ (by assumption) ?_; rotate_left; (focus (intro w0 hSw; (try dsimp only at hSw); go_simp; (try with_reducible rfl))); (try simp only [Act.put, List.setIfInBounds_toArray, List.set_cons_zero, List.set_cons_succ]))
        (refine wpAnyH_ready (rs := [15]) (by kernel_rfl) (by simp) ?_; refine AllReadyH.cons (o := _) rfl (fun K hK => ?_) AllReadyH.nil; go_simp)
        refine (digs ci (by omega) (by omega) _).mono ?_
        rintro e vDtccc ⟨rfl, dDtccc⟩
        rw [unhide HDC]
        have ODtccc := hide (Ss.own_below (unhide ODtcc) dDtccc)
        have EDtccc := hide ((unhide EDtcc).trans (dDtccc.mono (unhide EDtcc).size))
        have YDtccc := hide ((unhide YDtcc).below dDtccc)
        have CDtccc : Hid (vDtccc.cell? ⟨vD.heap.size, k, none⟩ = some (.string wk)) := hide ((dDtccc.cell (p := ⟨vD.heap.size, k, none⟩) (World.block_lt_of_cell? _ _ (unhide CDtcc))).trans (unhide CDtcc))
        clear dDtccc hHeld ODtcc EDtcc YDtcc CDtcc
        refine hK.out _ _ (sBoxT (unhide YDtccc) (unhide CDtccc)) (fun hHeld => ?_)
        clear hK K
        (try simp only [Act.put, List.setIfInBounds_toArray, List.set_cons_zero, List.set_cons_succ])
        (refine Rg.tk (i := 16) (d := 35) (v := ?_) rfl rfl (by kernel_rfl) (by kernel_rfl) (by kernel_rfl) (fun _ _ _ h => h) (by rfl) ?_ (by assumption) ?_; rotate_left; (focus (intro w0 hSw; (try dsimp only at hSw); go_simp; (try with_reducible rfl))); (try simp only [Act.put, List.setIfInBounds_toArray, List.set_cons_zero, List.set_cons_succ]))
        (refine Rg.tk (i := 17) (d := 36) (v := ?_) rfl rfl (by kernel_rfl) (by kernel_rfl) (by kernel_rfl) (fun _ _ _ h => h) (by rfl) ?_ (by assumption) ?_; rotate_left; (focus (intro w0 hSw; (try dsimp only at hSw); go_simp; (try with_reducible rfl))); (try simp only [Act.put, List.setIfInBounds_toArray, List.set_cons_zero, List.set_cons_succ]))
        (refine wpAnyH_ready (rs := [20]) (by kernel_rfl) (by simp) ?_; refine AllReadyH.cons (o := _) rfl (fun K hK => ?_) AllReadyH.nil; go_simp)
        refine (digs co (by omega) (by omega) _).mono ?_
        rintro e vDtcccc ⟨rfl, dDtcccc⟩
        rw [unhide HDQ]
        have ODtcccc := hide (Ss.own_below (unhide ODtccc) dDtcccc)
        have EDtcccc := hide ((unhide EDtccc).trans (dDtcccc.mono (unhide EDtccc).size))
        have YDtcccc := hide ((unhide YDtccc).below dDtcccc)
        have CDtcccc : Hid (vDtcccc.cell? ⟨vD.heap.size, k, none⟩ = some (.string wk)) := hide ((dDtcccc.cell (p := ⟨vD.heap.size, k, none⟩) (World.block_lt_of_cell? _ _ (unhide CDtccc))).trans (unhide CDtccc))
        clear dDtcccc hHeld ODtccc EDtccc YDtccc CDtccc
        refine hK.out _ _ (sBoxT (unhide YDtcccc) (unhide CDtcccc)) (fun hHeld => ?_)
        clear hK K
        (try simp only [Act.put, List.setIfInBounds_toArray, List.set_cons_zero, List.set_cons_succ])
        (refine Rg.tk (i := 21) (d := 40) (v := ?_) rfl rfl (by kernel_rfl) (by kernel_rfl) (by kernel_rfl) (fun _ _ _ h => h) (by rfl) ?_ (by assumption) ?_; rotate_left; (focus (intro w0 hSw; (try dsimp only at hSw); go_simp; (try with_reducible rfl))); (try simp only [Act.put, List.setIfInBounds_toArray, List.set_cons_zero, List.set_cons_succ]))
        (refine wpAnyH_ready (rs := [22]) (by kernel_rfl) (by simp) ?_; refine AllReadyH.cons (o := _) rfl (fun K hK => ?_) AllReadyH.nil; go_simp)
        have OA := hide ((unhide ODtcccc).alloc (.cells #[.string (da ++ s32 ++ wk ++ s32 ++ dc ++ s32 ++ dq)] 9))
        have EA := hide ((unhide EDtcccc).alloc (unhide EDtcccc).size (.cells #[.string (da ++ s32 ++ wk ++ s32 ++ dc ++ s32 ++ dq)] 9))
        have YA := hide ((unhide YDtcccc).below ((Below.refl _ _).alloc (Nat.le_refl _) (.cells #[.string (da ++ s32 ++ wk ++ s32 ++ dc ++ s32 ++ dq)] 9)))
        have CA : Hid ((vDtcccc.alloc (.cells #[.string (da ++ s32 ++ wk ++ s32 ++ dc ++ s32 ++ dq)] 9)).cell? ⟨vD.heap.size, k, none⟩ = some (.string wk)) := hide ((((Below.refl vDtcccc.heap.size vDtcccc).alloc (Nat.le_refl _) (.cells #[.string (da ++ s32 ++ wk ++ s32 ++ dc ++ s32 ++ dq)] 9)).cell (p := ⟨vD.heap.size, k, none⟩) (World.block_lt_of_cell? _ _ (unhide CDtcccc))).trans (unhide CDtcccc))
        have RA : Hid (Ss.RM (vDtcccc.alloc (.cells #[.string (da ++ s32 ++ wk ++ s32 ++ dc ++ s32 ++ dq)] 9)) (some ⟨vDtcccc.heap.size, 0, none⟩) [da ++ s32 ++ wk ++ s32 ++ dc ++ s32 ++ dq]) := hide (Ss.rm_new vDtcccc (da ++ s32 ++ wk ++ s32 ++ dc ++ s32 ++ dq))
        have hsA := (unhide EA).size
        clear hHeld
        refine hK.out _ _ (sBoxT (unhide YA) (unhide CA)) (fun hHeld => ?_)
        clear hK K
        (try simp only [Act.put, List.setIfInBounds_toArray, List.set_cons_zero, List.set_cons_succ])
        (refine wpAnyH_ready (rs := [23]) (by kernel_rfl) (by simp) ?_; refine AllReadyH.cons (o := _) rfl (fun K hK => ?_) AllReadyH.nil; rw [if_pos (by rfl)])
        refine Ss.wp_apS (unhide OA) vDtcccc.heap.size 0 1 1 [da ++ s32 ++ wk ++ s32 ++ dc ++ s32 ++ dq] rfl (unhide RA) (by simp only [List.length_cons, List.length_nil]; omega) hsA _ _ rfl rfl rfl rfl ?_
        intro vB wB oB gB
        have OB : Hid (wB.ownsRow w.heap.size 9 1 vB (txtL now ms (j + 1)).length (Ss.flat (txtL now ms (j + 1)))) := hide (by rw [unhide HTF]; exact oB)
        have EB := hide (Ss.below_own (unhide EA) (unhide OA) gB (Nat.le_refl _) hsA)
        have YB := hide (bx_kept (unhide YA) gB (fun e => by have := unhide HNO _ e.symm; omega))
        have CB : Hid (wB.cell? ⟨vD.heap.size, k, none⟩ = some (.string wk)) := hide ((World.cell?_of_block (a := ⟨vD.heap.size, k, none⟩) (gB.block vD.heap.size (World.block_lt_of_cell? _ _ (unhide CA)) (fun e => by have := unhide HNO _ e.symm; omega))).trans (unhide CA))
        clear oB gB hHeld
        refine hK.out _ _ (sBoxT (unhide YB) (unhide CB)) (fun hHeld => ?_)
        clear hK K
        (try simp only [Act.put, List.setIfInBounds_toArray, List.set_cons_zero, List.set_cons_succ])
        (refine Rg.tk (i := 24) (d := 5) (v := ?_) rfl rfl (by kernel_rfl) (by kernel_rfl) (by kernel_rfl) (fun _ _ _ h => h) (by rfl) ?_ (by assumption) ?_; rotate_left; (focus (intro w0 hSw; (try dsimp only at hSw); go_simp; (try with_reducible rfl))); (try simp only [Act.put, List.setIfInBounds_toArray, List.set_cons_zero, List.set_cons_succ]))
        refine wpAnyH_done (by kernel_rfl) (NoPanic.normal ?_) _
        clear hHeld
        go_wp2_with fail
        go_roundw
        case rel => exact ⟨j + 1, by omega, by go_num, OB, EB⟩
        case measure => simp [intOf]; omega
    · obtain rfl : j = n := by omega
      have HL := hide (Ss.lst_own rfl (unhide how))
      go_wp2_with fail
      go_ret
      exact ⟨_, rfl, unhide hbl, unhide HL⟩
set_option maxHeartbeats 2000000 in
theorem specText (g off : Nat) (ms : List R) (cap : Nat) (now : Int) (w : World) (hm : ms.length ≤ 1048576) (hr : RM w (some ⟨g, off, none⟩) ms) :
    Calls Tryd.prog 5 #[.slice (some ⟨g, off, none⟩) ms.length cap, .int .i64 now] w fun e w' => ∃ v, e = .returned (.tuple #[v, .int .i64 (codeL ms)]) ∧ Below w.heap.size w w' ∧ Ss.LstV w' v (txtA ms now) w.heap.size w'.heap.size := by
  have HR := hide hr
  clear hr
  by_cases hbig : (4096 : Int) < ms.length
  · have hc := code_long (ms := ms) (by omega)
    have h1 : txtA ms now = [] := by unfold txtA; rw [if_neg (by rw [hc]; omega)]
    rw [h1, hc]
    clear h1 hc
    go_enter Tryd.func5, Tryd.ntmps5
    go_wp2_with fail
    go_ret2
    exact ⟨_, rfl, (Below.refl _ _).alloc (Nat.le_refl _) _, Ss.lstV_nil _ _ _ _ _⟩
  have hsm : ms.length ≤ 4096 := by omega
  cases hs : linksB ms
  · have hc := code_bad (by omega) hs
    have h1 : txtA ms now = [] := by unfold txtA; rw [if_neg (by rw [hc]; omega)]
    rw [h1, hc]
    have HS := hide hs
    clear h1 hc hs
    go_enter Tryd.func5, Tryd.ntmps5
    go_wp2_with fail
    refine (specOK _ ms cap _ hm (unhide HR)).mono ?_
    rintro e w1 ⟨rfl, b1⟩
    rw [unhide HS]
    have hb1 := hide b1
    clear b1
    go_wp2_with fail
    go_ret2
    exact ⟨_, rfl, (unhide hb1).alloc (unhide hb1).size _, Ss.lstV_nil _ _ _ _ _⟩
  have hc := code_zero hs
  have h1 : txtA ms now = txtL now ms ms.length := by unfold txtA; rw [if_pos hc]
  rw [h1, hc]
  have HS := hide hs
  clear h1 hc hs
  go_enter Tryd.func5, Tryd.ntmps5
  go_wp2_with fail
  refine (specOK _ ms cap _ hm (unhide HR)).mono ?_
  rintro e w1 ⟨rfl, b1⟩
  rw [unhide HS]
  have hb1 := hide b1
  clear b1
  go_wp2_with fail
  refine (l06Text _ ms cap now _ (unhide HS) ((unhide HR).below (unhide hb1))).mono ?_
  rintro e w2 ⟨v, rfl, b2, hl⟩
  have hb2 := hide ((unhide hb1).trans (b2.mono (unhide hb1).size))
  have HL := hide (hl.mono (lo' := w.heap.size) (unhide hb1).size (Nat.le_refl _))
  clear b2 hl
  go_wp2_with fail
  go_ret2
  exact ⟨_, rfl, unhide hb2, unhide HL⟩
end Ln
end Go.Proofs.YtmelbilepfnmjanDoor
