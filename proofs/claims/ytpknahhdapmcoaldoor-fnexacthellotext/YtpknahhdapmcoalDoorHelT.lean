/-
  Contracts of HelloText, the program's and the model's: for every hello the text of a right one, or none and the code, where the program's table of words and the library's table of powers of ten lie as their initialisers lay them.
-/
import Derived.Test.YtpknahhdapmcoalDoorHelC
import Derived.Test.YtpknahhdapmcoalDoorDig
import Derived.Lib.AppendIntMem
namespace Go.Proofs.YtpknahhdapmcoalDoor
open Go.ChangeShapes Go.WideShapes Go.ChangeAt Go.RowKit
set_option linter.unusedVariables false
set_option linter.unusedSimpArgs false
attribute [local go_sem ↓] Go.wp_at_zero Go.wp_at_succ
attribute [local go_sem] ByteArray.size_append
namespace Hl
open W1 Nb
abbrev s32 : ByteArray := ⟨#[32]⟩
abbrev s58 : ByteArray := ⟨#[58]⟩
abbrev sWill : ByteArray := ⟨#[119, 105, 108, 108, 32]⟩
abbrev sValid : ByteArray := ⟨#[32, 118, 97, 108, 105, 100, 32]⟩
abbrev sMpr : ByteArray := ⟨#[58, 109, 112, 114]⟩
/-- The words of a status. -/
def wd (k : Int) : ByteArray := if k = 0 then ⟨#[108, 111, 115, 116]⟩ else if k = 1 then ⟨#[104, 101, 97, 114, 100]⟩ else ⟨#[115, 121, 109]⟩
def dg (n : Int) : ByteArray := Di.dig n.toNat
def nbT (m : R) : ByteArray := s32 ++ dg m.ad ++ s58 ++ wd m.st ++ s58 ++ dg m.mt
def headT (x y : Int) : ByteArray := sWill ++ dg x ++ sValid ++ dg y
/-- The text behind j neighbors. -/
def txtN (x y : Int) (ms : List R) : Nat → ByteArray
  | 0 => headT x y
  | j + 1 => if (ms.getD j R.zero).mp = true then txtN x y ms j ++ nbT (ms.getD j R.zero) ++ sMpr else txtN x y ms j ++ nbT (ms.getD j R.zero)
def txtS (x y : Int) (ms : List R) : ByteArray := if helB x y ms = true then txtN x y ms ms.length else ⟨#[]⟩
def txtE (x y : Int) (ms : List R) : Int := if helB x y ms = true then 0 else 1
theorem wd_size (k : Int) : (wd k).size ≤ 5 := by unfold wd; split <;> (try split) <;> decide
theorem dg_size {n : Int} (h : n ≤ 99999999) : (dg n).size ≤ 8 := Di.dig_size8 _ (by omega)
theorem nbT_size {m : R} (h : okN m = true) : (nbT m).size ≤ 24 := by
  have h1 := ok_ad h
  have h2 := ok_mt h
  have a := dg_size (n := m.ad) (by omega)
  have b := dg_size (n := m.mt) (by omega)
  have c := wd_size m.st
  have e1 : s32.size = 1 := rfl
  have e2 : s58.size = 1 := rfl
  unfold nbT; simp only [ByteArray.size_append]; omega
theorem txtN_size {x y : Int} {ms : List R} (h : helB x y ms = true) : ∀ j, j ≤ ms.length → (txtN x y ms j).size ≤ 28 + 28 * j
  | 0, _ => by
    have h1 := hel_will h
    have h2 := hel_valid h
    have a := dg_size (n := x) (by omega)
    have b := dg_size (n := y) (by omega)
    have e1 : sWill.size = 5 := rfl
    have e2 : sValid.size = 7 := rfl
    unfold txtN headT; simp only [ByteArray.size_append]; omega
  | j + 1, hj => by
    have ih := txtN_size h j (by omega)
    have := nbT_size (Ri.all_ok (hel_all h) (j := j) (by omega))
    have e1 : sMpr.size = 4 := rfl
    unfold txtN; split <;> (simp only [ByteArray.size_append]; omega)
/-- The tables lie where the program's and the library's variables are. -/
abbrev TabP (w : World) : Prop := Lib.TabIs Tryd.prog w "internal/strconv.uint64pow10" .u64 Lib.pow10Tab
abbrev wd0 : ByteArray := ⟨#[108, 111, 115, 116]⟩
abbrev wd1 : ByteArray := ⟨#[104, 101, 97, 114, 100]⟩
abbrev wd2 : ByteArray := ⟨#[115, 121, 109]⟩
theorem wd_0 : wd 0 = wd0 := rfl
theorem wd_1 : wd 1 = wd1 := rfl
theorem wd_2 : wd 2 = wd2 := rfl
def TabW (w : World) (G : Nat) : Prop := w.cell? ⟨G, 0, none⟩ = some (.string wd0) ∧ w.cell? ⟨G, 1, none⟩ = some (.string wd1) ∧ w.cell? ⟨G, 2, none⟩ = some (.string wd2)
theorem TabW.below {w w' : World} {G : Nat} (h : TabW w G) (hb : Below w.heap.size w w') : TabW w' G := by
  have hg : G < w.heap.size := World.block_lt_of_cell? _ _ h.1
  obtain ⟨h0, h1, h2⟩ := h
  exact ⟨(hb.cell (p := ⟨G, 0, none⟩) hg).trans h0, (hb.cell (p := ⟨G, 1, none⟩) hg).trans h1, (hb.cell (p := ⟨G, 2, none⟩) hg).trans h2⟩
theorem TabW.drew {w : World} {G : Nat} (h : TabW w G) : TabW w.drew G := h
theorem tab_new (w : World) (t : Nat) : TabW (w.alloc (.cells #[.string wd0, .string wd1, .string wd2] t)) w.heap.size := by
  refine ⟨?_, ?_, ?_⟩ <;> simp [World.cell?_alloc_new]
theorem wpAnyH_strong {P : Program} {ops : Array Oper} {Q : Exit → Act → World → Prop} {md : Region.Mode} {S S' : World → Prop} (hi : ∀ w, S' w → S w) :
    ∀ {fuel : Nat} {listed : Array Bool} {a : Act} {w : World}, wpAnyH P md ops Q S' fuel listed a w → wpAnyH P md ops Q S fuel listed a w
  | 0, _, _, _, h => h
  | fuel + 1, _, _, _, h => ⟨h.1, fun i hh => wpOp_mono (fun _ _ h' => ⟨hi _ h'.1, wpAnyH_strong hi h'.2⟩) (h.2 i hh)⟩
theorem itoa (n : Int) (h0 : 0 ≤ n) (h1 : n ≤ 99999999) (w : World) (ht : TabP w) :
    Calls Tryd.prog 20 #[.int .i64 n] w fun e w' => e = .returned (.string (dg n)) ∧ Below w.heap.size w w' := by
  refine (Tryd.strconv_Itoa n (by omega) (by omega) w ht).mono ?_
  rintro e w' ⟨rfl, k, os, rfl⟩
  refine ⟨?_, Lib.below_grow _ _ (Nat.le_refl _) _ _⟩
  obtain ⟨u, rfl⟩ := Int.eq_ofNat_of_zero_le h0
  rw [Lib.itoa_nonneg]; rfl
theorem digs (n : Int) (h0 : 0 ≤ n) (h1 : n ≤ 99999999) (w : World) :
    Calls Tryd.prog 17 #[.int .i64 n] w fun e w' => e = .returned (.string (dg n)) ∧ Below w.heap.size w w' := by
  obtain ⟨u, rfl⟩ := Int.eq_ofNat_of_zero_le h0
  exact Di.digits8 u (by omega) w
theorem sBx3t {w : World} {b : Nat} {x y : Int} {v : Value} (h : Bx3 w b x y v) : Bx3 w b x y v ∧ w.cell? ⟨b, 0, none⟩ = some (.int .i64 x) ∧ w.cell? ⟨b, 1, none⟩ = some (.int .i64 y) ∧ w.cell? ⟨b, 2, none⟩ = some v := ⟨h, h⟩
theorem sBoxW {w : World} {b G : Nat} {ad st mt : Int} {mp : Bool} (h : Bx w b ⟨ad, st, mt, mp⟩) (ht : TabW w G) : (Bx w b ⟨ad, st, mt, mp⟩ ∧ TabW w G) ∧ w.cell? ⟨b, 0, none⟩ = some (.int .i64 ad) ∧ w.cell? ⟨b, 1, none⟩ = some (.int .i64 st) ∧ w.cell? ⟨b, 2, none⟩ = some (.int .i64 mt) ∧ w.cell? ⟨b, 3, none⟩ = some (.bool mp) ∧ w.cell? ⟨G, 0, none⟩ = some (.string wd0) ∧ w.cell? ⟨G, 1, none⟩ = some (.string wd1) ∧ w.cell? ⟨G, 2, none⟩ = some (.string wd2) := ⟨⟨h, ht⟩, h.1, h.2.1, h.2.2.1, h.2.2.2, ht.1, ht.2.1, ht.2.2⟩
set_option maxRecDepth 100000 in
set_option maxHeartbeats 1000000 in
theorem specText (x y : Int) (a : Option Addr) (ms : List R) (cap : Nat) (w : World) (hm : ms.length ≤ 1048576) (hr : RM w a ms) :
    Calls Tryd.prog 6 #[.agg #[.int .i64 x, .int .i64 y, .slice a ms.length cap]] w fun e w' => e = .returned (.tuple #[.string (txtS x y ms), .int .i64 (txtE x y ms)]) ∧ Below w.heap.size w w' := by
  have HA : Hid (Below w.heap.size w (w.alloc (.cells #[.int .i64 x, .int .i64 y, .slice a ms.length cap] 30))) := hide ((Below.refl _ _).alloc (Nat.le_refl _) _)
  have HX : Hid (Bx3 (w.alloc (.cells #[.int .i64 x, .int .i64 y, .slice a ms.length cap] 30)) w.heap.size x y (.slice a ms.length cap)) := hide (bx3_new w x y _ _)
  have HR := hide ((hr).below (unhide HA))
  have HR0 := hide hr
  clear hr
  cases hh : helB x y ms
  · have h1 : txtS x y ms = ⟨#[]⟩ := by unfold txtS; rw [if_neg (by simp [hh])]
    have h2 : txtE x y ms = 1 := by unfold txtE; rw [if_neg (by simp [hh])]
    rw [h1, h2]
    have HH := hide hh
    clear h1 h2 hh
    go_enter Tryd.func6, Tryd.ntmps6
    go_wp2_with fail
    refine (specOK x y a ms cap _ hm (unhide HR)).mono ?_
    rintro e w1 ⟨rfl, b1⟩
    rw [unhide HH]
    have hb1 := hide ((unhide HA).trans (b1.mono (unhide HA).size))
    clear b1
    go_wp2_with fail
    go_ret2
    exact ⟨rfl, unhide hb1⟩
  have h1 : txtS x y ms = txtN x y ms ms.length := by unfold txtS; rw [if_pos hh]
  have h2 : txtE x y ms = 0 := by unfold txtE; rw [if_pos hh]
  rw [h1, h2]
  have h8 := hel_len hh
  obtain ⟨x0, x1⟩ := hel_will hh
  obtain ⟨y0, y1⟩ := hel_valid hh
  have HOK : Hid (∀ j, j < ms.length → okN (ms.getD j R.zero) = true) := hide (fun j hj => Ri.all_ok (hel_all hh) hj)
  have HSZ := hide (txtN_size hh)
  have HH := hide hh
  clear h1 h2 hh
  go_enter Tryd.func6, Tryd.ntmps6
  go_wp2_with fail
  refine (specOK x y a ms cap _ hm (unhide HR)).mono ?_
  rintro e w1 ⟨rfl, b1⟩
  rw [unhide HH]
  have X1 := hide ((unhide HX).below b1)
  have HR1 := hide ((unhide HR).below b1)
  have D1 := hide ((unhide HA).trans (b1.mono (unhide HA).size))
  clear b1 HX HR HA
  have sx := dg_size (n := x) (by omega)
  have sy := dg_size (n := y) (by omega)
  go_wp2_with fail
  refine wp_region_noPanic ?_
  refine wp_region_held_drew (S := fun w' => Bx3 w' w.heap.size x y (.slice a ms.length cap) ∧ w'.cell? ⟨w.heap.size, 0, none⟩ = some (.int .i64 x) ∧ w'.cell? ⟨w.heap.size, 1, none⟩ = some (.int .i64 y) ∧ w'.cell? ⟨w.heap.size, 2, none⟩ = some (.slice a ms.length cap)) (by kernel_rfl) (sBx3t (unhide X1).drew) (fun hHeld => ?_)
  (refine Rg.tk (i := 0) (d := 10) (v := ?_) rfl rfl (by kernel_rfl) (by kernel_rfl) (by kernel_rfl) (fun _ _ _ h => h) (by rfl) ?_ (by assumption) ?_; rotate_left; (focus (intro w0 hSw; (try dsimp only at hSw); go_simp; (try with_reducible rfl))); (try simp only [Act.put, List.setIfInBounds_toArray, List.set_cons_zero, List.set_cons_succ]))
  (refine Rg.tk (i := 1) (d := 11) (v := ?_) rfl rfl (by kernel_rfl) (by kernel_rfl) (by kernel_rfl) (fun _ _ _ h => h) (by rfl) ?_ (by assumption) ?_; rotate_left; (focus (intro w0 hSw; (try dsimp only at hSw); go_simp; (try with_reducible rfl))); (try simp only [Act.put, List.setIfInBounds_toArray, List.set_cons_zero, List.set_cons_succ]))
  (refine Rg.tk (i := 5) (d := 15) (v := ?_) rfl rfl (by kernel_rfl) (by kernel_rfl) (by kernel_rfl) (fun _ _ _ h => h) (by rfl) ?_ (by assumption) ?_; rotate_left; (focus (intro w0 hSw; (try dsimp only at hSw); go_simp; (try with_reducible rfl))); (try simp only [Act.put, List.setIfInBounds_toArray, List.set_cons_zero, List.set_cons_succ]))
  (refine Rg.tk (i := 6) (d := 16) (v := ?_) rfl rfl (by kernel_rfl) (by kernel_rfl) (by kernel_rfl) (fun _ _ _ h => h) (by rfl) ?_ (by assumption) ?_; rotate_left; (focus (intro w0 hSw; (try dsimp only at hSw); go_simp; (try with_reducible rfl))); (try simp only [Act.put, List.setIfInBounds_toArray, List.set_cons_zero, List.set_cons_succ]))
  (refine wpAnyH_ready (rs := [2]) (by kernel_rfl) (by simp) ?_; refine AllReadyH.cons (o := _) rfl (fun K hK => ?_) AllReadyH.nil; go_simp)
  refine (digs (x) (by omega) (by omega) _).mono ?_
  rintro e w2 ⟨rfl, b2⟩
  have X2 := hide ((unhide X1).drew.below b2)
  have D2 := hide ((unhide D1).drew.trans (b2.mono (by show w.heap.size ≤ w1.heap.size; exact (unhide D1).size)))
  clear b2 hHeld
  refine hK.out _ _ (sBx3t (unhide X2)) (fun hHeld => ?_)
  clear hK K
  (try simp only [Act.put, List.setIfInBounds_toArray, List.set_cons_zero, List.set_cons_succ])
  have HHD : Hid (sWill ++ dg x ++ sValid ++ dg y = txtN x y ms 0) := hide rfl
  generalize hdx : dg x = dx at *
  generalize hdy : dg y = dy at *
  have HDY := hide hdy
  clear hdx hdy
  have q1 : ¬ (9223372036854775807 < 5 + dx.size) := by omega
  have q2 : ¬ (9223372036854775807 < 5 + dx.size + 7) := by omega
  have q3 : ¬ (9223372036854775807 < 5 + dx.size + 7 + dy.size) := by omega
  (refine Rg.tk (i := 3) (d := 13) (v := ?_) rfl rfl (by kernel_rfl) (by kernel_rfl) (by kernel_rfl) (fun _ _ _ h => h) (by rfl) ?_ (by assumption) ?_; rotate_left; (focus (intro w0 hSw; (try dsimp only at hSw); go_simp; (try with_reducible rfl))); (try simp only [Act.put, List.setIfInBounds_toArray, List.set_cons_zero, List.set_cons_succ]))
  (refine Rg.tk (i := 4) (d := 14) (v := ?_) rfl rfl (by kernel_rfl) (by kernel_rfl) (by kernel_rfl) (fun _ _ _ h => h) (by rfl) ?_ (by assumption) ?_; rotate_left; (focus (intro w0 hSw; (try dsimp only at hSw); go_simp; (try with_reducible rfl))); (try simp only [Act.put, List.setIfInBounds_toArray, List.set_cons_zero, List.set_cons_succ]))
  (refine wpAnyH_ready (rs := [7]) (by kernel_rfl) (by simp) ?_; refine AllReadyH.cons (o := _) rfl (fun K hK => ?_) AllReadyH.nil; go_simp)
  refine (digs (y) (by omega) (by omega) _).mono ?_
  rintro e w3 ⟨rfl, b3⟩
  rw [unhide HDY]
  have X3 := hide ((unhide X2).below b3)
  have D3 := hide ((unhide D2).trans (b3.mono (unhide D2).size))
  clear b3 hHeld
  refine hK.out _ _ (sBx3t (unhide X3)) (fun hHeld => ?_)
  clear hK K
  (try simp only [Act.put, List.setIfInBounds_toArray, List.set_cons_zero, List.set_cons_succ])
  (refine Rg.tk (i := 8) (d := 18) (v := ?_) rfl rfl (by kernel_rfl) (by kernel_rfl) (by kernel_rfl) (fun _ _ _ h => h) (by rfl) ?_ (by assumption) ?_; rotate_left; (focus (intro w0 hSw; (try dsimp only at hSw); go_simp; (try with_reducible rfl))); (try simp only [Act.put, List.setIfInBounds_toArray, List.set_cons_zero, List.set_cons_succ]))
  (refine Rg.tk (i := 9) (d := 4) (v := ?_) rfl rfl (by kernel_rfl) (by kernel_rfl) (by kernel_rfl) (fun _ _ _ h => h) (by rfl) ?_ (by assumption) ?_; rotate_left; (focus (intro w0 hSw; (try dsimp only at hSw); go_simp; (try with_reducible rfl))); (try simp only [Act.put, List.setIfInBounds_toArray, List.set_cons_zero, List.set_cons_succ]))
  refine wpAnyH_done (by kernel_rfl) (NoPanic.normal ?_) _
  clear hHeld q1 q2 q3 X1 X2 D2
  have R3 := hide ((unhide HR0).below (unhide D3))
  generalize hN : ms.length = n at *
  have HN := hide hN
  clear hN
  go_wp2_with fail
  rw [unhide HHD]
  go_loopw [4, 5] (fun v i wr => ∃ j : Nat, j ≤ n ∧ i = .int .i64 j ∧ v = .string (txtN x y ms j) ∧ Hid (Below w3.heap.size w3 wr)) (fun _ i _ => n - (intOf i).toNat)
  case atStart => exact ⟨0, by omega, rfl, rfl, hide (Below.refl _ _)⟩
  case round =>
    obtain ⟨j, hj, rfl, rfl, hbl⟩ := hrel
    have hbx := ((unhide X3).below (unhide hbl)).2.2
    by_cases hlt : (j : Int) < (n : Int)
    · have k0 : (0 : Int) ≤ (j : Int) := by omega
      have hlen : j < ms.length := by rw [unhide HN]; omega
      rcases (unhide R3).below (by exact (unhide hbl)) with e0 | ⟨g, off, rfl, hc⟩
      · exfalso; rw [e0] at hlen; simp at hlen
      have hA := hc j hlen
      clear hc
      have hok := unhide HOK j (by omega)
      obtain ⟨a0, a1⟩ := ok_ad hok
      obtain ⟨s0, s1⟩ := ok_st hok
      obtain ⟨m0, m1⟩ := ok_mt hok
      have hT0 := unhide HSZ j (by omega)
      have hT : (txtN x y ms j).size ≤ 252 := by omega
      have sa := dg_size (n := (ms.getD j R.zero).ad) (by omega)
      have sm := dg_size (n := (ms.getD j R.zero).mt) (by omega)
      have HQ : Hid (txtN x y ms j ++ (s32 ++ dg (ms.getD j R.zero).ad ++ s58 ++ wd (ms.getD j R.zero).st ++ s58 ++ dg (ms.getD j R.zero).mt) = txtN x y ms j ++ nbT (ms.getD j R.zero)) := hide rfl
      have HST : Hid (txtN x y ms (j + 1) = if (ms.getD j R.zero).mp = true then txtN x y ms j ++ nbT (ms.getD j R.zero) ++ sMpr else txtN x y ms j ++ nbT (ms.getD j R.zero)) := hide rfl
      have hnz := nbT_size hok
      have Y0 := hide (bx_new wr (ms.getD j R.zero) 49)
      have E0 := hide ((unhide hbl).alloc (unhide hbl).size (.cells #[.int .i64 (ms.getD j R.zero).ad, .int .i64 (ms.getD j R.zero).st, .int .i64 (ms.getD j R.zero).mt, .bool (ms.getD j R.zero).mp] 49))
      clear hok hT0
      generalize ms.getD j R.zero = m at *
      obtain ⟨ad, st, mt, mp⟩ := m
      obtain ⟨c0, c1, c2, c3⟩ := hA
      dsimp only at c0 c1 c2 c3 a0 a1 s0 s1 m0 m1 sa sm HQ HST Y0 E0
      generalize hda : dg ad = da at *
      have HDA := hide hda
      clear hda
      generalize hdm : dg mt = dm at *
      have HDM := hide hdm
      clear hdm
      generalize hTT : txtN x y ms j = T at *
      clear hTT
      generalize hnb : nbT ⟨ad, st, mt, mp⟩ = nb at *
      clear hnb
      have h3 : st = 0 ∨ st = 1 ∨ st = 2 := by omega
      clear s0 s1
      rcases h3 with rfl | rfl | rfl
      ·
        simp only [wd_0] at HQ
        have qq0 : ¬ (9223372036854775807 < 1 + da.size) := by omega
        have qq1 : ¬ (9223372036854775807 < 1 + da.size + 1) := by omega
        have qq2 : ¬ (9223372036854775807 < 1 + da.size + 1 + 4) := by omega
        have qq3 : ¬ (9223372036854775807 < 1 + da.size + 1 + 4 + 1) := by omega
        have qq4 : ¬ (9223372036854775807 < 1 + da.size + 1 + 4 + 1 + dm.size) := by omega
        have qq5 : ¬ (9223372036854775807 < T.size + (1 + da.size + 1 + 4 + 1 + dm.size)) := by omega
        have qq6 : ¬ (9223372036854775807 < T.size + nb.size + 4) := by omega
        go_wp2_with fail
        generalize hW : wr.alloc (.cells _ _) = W1 at *
        clear hW
        refine wp_region_noPanic ?_
        refine wp_region_held_drew (S := fun w' => Bx w' wr.heap.size ⟨ad, 0, mt, mp⟩ ∧ w'.cell? ⟨wr.heap.size, 0, none⟩ = some (.int .i64 ad) ∧ w'.cell? ⟨wr.heap.size, 1, none⟩ = some (.int .i64 0) ∧ w'.cell? ⟨wr.heap.size, 2, none⟩ = some (.int .i64 mt) ∧ w'.cell? ⟨wr.heap.size, 3, none⟩ = some (.bool mp)) (by kernel_rfl) (sBox (unhide Y0).drew) (fun hHeld => ?_)
        (refine Rg.tk (i := 0) (d := 31) (v := ?_) rfl rfl (by kernel_rfl) (by kernel_rfl) (by kernel_rfl) (fun _ _ _ h => h) (by rfl) ?_ (by assumption) ?_; rotate_left; (focus (intro w0 hSw; (try dsimp only at hSw); go_simp; (try with_reducible rfl))); (try simp only [Act.put, List.setIfInBounds_toArray, List.set_cons_zero, List.set_cons_succ]))
        (refine Rg.tk (i := 1) (d := 32) (v := ?_) rfl rfl (by kernel_rfl) (by kernel_rfl) (by kernel_rfl) (fun _ _ _ h => h) (by rfl) ?_ (by assumption) ?_; rotate_left; (focus (intro w0 hSw; (try dsimp only at hSw); go_simp; (try with_reducible rfl))); (try simp only [Act.put, List.setIfInBounds_toArray, List.set_cons_zero, List.set_cons_succ]))
        (refine Rg.tk (i := 2) (d := 33) (v := ?_) rfl rfl (by kernel_rfl) (by kernel_rfl) (by kernel_rfl) (fun _ _ _ h => h) (by rfl) ?_ (by assumption) ?_; rotate_left; (focus (intro w0 hSw; (try dsimp only at hSw); go_simp; (try with_reducible rfl))); (try simp only [Act.put, List.setIfInBounds_toArray, List.set_cons_zero, List.set_cons_succ]))
        (refine Rg.tk (i := 7) (d := 38) (v := ?_) rfl rfl (by kernel_rfl) (by kernel_rfl) (by kernel_rfl) (fun _ _ _ h => h) (by rfl) ?_ (by assumption) ?_; rotate_left; (focus (intro w0 hSw; (try dsimp only at hSw); go_simp; (try with_reducible rfl))); (try simp only [Act.put, List.setIfInBounds_toArray, List.set_cons_zero, List.set_cons_succ]))
        (refine Rg.tk (i := 8) (d := 39) (v := ?_) rfl rfl (by kernel_rfl) (by kernel_rfl) (by kernel_rfl) (fun _ _ _ h => h) (by rfl) ?_ (by assumption) ?_; rotate_left; (focus (intro w0 hSw; (try dsimp only at hSw); go_simp; (try with_reducible rfl))); (try simp only [Act.put, List.setIfInBounds_toArray, List.set_cons_zero, List.set_cons_succ]))
        (refine Rg.tk (i := 13) (d := 44) (v := ?_) rfl rfl (by kernel_rfl) (by kernel_rfl) (by kernel_rfl) (fun _ _ _ h => h) (by rfl) ?_ (by assumption) ?_; rotate_left; (focus (intro w0 hSw; (try dsimp only at hSw); go_simp; (try with_reducible rfl))); (try simp only [Act.put, List.setIfInBounds_toArray, List.set_cons_zero, List.set_cons_succ]))
        (refine Rg.tk (i := 14) (d := 45) (v := ?_) rfl rfl (by kernel_rfl) (by kernel_rfl) (by kernel_rfl) (fun _ _ _ h => h) (by rfl) ?_ (by assumption) ?_; rotate_left; (focus (intro w0 hSw; (try dsimp only at hSw); go_simp; (try with_reducible rfl))); (try simp only [Act.put, List.setIfInBounds_toArray, List.set_cons_zero, List.set_cons_succ]))
        have YD := hide ((unhide Y0).drew)
        have ED := hide ((unhide E0).drew)
        clear Y0 E0
        have Y0 := YD
        have E0 := ED
        clear YD ED
        generalize hV : W1.drew = V0 at *
        clear hV
        (refine wpAnyH_ready (rs := [3, 6]) (by kernel_rfl) (by simp) ?_; refine AllReadyH.cons (o := _) rfl (fun K hK => ?_) (AllReadyH.cons (o := _) rfl (fun K hK => ?_) AllReadyH.nil))
        · go_simp
          refine (digs (ad) (by omega) (by omega) _).mono ?_
          rintro e v1 ⟨rfl, d1⟩
          rw [unhide HDA]
          have Y1 := hide ((unhide Y0).below d1)
          have E1 := hide ((unhide E0).trans (d1.mono (unhide E0).size))
          clear d1 hHeld
          refine hK.out _ _ (sBox (unhide Y1)) (fun hHeld => ?_)
          clear hK K
          (try simp only [Act.put, List.setIfInBounds_toArray, List.set_cons_zero, List.set_cons_succ])
          (refine Rg.tk (i := 4) (d := 35) (v := ?_) rfl rfl (by kernel_rfl) (by kernel_rfl) (by kernel_rfl) (fun _ _ _ h => h) (by rfl) ?_ (by assumption) ?_; rotate_left; (focus (intro w0 hSw; (try dsimp only at hSw); go_simp; (try with_reducible rfl))); (try simp only [Act.put, List.setIfInBounds_toArray, List.set_cons_zero, List.set_cons_succ]))
          (refine Rg.tk (i := 5) (d := 36) (v := ?_) rfl rfl (by kernel_rfl) (by kernel_rfl) (by kernel_rfl) (fun _ _ _ h => h) (by rfl) ?_ (by assumption) ?_; rotate_left; (focus (intro w0 hSw; (try dsimp only at hSw); go_simp; (try with_reducible rfl))); (try simp only [Act.put, List.setIfInBounds_toArray, List.set_cons_zero, List.set_cons_succ]))
          (refine wpAnyH_ready (rs := [6, 15]) (by kernel_rfl) (by simp) ?_; refine AllReadyH.cons (o := _) rfl (fun K hK => ?_) (AllReadyH.cons (o := _) rfl (fun K hK => ?_) AllReadyH.nil))
          · go_simp
            have Y9 := hide ((unhide Y1).below ((Below.refl _ _).alloc (Nat.le_refl _) (.cells #[.string wd0, .string wd1, .string wd2] 9)))
            have E9 := hide ((unhide E1).alloc (unhide E1).size (.cells #[.string wd0, .string wd1, .string wd2] 9))
            have W9 := hide (tab_new v1 9)
            clear hHeld
            refine hK.out _ _ (sBox (unhide Y9)) (fun hHeld => ?_)
            clear hK K hHeld
            (try simp only [Act.put, List.setIfInBounds_toArray, List.set_cons_zero, List.set_cons_succ])
            refine wpAnyH_strong (S' := fun w' => (Bx w' wr.heap.size ⟨ad, 0, mt, mp⟩ ∧ TabW w' v1.heap.size) ∧ w'.cell? ⟨wr.heap.size, 0, none⟩ = some (.int .i64 ad) ∧ w'.cell? ⟨wr.heap.size, 1, none⟩ = some (.int .i64 0) ∧ w'.cell? ⟨wr.heap.size, 2, none⟩ = some (.int .i64 mt) ∧ w'.cell? ⟨wr.heap.size, 3, none⟩ = some (.bool mp) ∧ w'.cell? ⟨v1.heap.size, 0, none⟩ = some (.string wd0) ∧ w'.cell? ⟨v1.heap.size, 1, none⟩ = some (.string wd1) ∧ w'.cell? ⟨v1.heap.size, 2, none⟩ = some (.string wd2)) (fun _ h => sBox h.1.1) ?_
            have hHeld := sBoxW (unhide Y9) (unhide W9)
            (refine Rg.tk (i := 9) (d := 40) (v := ?_) rfl rfl (by kernel_rfl) (by kernel_rfl) (by kernel_rfl) (fun _ _ _ h => h) (by rfl) ?_ (by assumption) ?_; rotate_left; (focus (intro w0 hSw; (try dsimp only at hSw); go_simp; (try with_reducible rfl))); (try simp only [Act.put, List.setIfInBounds_toArray, List.set_cons_zero, List.set_cons_succ]))
            (refine Rg.tk (i := 10) (d := 41) (v := ?_) rfl rfl (by kernel_rfl) (by kernel_rfl) (by kernel_rfl) (fun _ _ _ h => h) (by rfl) ?_ (by assumption) ?_; rotate_left; (focus (intro w0 hSw; (try dsimp only at hSw); go_simp; (try with_reducible rfl))); (try simp only [Act.put, List.setIfInBounds_toArray, List.set_cons_zero, List.set_cons_succ]))
            (refine Rg.tk (i := 11) (d := 42) (v := ?_) rfl rfl (by kernel_rfl) (by kernel_rfl) (by kernel_rfl) (fun _ _ _ h => h) (by rfl) ?_ (by assumption) ?_; rotate_left; (focus (intro w0 hSw; (try dsimp only at hSw); go_simp; (try with_reducible rfl))); (try simp only [Act.put, List.setIfInBounds_toArray, List.set_cons_zero, List.set_cons_succ]))
            (refine Rg.tk (i := 12) (d := 43) (v := ?_) rfl rfl (by kernel_rfl) (by kernel_rfl) (by kernel_rfl) (fun _ _ _ h => h) (by rfl) ?_ (by assumption) ?_; rotate_left; (focus (intro w0 hSw; (try dsimp only at hSw); go_simp; (try with_reducible rfl))); (try simp only [Act.put, List.setIfInBounds_toArray, List.set_cons_zero, List.set_cons_succ]))
            (refine wpAnyH_ready (rs := [15]) (by kernel_rfl) (by simp) ?_; refine AllReadyH.cons (o := _) rfl (fun K hK => ?_) AllReadyH.nil; go_simp)
            refine (digs (mt) (by omega) (by omega) _).mono ?_
            rintro e v12 ⟨rfl, d12⟩
            rw [unhide HDM]
            have Y12 := hide ((unhide Y9).below d12)
            have E12 := hide ((unhide E9).trans (d12.mono (unhide E9).size))
            have W12 := hide ((unhide W9).below d12)
            clear d12 hHeld
            refine hK.out _ _ (sBoxW (unhide Y12) (unhide W12)) (fun hHeld => ?_)
            clear hK K
            (try simp only [Act.put, List.setIfInBounds_toArray, List.set_cons_zero, List.set_cons_succ])
            (refine Rg.tk (i := 16) (d := 47) (v := ?_) rfl rfl (by kernel_rfl) (by kernel_rfl) (by kernel_rfl) (fun _ _ _ h => h) (by rfl) ?_ (by assumption) ?_; rotate_left; (focus (intro w0 hSw; (try dsimp only at hSw); go_simp; (try with_reducible rfl))); (try simp only [Act.put, List.setIfInBounds_toArray, List.set_cons_zero, List.set_cons_succ]))
            (refine Rg.tk (i := 17) (d := 48) (v := ?_) rfl rfl (by kernel_rfl) (by kernel_rfl) (by kernel_rfl) (fun _ _ _ h => h) (by rfl) ?_ (by assumption) ?_; rotate_left; (focus (intro w0 hSw; (try dsimp only at hSw); go_simp; (try with_reducible rfl))); (try simp only [Act.put, List.setIfInBounds_toArray, List.set_cons_zero, List.set_cons_succ]))
            (refine Rg.tk (i := 18) (d := 4) (v := ?_) rfl rfl (by kernel_rfl) (by kernel_rfl) (by kernel_rfl) (fun _ _ _ h => h) (by rfl) ?_ (by assumption) ?_; rotate_left; (focus (intro w0 hSw; (try dsimp only at hSw); go_simp; (try with_reducible rfl))); (try simp only [Act.put, List.setIfInBounds_toArray, List.set_cons_zero, List.set_cons_succ]))
            refine wpAnyH_done (by kernel_rfl) (NoPanic.normal ?_) _
            clear hHeld
            have z3 := (unhide Y12).2.2.2
            dsimp only at z3
            rw [unhide HQ]
            cases mp
            all_goals
              go_wp2_with fail
              go_roundw
              case rel => exact ⟨j + 1, by omega, by go_num, congrArg Value.string (by rw [unhide HST]; rfl), E12⟩
              case measure => simp [intOf]; omega
          · go_simp
            refine (digs (mt) (by omega) (by omega) _).mono ?_
            rintro e v2 ⟨rfl, d2⟩
            rw [unhide HDM]
            have Y2 := hide ((unhide Y1).below d2)
            have E2 := hide ((unhide E1).trans (d2.mono (unhide E1).size))
            clear d2 hHeld
            refine hK.out _ _ (sBox (unhide Y2)) (fun hHeld => ?_)
            clear hK K
            (try simp only [Act.put, List.setIfInBounds_toArray, List.set_cons_zero, List.set_cons_succ])
            (refine wpAnyH_ready (rs := [6]) (by kernel_rfl) (by simp) ?_; refine AllReadyH.cons (o := _) rfl (fun K hK => ?_) AllReadyH.nil; go_simp)
            have Y9 := hide ((unhide Y2).below ((Below.refl _ _).alloc (Nat.le_refl _) (.cells #[.string wd0, .string wd1, .string wd2] 9)))
            have E9 := hide ((unhide E2).alloc (unhide E2).size (.cells #[.string wd0, .string wd1, .string wd2] 9))
            have W9 := hide (tab_new v2 9)
            clear hHeld
            refine hK.out _ _ (sBox (unhide Y9)) (fun hHeld => ?_)
            clear hK K hHeld
            (try simp only [Act.put, List.setIfInBounds_toArray, List.set_cons_zero, List.set_cons_succ])
            refine wpAnyH_strong (S' := fun w' => (Bx w' wr.heap.size ⟨ad, 0, mt, mp⟩ ∧ TabW w' v2.heap.size) ∧ w'.cell? ⟨wr.heap.size, 0, none⟩ = some (.int .i64 ad) ∧ w'.cell? ⟨wr.heap.size, 1, none⟩ = some (.int .i64 0) ∧ w'.cell? ⟨wr.heap.size, 2, none⟩ = some (.int .i64 mt) ∧ w'.cell? ⟨wr.heap.size, 3, none⟩ = some (.bool mp) ∧ w'.cell? ⟨v2.heap.size, 0, none⟩ = some (.string wd0) ∧ w'.cell? ⟨v2.heap.size, 1, none⟩ = some (.string wd1) ∧ w'.cell? ⟨v2.heap.size, 2, none⟩ = some (.string wd2)) (fun _ h => sBox h.1.1) ?_
            have hHeld := sBoxW (unhide Y9) (unhide W9)
            (refine Rg.tk (i := 9) (d := 40) (v := ?_) rfl rfl (by kernel_rfl) (by kernel_rfl) (by kernel_rfl) (fun _ _ _ h => h) (by rfl) ?_ (by assumption) ?_; rotate_left; (focus (intro w0 hSw; (try dsimp only at hSw); go_simp; (try with_reducible rfl))); (try simp only [Act.put, List.setIfInBounds_toArray, List.set_cons_zero, List.set_cons_succ]))
            (refine Rg.tk (i := 10) (d := 41) (v := ?_) rfl rfl (by kernel_rfl) (by kernel_rfl) (by kernel_rfl) (fun _ _ _ h => h) (by rfl) ?_ (by assumption) ?_; rotate_left; (focus (intro w0 hSw; (try dsimp only at hSw); go_simp; (try with_reducible rfl))); (try simp only [Act.put, List.setIfInBounds_toArray, List.set_cons_zero, List.set_cons_succ]))
            (refine Rg.tk (i := 11) (d := 42) (v := ?_) rfl rfl (by kernel_rfl) (by kernel_rfl) (by kernel_rfl) (fun _ _ _ h => h) (by rfl) ?_ (by assumption) ?_; rotate_left; (focus (intro w0 hSw; (try dsimp only at hSw); go_simp; (try with_reducible rfl))); (try simp only [Act.put, List.setIfInBounds_toArray, List.set_cons_zero, List.set_cons_succ]))
            (refine Rg.tk (i := 12) (d := 43) (v := ?_) rfl rfl (by kernel_rfl) (by kernel_rfl) (by kernel_rfl) (fun _ _ _ h => h) (by rfl) ?_ (by assumption) ?_; rotate_left; (focus (intro w0 hSw; (try dsimp only at hSw); go_simp; (try with_reducible rfl))); (try simp only [Act.put, List.setIfInBounds_toArray, List.set_cons_zero, List.set_cons_succ]))
            (refine Rg.tk (i := 16) (d := 47) (v := ?_) rfl rfl (by kernel_rfl) (by kernel_rfl) (by kernel_rfl) (fun _ _ _ h => h) (by rfl) ?_ (by assumption) ?_; rotate_left; (focus (intro w0 hSw; (try dsimp only at hSw); go_simp; (try with_reducible rfl))); (try simp only [Act.put, List.setIfInBounds_toArray, List.set_cons_zero, List.set_cons_succ]))
            (refine Rg.tk (i := 17) (d := 48) (v := ?_) rfl rfl (by kernel_rfl) (by kernel_rfl) (by kernel_rfl) (fun _ _ _ h => h) (by rfl) ?_ (by assumption) ?_; rotate_left; (focus (intro w0 hSw; (try dsimp only at hSw); go_simp; (try with_reducible rfl))); (try simp only [Act.put, List.setIfInBounds_toArray, List.set_cons_zero, List.set_cons_succ]))
            (refine Rg.tk (i := 18) (d := 4) (v := ?_) rfl rfl (by kernel_rfl) (by kernel_rfl) (by kernel_rfl) (fun _ _ _ h => h) (by rfl) ?_ (by assumption) ?_; rotate_left; (focus (intro w0 hSw; (try dsimp only at hSw); go_simp; (try with_reducible rfl))); (try simp only [Act.put, List.setIfInBounds_toArray, List.set_cons_zero, List.set_cons_succ]))
            refine wpAnyH_done (by kernel_rfl) (NoPanic.normal ?_) _
            clear hHeld
            have z3 := (unhide Y9).2.2.2
            dsimp only at z3
            rw [unhide HQ]
            cases mp
            all_goals
              go_wp2_with fail
              go_roundw
              case rel => exact ⟨j + 1, by omega, by go_num, congrArg Value.string (by rw [unhide HST]; rfl), E9⟩
              case measure => simp [intOf]; omega
        · go_simp
          have Y9 := hide ((unhide Y0).below ((Below.refl _ _).alloc (Nat.le_refl _) (.cells #[.string wd0, .string wd1, .string wd2] 9)))
          have E9 := hide ((unhide E0).alloc (unhide E0).size (.cells #[.string wd0, .string wd1, .string wd2] 9))
          have W9 := hide (tab_new V0 9)
          clear hHeld
          refine hK.out _ _ (sBox (unhide Y9)) (fun hHeld => ?_)
          clear hK K hHeld
          (try simp only [Act.put, List.setIfInBounds_toArray, List.set_cons_zero, List.set_cons_succ])
          refine wpAnyH_strong (S' := fun w' => (Bx w' wr.heap.size ⟨ad, 0, mt, mp⟩ ∧ TabW w' V0.heap.size) ∧ w'.cell? ⟨wr.heap.size, 0, none⟩ = some (.int .i64 ad) ∧ w'.cell? ⟨wr.heap.size, 1, none⟩ = some (.int .i64 0) ∧ w'.cell? ⟨wr.heap.size, 2, none⟩ = some (.int .i64 mt) ∧ w'.cell? ⟨wr.heap.size, 3, none⟩ = some (.bool mp) ∧ w'.cell? ⟨V0.heap.size, 0, none⟩ = some (.string wd0) ∧ w'.cell? ⟨V0.heap.size, 1, none⟩ = some (.string wd1) ∧ w'.cell? ⟨V0.heap.size, 2, none⟩ = some (.string wd2)) (fun _ h => sBox h.1.1) ?_
          have hHeld := sBoxW (unhide Y9) (unhide W9)
          (refine Rg.tk (i := 9) (d := 40) (v := ?_) rfl rfl (by kernel_rfl) (by kernel_rfl) (by kernel_rfl) (fun _ _ _ h => h) (by rfl) ?_ (by assumption) ?_; rotate_left; (focus (intro w0 hSw; (try dsimp only at hSw); go_simp; (try with_reducible rfl))); (try simp only [Act.put, List.setIfInBounds_toArray, List.set_cons_zero, List.set_cons_succ]))
          (refine Rg.tk (i := 10) (d := 41) (v := ?_) rfl rfl (by kernel_rfl) (by kernel_rfl) (by kernel_rfl) (fun _ _ _ h => h) (by rfl) ?_ (by assumption) ?_; rotate_left; (focus (intro w0 hSw; (try dsimp only at hSw); go_simp; (try with_reducible rfl))); (try simp only [Act.put, List.setIfInBounds_toArray, List.set_cons_zero, List.set_cons_succ]))
          (refine wpAnyH_ready (rs := [3]) (by kernel_rfl) (by simp) ?_; refine AllReadyH.cons (o := _) rfl (fun K hK => ?_) AllReadyH.nil; go_simp)
          refine (digs (ad) (by omega) (by omega) _).mono ?_
          rintro e v10 ⟨rfl, d10⟩
          rw [unhide HDA]
          have Y10 := hide ((unhide Y9).below d10)
          have E10 := hide ((unhide E9).trans (d10.mono (unhide E9).size))
          have W10 := hide ((unhide W9).below d10)
          clear d10 hHeld
          refine hK.out _ _ (sBoxW (unhide Y10) (unhide W10)) (fun hHeld => ?_)
          clear hK K
          (try simp only [Act.put, List.setIfInBounds_toArray, List.set_cons_zero, List.set_cons_succ])
          (refine Rg.tk (i := 4) (d := 35) (v := ?_) rfl rfl (by kernel_rfl) (by kernel_rfl) (by kernel_rfl) (fun _ _ _ h => h) (by rfl) ?_ (by assumption) ?_; rotate_left; (focus (intro w0 hSw; (try dsimp only at hSw); go_simp; (try with_reducible rfl))); (try simp only [Act.put, List.setIfInBounds_toArray, List.set_cons_zero, List.set_cons_succ]))
          (refine Rg.tk (i := 5) (d := 36) (v := ?_) rfl rfl (by kernel_rfl) (by kernel_rfl) (by kernel_rfl) (fun _ _ _ h => h) (by rfl) ?_ (by assumption) ?_; rotate_left; (focus (intro w0 hSw; (try dsimp only at hSw); go_simp; (try with_reducible rfl))); (try simp only [Act.put, List.setIfInBounds_toArray, List.set_cons_zero, List.set_cons_succ]))
          (refine Rg.tk (i := 11) (d := 42) (v := ?_) rfl rfl (by kernel_rfl) (by kernel_rfl) (by kernel_rfl) (fun _ _ _ h => h) (by rfl) ?_ (by assumption) ?_; rotate_left; (focus (intro w0 hSw; (try dsimp only at hSw); go_simp; (try with_reducible rfl))); (try simp only [Act.put, List.setIfInBounds_toArray, List.set_cons_zero, List.set_cons_succ]))
          (refine Rg.tk (i := 12) (d := 43) (v := ?_) rfl rfl (by kernel_rfl) (by kernel_rfl) (by kernel_rfl) (fun _ _ _ h => h) (by rfl) ?_ (by assumption) ?_; rotate_left; (focus (intro w0 hSw; (try dsimp only at hSw); go_simp; (try with_reducible rfl))); (try simp only [Act.put, List.setIfInBounds_toArray, List.set_cons_zero, List.set_cons_succ]))
          (refine wpAnyH_ready (rs := [15]) (by kernel_rfl) (by simp) ?_; refine AllReadyH.cons (o := _) rfl (fun K hK => ?_) AllReadyH.nil; go_simp)
          refine (digs (mt) (by omega) (by omega) _).mono ?_
          rintro e v12 ⟨rfl, d12⟩
          rw [unhide HDM]
          have Y12 := hide ((unhide Y10).below d12)
          have E12 := hide ((unhide E10).trans (d12.mono (unhide E10).size))
          have W12 := hide ((unhide W10).below d12)
          clear d12 hHeld
          refine hK.out _ _ (sBoxW (unhide Y12) (unhide W12)) (fun hHeld => ?_)
          clear hK K
          (try simp only [Act.put, List.setIfInBounds_toArray, List.set_cons_zero, List.set_cons_succ])
          (refine Rg.tk (i := 16) (d := 47) (v := ?_) rfl rfl (by kernel_rfl) (by kernel_rfl) (by kernel_rfl) (fun _ _ _ h => h) (by rfl) ?_ (by assumption) ?_; rotate_left; (focus (intro w0 hSw; (try dsimp only at hSw); go_simp; (try with_reducible rfl))); (try simp only [Act.put, List.setIfInBounds_toArray, List.set_cons_zero, List.set_cons_succ]))
          (refine Rg.tk (i := 17) (d := 48) (v := ?_) rfl rfl (by kernel_rfl) (by kernel_rfl) (by kernel_rfl) (fun _ _ _ h => h) (by rfl) ?_ (by assumption) ?_; rotate_left; (focus (intro w0 hSw; (try dsimp only at hSw); go_simp; (try with_reducible rfl))); (try simp only [Act.put, List.setIfInBounds_toArray, List.set_cons_zero, List.set_cons_succ]))
          (refine Rg.tk (i := 18) (d := 4) (v := ?_) rfl rfl (by kernel_rfl) (by kernel_rfl) (by kernel_rfl) (fun _ _ _ h => h) (by rfl) ?_ (by assumption) ?_; rotate_left; (focus (intro w0 hSw; (try dsimp only at hSw); go_simp; (try with_reducible rfl))); (try simp only [Act.put, List.setIfInBounds_toArray, List.set_cons_zero, List.set_cons_succ]))
          refine wpAnyH_done (by kernel_rfl) (NoPanic.normal ?_) _
          clear hHeld
          have z3 := (unhide Y12).2.2.2
          dsimp only at z3
          rw [unhide HQ]
          cases mp
          all_goals
            go_wp2_with fail
            go_roundw
            case rel => exact ⟨j + 1, by omega, by go_num, congrArg Value.string (by rw [unhide HST]; rfl), E12⟩
            case measure => simp [intOf]; omega
      ·
        simp only [wd_1] at HQ
        have qq0 : ¬ (9223372036854775807 < 1 + da.size) := by omega
        have qq1 : ¬ (9223372036854775807 < 1 + da.size + 1) := by omega
        have qq2 : ¬ (9223372036854775807 < 1 + da.size + 1 + 5) := by omega
        have qq3 : ¬ (9223372036854775807 < 1 + da.size + 1 + 5 + 1) := by omega
        have qq4 : ¬ (9223372036854775807 < 1 + da.size + 1 + 5 + 1 + dm.size) := by omega
        have qq5 : ¬ (9223372036854775807 < T.size + (1 + da.size + 1 + 5 + 1 + dm.size)) := by omega
        have qq6 : ¬ (9223372036854775807 < T.size + nb.size + 4) := by omega
        go_wp2_with fail
        generalize hW : wr.alloc (.cells _ _) = W1 at *
        clear hW
        refine wp_region_noPanic ?_
        refine wp_region_held_drew (S := fun w' => Bx w' wr.heap.size ⟨ad, 1, mt, mp⟩ ∧ w'.cell? ⟨wr.heap.size, 0, none⟩ = some (.int .i64 ad) ∧ w'.cell? ⟨wr.heap.size, 1, none⟩ = some (.int .i64 1) ∧ w'.cell? ⟨wr.heap.size, 2, none⟩ = some (.int .i64 mt) ∧ w'.cell? ⟨wr.heap.size, 3, none⟩ = some (.bool mp)) (by kernel_rfl) (sBox (unhide Y0).drew) (fun hHeld => ?_)
        (refine Rg.tk (i := 0) (d := 31) (v := ?_) rfl rfl (by kernel_rfl) (by kernel_rfl) (by kernel_rfl) (fun _ _ _ h => h) (by rfl) ?_ (by assumption) ?_; rotate_left; (focus (intro w0 hSw; (try dsimp only at hSw); go_simp; (try with_reducible rfl))); (try simp only [Act.put, List.setIfInBounds_toArray, List.set_cons_zero, List.set_cons_succ]))
        (refine Rg.tk (i := 1) (d := 32) (v := ?_) rfl rfl (by kernel_rfl) (by kernel_rfl) (by kernel_rfl) (fun _ _ _ h => h) (by rfl) ?_ (by assumption) ?_; rotate_left; (focus (intro w0 hSw; (try dsimp only at hSw); go_simp; (try with_reducible rfl))); (try simp only [Act.put, List.setIfInBounds_toArray, List.set_cons_zero, List.set_cons_succ]))
        (refine Rg.tk (i := 2) (d := 33) (v := ?_) rfl rfl (by kernel_rfl) (by kernel_rfl) (by kernel_rfl) (fun _ _ _ h => h) (by rfl) ?_ (by assumption) ?_; rotate_left; (focus (intro w0 hSw; (try dsimp only at hSw); go_simp; (try with_reducible rfl))); (try simp only [Act.put, List.setIfInBounds_toArray, List.set_cons_zero, List.set_cons_succ]))
        (refine Rg.tk (i := 7) (d := 38) (v := ?_) rfl rfl (by kernel_rfl) (by kernel_rfl) (by kernel_rfl) (fun _ _ _ h => h) (by rfl) ?_ (by assumption) ?_; rotate_left; (focus (intro w0 hSw; (try dsimp only at hSw); go_simp; (try with_reducible rfl))); (try simp only [Act.put, List.setIfInBounds_toArray, List.set_cons_zero, List.set_cons_succ]))
        (refine Rg.tk (i := 8) (d := 39) (v := ?_) rfl rfl (by kernel_rfl) (by kernel_rfl) (by kernel_rfl) (fun _ _ _ h => h) (by rfl) ?_ (by assumption) ?_; rotate_left; (focus (intro w0 hSw; (try dsimp only at hSw); go_simp; (try with_reducible rfl))); (try simp only [Act.put, List.setIfInBounds_toArray, List.set_cons_zero, List.set_cons_succ]))
        (refine Rg.tk (i := 13) (d := 44) (v := ?_) rfl rfl (by kernel_rfl) (by kernel_rfl) (by kernel_rfl) (fun _ _ _ h => h) (by rfl) ?_ (by assumption) ?_; rotate_left; (focus (intro w0 hSw; (try dsimp only at hSw); go_simp; (try with_reducible rfl))); (try simp only [Act.put, List.setIfInBounds_toArray, List.set_cons_zero, List.set_cons_succ]))
        (refine Rg.tk (i := 14) (d := 45) (v := ?_) rfl rfl (by kernel_rfl) (by kernel_rfl) (by kernel_rfl) (fun _ _ _ h => h) (by rfl) ?_ (by assumption) ?_; rotate_left; (focus (intro w0 hSw; (try dsimp only at hSw); go_simp; (try with_reducible rfl))); (try simp only [Act.put, List.setIfInBounds_toArray, List.set_cons_zero, List.set_cons_succ]))
        have YD := hide ((unhide Y0).drew)
        have ED := hide ((unhide E0).drew)
        clear Y0 E0
        have Y0 := YD
        have E0 := ED
        clear YD ED
        generalize hV : W1.drew = V0 at *
        clear hV
        (refine wpAnyH_ready (rs := [3, 6]) (by kernel_rfl) (by simp) ?_; refine AllReadyH.cons (o := _) rfl (fun K hK => ?_) (AllReadyH.cons (o := _) rfl (fun K hK => ?_) AllReadyH.nil))
        · go_simp
          refine (digs (ad) (by omega) (by omega) _).mono ?_
          rintro e v1 ⟨rfl, d1⟩
          rw [unhide HDA]
          have Y1 := hide ((unhide Y0).below d1)
          have E1 := hide ((unhide E0).trans (d1.mono (unhide E0).size))
          clear d1 hHeld
          refine hK.out _ _ (sBox (unhide Y1)) (fun hHeld => ?_)
          clear hK K
          (try simp only [Act.put, List.setIfInBounds_toArray, List.set_cons_zero, List.set_cons_succ])
          (refine Rg.tk (i := 4) (d := 35) (v := ?_) rfl rfl (by kernel_rfl) (by kernel_rfl) (by kernel_rfl) (fun _ _ _ h => h) (by rfl) ?_ (by assumption) ?_; rotate_left; (focus (intro w0 hSw; (try dsimp only at hSw); go_simp; (try with_reducible rfl))); (try simp only [Act.put, List.setIfInBounds_toArray, List.set_cons_zero, List.set_cons_succ]))
          (refine Rg.tk (i := 5) (d := 36) (v := ?_) rfl rfl (by kernel_rfl) (by kernel_rfl) (by kernel_rfl) (fun _ _ _ h => h) (by rfl) ?_ (by assumption) ?_; rotate_left; (focus (intro w0 hSw; (try dsimp only at hSw); go_simp; (try with_reducible rfl))); (try simp only [Act.put, List.setIfInBounds_toArray, List.set_cons_zero, List.set_cons_succ]))
          (refine wpAnyH_ready (rs := [6, 15]) (by kernel_rfl) (by simp) ?_; refine AllReadyH.cons (o := _) rfl (fun K hK => ?_) (AllReadyH.cons (o := _) rfl (fun K hK => ?_) AllReadyH.nil))
          · go_simp
            have Y9 := hide ((unhide Y1).below ((Below.refl _ _).alloc (Nat.le_refl _) (.cells #[.string wd0, .string wd1, .string wd2] 9)))
            have E9 := hide ((unhide E1).alloc (unhide E1).size (.cells #[.string wd0, .string wd1, .string wd2] 9))
            have W9 := hide (tab_new v1 9)
            clear hHeld
            refine hK.out _ _ (sBox (unhide Y9)) (fun hHeld => ?_)
            clear hK K hHeld
            (try simp only [Act.put, List.setIfInBounds_toArray, List.set_cons_zero, List.set_cons_succ])
            refine wpAnyH_strong (S' := fun w' => (Bx w' wr.heap.size ⟨ad, 1, mt, mp⟩ ∧ TabW w' v1.heap.size) ∧ w'.cell? ⟨wr.heap.size, 0, none⟩ = some (.int .i64 ad) ∧ w'.cell? ⟨wr.heap.size, 1, none⟩ = some (.int .i64 1) ∧ w'.cell? ⟨wr.heap.size, 2, none⟩ = some (.int .i64 mt) ∧ w'.cell? ⟨wr.heap.size, 3, none⟩ = some (.bool mp) ∧ w'.cell? ⟨v1.heap.size, 0, none⟩ = some (.string wd0) ∧ w'.cell? ⟨v1.heap.size, 1, none⟩ = some (.string wd1) ∧ w'.cell? ⟨v1.heap.size, 2, none⟩ = some (.string wd2)) (fun _ h => sBox h.1.1) ?_
            have hHeld := sBoxW (unhide Y9) (unhide W9)
            (refine Rg.tk (i := 9) (d := 40) (v := ?_) rfl rfl (by kernel_rfl) (by kernel_rfl) (by kernel_rfl) (fun _ _ _ h => h) (by rfl) ?_ (by assumption) ?_; rotate_left; (focus (intro w0 hSw; (try dsimp only at hSw); go_simp; (try with_reducible rfl))); (try simp only [Act.put, List.setIfInBounds_toArray, List.set_cons_zero, List.set_cons_succ]))
            (refine Rg.tk (i := 10) (d := 41) (v := ?_) rfl rfl (by kernel_rfl) (by kernel_rfl) (by kernel_rfl) (fun _ _ _ h => h) (by rfl) ?_ (by assumption) ?_; rotate_left; (focus (intro w0 hSw; (try dsimp only at hSw); go_simp; (try with_reducible rfl))); (try simp only [Act.put, List.setIfInBounds_toArray, List.set_cons_zero, List.set_cons_succ]))
            (refine Rg.tk (i := 11) (d := 42) (v := ?_) rfl rfl (by kernel_rfl) (by kernel_rfl) (by kernel_rfl) (fun _ _ _ h => h) (by rfl) ?_ (by assumption) ?_; rotate_left; (focus (intro w0 hSw; (try dsimp only at hSw); go_simp; (try with_reducible rfl))); (try simp only [Act.put, List.setIfInBounds_toArray, List.set_cons_zero, List.set_cons_succ]))
            (refine Rg.tk (i := 12) (d := 43) (v := ?_) rfl rfl (by kernel_rfl) (by kernel_rfl) (by kernel_rfl) (fun _ _ _ h => h) (by rfl) ?_ (by assumption) ?_; rotate_left; (focus (intro w0 hSw; (try dsimp only at hSw); go_simp; (try with_reducible rfl))); (try simp only [Act.put, List.setIfInBounds_toArray, List.set_cons_zero, List.set_cons_succ]))
            (refine wpAnyH_ready (rs := [15]) (by kernel_rfl) (by simp) ?_; refine AllReadyH.cons (o := _) rfl (fun K hK => ?_) AllReadyH.nil; go_simp)
            refine (digs (mt) (by omega) (by omega) _).mono ?_
            rintro e v12 ⟨rfl, d12⟩
            rw [unhide HDM]
            have Y12 := hide ((unhide Y9).below d12)
            have E12 := hide ((unhide E9).trans (d12.mono (unhide E9).size))
            have W12 := hide ((unhide W9).below d12)
            clear d12 hHeld
            refine hK.out _ _ (sBoxW (unhide Y12) (unhide W12)) (fun hHeld => ?_)
            clear hK K
            (try simp only [Act.put, List.setIfInBounds_toArray, List.set_cons_zero, List.set_cons_succ])
            (refine Rg.tk (i := 16) (d := 47) (v := ?_) rfl rfl (by kernel_rfl) (by kernel_rfl) (by kernel_rfl) (fun _ _ _ h => h) (by rfl) ?_ (by assumption) ?_; rotate_left; (focus (intro w0 hSw; (try dsimp only at hSw); go_simp; (try with_reducible rfl))); (try simp only [Act.put, List.setIfInBounds_toArray, List.set_cons_zero, List.set_cons_succ]))
            (refine Rg.tk (i := 17) (d := 48) (v := ?_) rfl rfl (by kernel_rfl) (by kernel_rfl) (by kernel_rfl) (fun _ _ _ h => h) (by rfl) ?_ (by assumption) ?_; rotate_left; (focus (intro w0 hSw; (try dsimp only at hSw); go_simp; (try with_reducible rfl))); (try simp only [Act.put, List.setIfInBounds_toArray, List.set_cons_zero, List.set_cons_succ]))
            (refine Rg.tk (i := 18) (d := 4) (v := ?_) rfl rfl (by kernel_rfl) (by kernel_rfl) (by kernel_rfl) (fun _ _ _ h => h) (by rfl) ?_ (by assumption) ?_; rotate_left; (focus (intro w0 hSw; (try dsimp only at hSw); go_simp; (try with_reducible rfl))); (try simp only [Act.put, List.setIfInBounds_toArray, List.set_cons_zero, List.set_cons_succ]))
            refine wpAnyH_done (by kernel_rfl) (NoPanic.normal ?_) _
            clear hHeld
            have z3 := (unhide Y12).2.2.2
            dsimp only at z3
            rw [unhide HQ]
            cases mp
            all_goals
              go_wp2_with fail
              go_roundw
              case rel => exact ⟨j + 1, by omega, by go_num, congrArg Value.string (by rw [unhide HST]; rfl), E12⟩
              case measure => simp [intOf]; omega
          · go_simp
            refine (digs (mt) (by omega) (by omega) _).mono ?_
            rintro e v2 ⟨rfl, d2⟩
            rw [unhide HDM]
            have Y2 := hide ((unhide Y1).below d2)
            have E2 := hide ((unhide E1).trans (d2.mono (unhide E1).size))
            clear d2 hHeld
            refine hK.out _ _ (sBox (unhide Y2)) (fun hHeld => ?_)
            clear hK K
            (try simp only [Act.put, List.setIfInBounds_toArray, List.set_cons_zero, List.set_cons_succ])
            (refine wpAnyH_ready (rs := [6]) (by kernel_rfl) (by simp) ?_; refine AllReadyH.cons (o := _) rfl (fun K hK => ?_) AllReadyH.nil; go_simp)
            have Y9 := hide ((unhide Y2).below ((Below.refl _ _).alloc (Nat.le_refl _) (.cells #[.string wd0, .string wd1, .string wd2] 9)))
            have E9 := hide ((unhide E2).alloc (unhide E2).size (.cells #[.string wd0, .string wd1, .string wd2] 9))
            have W9 := hide (tab_new v2 9)
            clear hHeld
            refine hK.out _ _ (sBox (unhide Y9)) (fun hHeld => ?_)
            clear hK K hHeld
            (try simp only [Act.put, List.setIfInBounds_toArray, List.set_cons_zero, List.set_cons_succ])
            refine wpAnyH_strong (S' := fun w' => (Bx w' wr.heap.size ⟨ad, 1, mt, mp⟩ ∧ TabW w' v2.heap.size) ∧ w'.cell? ⟨wr.heap.size, 0, none⟩ = some (.int .i64 ad) ∧ w'.cell? ⟨wr.heap.size, 1, none⟩ = some (.int .i64 1) ∧ w'.cell? ⟨wr.heap.size, 2, none⟩ = some (.int .i64 mt) ∧ w'.cell? ⟨wr.heap.size, 3, none⟩ = some (.bool mp) ∧ w'.cell? ⟨v2.heap.size, 0, none⟩ = some (.string wd0) ∧ w'.cell? ⟨v2.heap.size, 1, none⟩ = some (.string wd1) ∧ w'.cell? ⟨v2.heap.size, 2, none⟩ = some (.string wd2)) (fun _ h => sBox h.1.1) ?_
            have hHeld := sBoxW (unhide Y9) (unhide W9)
            (refine Rg.tk (i := 9) (d := 40) (v := ?_) rfl rfl (by kernel_rfl) (by kernel_rfl) (by kernel_rfl) (fun _ _ _ h => h) (by rfl) ?_ (by assumption) ?_; rotate_left; (focus (intro w0 hSw; (try dsimp only at hSw); go_simp; (try with_reducible rfl))); (try simp only [Act.put, List.setIfInBounds_toArray, List.set_cons_zero, List.set_cons_succ]))
            (refine Rg.tk (i := 10) (d := 41) (v := ?_) rfl rfl (by kernel_rfl) (by kernel_rfl) (by kernel_rfl) (fun _ _ _ h => h) (by rfl) ?_ (by assumption) ?_; rotate_left; (focus (intro w0 hSw; (try dsimp only at hSw); go_simp; (try with_reducible rfl))); (try simp only [Act.put, List.setIfInBounds_toArray, List.set_cons_zero, List.set_cons_succ]))
            (refine Rg.tk (i := 11) (d := 42) (v := ?_) rfl rfl (by kernel_rfl) (by kernel_rfl) (by kernel_rfl) (fun _ _ _ h => h) (by rfl) ?_ (by assumption) ?_; rotate_left; (focus (intro w0 hSw; (try dsimp only at hSw); go_simp; (try with_reducible rfl))); (try simp only [Act.put, List.setIfInBounds_toArray, List.set_cons_zero, List.set_cons_succ]))
            (refine Rg.tk (i := 12) (d := 43) (v := ?_) rfl rfl (by kernel_rfl) (by kernel_rfl) (by kernel_rfl) (fun _ _ _ h => h) (by rfl) ?_ (by assumption) ?_; rotate_left; (focus (intro w0 hSw; (try dsimp only at hSw); go_simp; (try with_reducible rfl))); (try simp only [Act.put, List.setIfInBounds_toArray, List.set_cons_zero, List.set_cons_succ]))
            (refine Rg.tk (i := 16) (d := 47) (v := ?_) rfl rfl (by kernel_rfl) (by kernel_rfl) (by kernel_rfl) (fun _ _ _ h => h) (by rfl) ?_ (by assumption) ?_; rotate_left; (focus (intro w0 hSw; (try dsimp only at hSw); go_simp; (try with_reducible rfl))); (try simp only [Act.put, List.setIfInBounds_toArray, List.set_cons_zero, List.set_cons_succ]))
            (refine Rg.tk (i := 17) (d := 48) (v := ?_) rfl rfl (by kernel_rfl) (by kernel_rfl) (by kernel_rfl) (fun _ _ _ h => h) (by rfl) ?_ (by assumption) ?_; rotate_left; (focus (intro w0 hSw; (try dsimp only at hSw); go_simp; (try with_reducible rfl))); (try simp only [Act.put, List.setIfInBounds_toArray, List.set_cons_zero, List.set_cons_succ]))
            (refine Rg.tk (i := 18) (d := 4) (v := ?_) rfl rfl (by kernel_rfl) (by kernel_rfl) (by kernel_rfl) (fun _ _ _ h => h) (by rfl) ?_ (by assumption) ?_; rotate_left; (focus (intro w0 hSw; (try dsimp only at hSw); go_simp; (try with_reducible rfl))); (try simp only [Act.put, List.setIfInBounds_toArray, List.set_cons_zero, List.set_cons_succ]))
            refine wpAnyH_done (by kernel_rfl) (NoPanic.normal ?_) _
            clear hHeld
            have z3 := (unhide Y9).2.2.2
            dsimp only at z3
            rw [unhide HQ]
            cases mp
            all_goals
              go_wp2_with fail
              go_roundw
              case rel => exact ⟨j + 1, by omega, by go_num, congrArg Value.string (by rw [unhide HST]; rfl), E9⟩
              case measure => simp [intOf]; omega
        · go_simp
          have Y9 := hide ((unhide Y0).below ((Below.refl _ _).alloc (Nat.le_refl _) (.cells #[.string wd0, .string wd1, .string wd2] 9)))
          have E9 := hide ((unhide E0).alloc (unhide E0).size (.cells #[.string wd0, .string wd1, .string wd2] 9))
          have W9 := hide (tab_new V0 9)
          clear hHeld
          refine hK.out _ _ (sBox (unhide Y9)) (fun hHeld => ?_)
          clear hK K hHeld
          (try simp only [Act.put, List.setIfInBounds_toArray, List.set_cons_zero, List.set_cons_succ])
          refine wpAnyH_strong (S' := fun w' => (Bx w' wr.heap.size ⟨ad, 1, mt, mp⟩ ∧ TabW w' V0.heap.size) ∧ w'.cell? ⟨wr.heap.size, 0, none⟩ = some (.int .i64 ad) ∧ w'.cell? ⟨wr.heap.size, 1, none⟩ = some (.int .i64 1) ∧ w'.cell? ⟨wr.heap.size, 2, none⟩ = some (.int .i64 mt) ∧ w'.cell? ⟨wr.heap.size, 3, none⟩ = some (.bool mp) ∧ w'.cell? ⟨V0.heap.size, 0, none⟩ = some (.string wd0) ∧ w'.cell? ⟨V0.heap.size, 1, none⟩ = some (.string wd1) ∧ w'.cell? ⟨V0.heap.size, 2, none⟩ = some (.string wd2)) (fun _ h => sBox h.1.1) ?_
          have hHeld := sBoxW (unhide Y9) (unhide W9)
          (refine Rg.tk (i := 9) (d := 40) (v := ?_) rfl rfl (by kernel_rfl) (by kernel_rfl) (by kernel_rfl) (fun _ _ _ h => h) (by rfl) ?_ (by assumption) ?_; rotate_left; (focus (intro w0 hSw; (try dsimp only at hSw); go_simp; (try with_reducible rfl))); (try simp only [Act.put, List.setIfInBounds_toArray, List.set_cons_zero, List.set_cons_succ]))
          (refine Rg.tk (i := 10) (d := 41) (v := ?_) rfl rfl (by kernel_rfl) (by kernel_rfl) (by kernel_rfl) (fun _ _ _ h => h) (by rfl) ?_ (by assumption) ?_; rotate_left; (focus (intro w0 hSw; (try dsimp only at hSw); go_simp; (try with_reducible rfl))); (try simp only [Act.put, List.setIfInBounds_toArray, List.set_cons_zero, List.set_cons_succ]))
          (refine wpAnyH_ready (rs := [3]) (by kernel_rfl) (by simp) ?_; refine AllReadyH.cons (o := _) rfl (fun K hK => ?_) AllReadyH.nil; go_simp)
          refine (digs (ad) (by omega) (by omega) _).mono ?_
          rintro e v10 ⟨rfl, d10⟩
          rw [unhide HDA]
          have Y10 := hide ((unhide Y9).below d10)
          have E10 := hide ((unhide E9).trans (d10.mono (unhide E9).size))
          have W10 := hide ((unhide W9).below d10)
          clear d10 hHeld
          refine hK.out _ _ (sBoxW (unhide Y10) (unhide W10)) (fun hHeld => ?_)
          clear hK K
          (try simp only [Act.put, List.setIfInBounds_toArray, List.set_cons_zero, List.set_cons_succ])
          (refine Rg.tk (i := 4) (d := 35) (v := ?_) rfl rfl (by kernel_rfl) (by kernel_rfl) (by kernel_rfl) (fun _ _ _ h => h) (by rfl) ?_ (by assumption) ?_; rotate_left; (focus (intro w0 hSw; (try dsimp only at hSw); go_simp; (try with_reducible rfl))); (try simp only [Act.put, List.setIfInBounds_toArray, List.set_cons_zero, List.set_cons_succ]))
          (refine Rg.tk (i := 5) (d := 36) (v := ?_) rfl rfl (by kernel_rfl) (by kernel_rfl) (by kernel_rfl) (fun _ _ _ h => h) (by rfl) ?_ (by assumption) ?_; rotate_left; (focus (intro w0 hSw; (try dsimp only at hSw); go_simp; (try with_reducible rfl))); (try simp only [Act.put, List.setIfInBounds_toArray, List.set_cons_zero, List.set_cons_succ]))
          (refine Rg.tk (i := 11) (d := 42) (v := ?_) rfl rfl (by kernel_rfl) (by kernel_rfl) (by kernel_rfl) (fun _ _ _ h => h) (by rfl) ?_ (by assumption) ?_; rotate_left; (focus (intro w0 hSw; (try dsimp only at hSw); go_simp; (try with_reducible rfl))); (try simp only [Act.put, List.setIfInBounds_toArray, List.set_cons_zero, List.set_cons_succ]))
          (refine Rg.tk (i := 12) (d := 43) (v := ?_) rfl rfl (by kernel_rfl) (by kernel_rfl) (by kernel_rfl) (fun _ _ _ h => h) (by rfl) ?_ (by assumption) ?_; rotate_left; (focus (intro w0 hSw; (try dsimp only at hSw); go_simp; (try with_reducible rfl))); (try simp only [Act.put, List.setIfInBounds_toArray, List.set_cons_zero, List.set_cons_succ]))
          (refine wpAnyH_ready (rs := [15]) (by kernel_rfl) (by simp) ?_; refine AllReadyH.cons (o := _) rfl (fun K hK => ?_) AllReadyH.nil; go_simp)
          refine (digs (mt) (by omega) (by omega) _).mono ?_
          rintro e v12 ⟨rfl, d12⟩
          rw [unhide HDM]
          have Y12 := hide ((unhide Y10).below d12)
          have E12 := hide ((unhide E10).trans (d12.mono (unhide E10).size))
          have W12 := hide ((unhide W10).below d12)
          clear d12 hHeld
          refine hK.out _ _ (sBoxW (unhide Y12) (unhide W12)) (fun hHeld => ?_)
          clear hK K
          (try simp only [Act.put, List.setIfInBounds_toArray, List.set_cons_zero, List.set_cons_succ])
          (refine Rg.tk (i := 16) (d := 47) (v := ?_) rfl rfl (by kernel_rfl) (by kernel_rfl) (by kernel_rfl) (fun _ _ _ h => h) (by rfl) ?_ (by assumption) ?_; rotate_left; (focus (intro w0 hSw; (try dsimp only at hSw); go_simp; (try with_reducible rfl))); (try simp only [Act.put, List.setIfInBounds_toArray, List.set_cons_zero, List.set_cons_succ]))
          (refine Rg.tk (i := 17) (d := 48) (v := ?_) rfl rfl (by kernel_rfl) (by kernel_rfl) (by kernel_rfl) (fun _ _ _ h => h) (by rfl) ?_ (by assumption) ?_; rotate_left; (focus (intro w0 hSw; (try dsimp only at hSw); go_simp; (try with_reducible rfl))); (try simp only [Act.put, List.setIfInBounds_toArray, List.set_cons_zero, List.set_cons_succ]))
          (refine Rg.tk (i := 18) (d := 4) (v := ?_) rfl rfl (by kernel_rfl) (by kernel_rfl) (by kernel_rfl) (fun _ _ _ h => h) (by rfl) ?_ (by assumption) ?_; rotate_left; (focus (intro w0 hSw; (try dsimp only at hSw); go_simp; (try with_reducible rfl))); (try simp only [Act.put, List.setIfInBounds_toArray, List.set_cons_zero, List.set_cons_succ]))
          refine wpAnyH_done (by kernel_rfl) (NoPanic.normal ?_) _
          clear hHeld
          have z3 := (unhide Y12).2.2.2
          dsimp only at z3
          rw [unhide HQ]
          cases mp
          all_goals
            go_wp2_with fail
            go_roundw
            case rel => exact ⟨j + 1, by omega, by go_num, congrArg Value.string (by rw [unhide HST]; rfl), E12⟩
            case measure => simp [intOf]; omega
      ·
        simp only [wd_2] at HQ
        have qq0 : ¬ (9223372036854775807 < 1 + da.size) := by omega
        have qq1 : ¬ (9223372036854775807 < 1 + da.size + 1) := by omega
        have qq2 : ¬ (9223372036854775807 < 1 + da.size + 1 + 3) := by omega
        have qq3 : ¬ (9223372036854775807 < 1 + da.size + 1 + 3 + 1) := by omega
        have qq4 : ¬ (9223372036854775807 < 1 + da.size + 1 + 3 + 1 + dm.size) := by omega
        have qq5 : ¬ (9223372036854775807 < T.size + (1 + da.size + 1 + 3 + 1 + dm.size)) := by omega
        have qq6 : ¬ (9223372036854775807 < T.size + nb.size + 4) := by omega
        go_wp2_with fail
        generalize hW : wr.alloc (.cells _ _) = W1 at *
        clear hW
        refine wp_region_noPanic ?_
        refine wp_region_held_drew (S := fun w' => Bx w' wr.heap.size ⟨ad, 2, mt, mp⟩ ∧ w'.cell? ⟨wr.heap.size, 0, none⟩ = some (.int .i64 ad) ∧ w'.cell? ⟨wr.heap.size, 1, none⟩ = some (.int .i64 2) ∧ w'.cell? ⟨wr.heap.size, 2, none⟩ = some (.int .i64 mt) ∧ w'.cell? ⟨wr.heap.size, 3, none⟩ = some (.bool mp)) (by kernel_rfl) (sBox (unhide Y0).drew) (fun hHeld => ?_)
        (refine Rg.tk (i := 0) (d := 31) (v := ?_) rfl rfl (by kernel_rfl) (by kernel_rfl) (by kernel_rfl) (fun _ _ _ h => h) (by rfl) ?_ (by assumption) ?_; rotate_left; (focus (intro w0 hSw; (try dsimp only at hSw); go_simp; (try with_reducible rfl))); (try simp only [Act.put, List.setIfInBounds_toArray, List.set_cons_zero, List.set_cons_succ]))
        (refine Rg.tk (i := 1) (d := 32) (v := ?_) rfl rfl (by kernel_rfl) (by kernel_rfl) (by kernel_rfl) (fun _ _ _ h => h) (by rfl) ?_ (by assumption) ?_; rotate_left; (focus (intro w0 hSw; (try dsimp only at hSw); go_simp; (try with_reducible rfl))); (try simp only [Act.put, List.setIfInBounds_toArray, List.set_cons_zero, List.set_cons_succ]))
        (refine Rg.tk (i := 2) (d := 33) (v := ?_) rfl rfl (by kernel_rfl) (by kernel_rfl) (by kernel_rfl) (fun _ _ _ h => h) (by rfl) ?_ (by assumption) ?_; rotate_left; (focus (intro w0 hSw; (try dsimp only at hSw); go_simp; (try with_reducible rfl))); (try simp only [Act.put, List.setIfInBounds_toArray, List.set_cons_zero, List.set_cons_succ]))
        (refine Rg.tk (i := 7) (d := 38) (v := ?_) rfl rfl (by kernel_rfl) (by kernel_rfl) (by kernel_rfl) (fun _ _ _ h => h) (by rfl) ?_ (by assumption) ?_; rotate_left; (focus (intro w0 hSw; (try dsimp only at hSw); go_simp; (try with_reducible rfl))); (try simp only [Act.put, List.setIfInBounds_toArray, List.set_cons_zero, List.set_cons_succ]))
        (refine Rg.tk (i := 8) (d := 39) (v := ?_) rfl rfl (by kernel_rfl) (by kernel_rfl) (by kernel_rfl) (fun _ _ _ h => h) (by rfl) ?_ (by assumption) ?_; rotate_left; (focus (intro w0 hSw; (try dsimp only at hSw); go_simp; (try with_reducible rfl))); (try simp only [Act.put, List.setIfInBounds_toArray, List.set_cons_zero, List.set_cons_succ]))
        (refine Rg.tk (i := 13) (d := 44) (v := ?_) rfl rfl (by kernel_rfl) (by kernel_rfl) (by kernel_rfl) (fun _ _ _ h => h) (by rfl) ?_ (by assumption) ?_; rotate_left; (focus (intro w0 hSw; (try dsimp only at hSw); go_simp; (try with_reducible rfl))); (try simp only [Act.put, List.setIfInBounds_toArray, List.set_cons_zero, List.set_cons_succ]))
        (refine Rg.tk (i := 14) (d := 45) (v := ?_) rfl rfl (by kernel_rfl) (by kernel_rfl) (by kernel_rfl) (fun _ _ _ h => h) (by rfl) ?_ (by assumption) ?_; rotate_left; (focus (intro w0 hSw; (try dsimp only at hSw); go_simp; (try with_reducible rfl))); (try simp only [Act.put, List.setIfInBounds_toArray, List.set_cons_zero, List.set_cons_succ]))
        have YD := hide ((unhide Y0).drew)
        have ED := hide ((unhide E0).drew)
        clear Y0 E0
        have Y0 := YD
        have E0 := ED
        clear YD ED
        generalize hV : W1.drew = V0 at *
        clear hV
        (refine wpAnyH_ready (rs := [3, 6]) (by kernel_rfl) (by simp) ?_; refine AllReadyH.cons (o := _) rfl (fun K hK => ?_) (AllReadyH.cons (o := _) rfl (fun K hK => ?_) AllReadyH.nil))
        · go_simp
          refine (digs (ad) (by omega) (by omega) _).mono ?_
          rintro e v1 ⟨rfl, d1⟩
          rw [unhide HDA]
          have Y1 := hide ((unhide Y0).below d1)
          have E1 := hide ((unhide E0).trans (d1.mono (unhide E0).size))
          clear d1 hHeld
          refine hK.out _ _ (sBox (unhide Y1)) (fun hHeld => ?_)
          clear hK K
          (try simp only [Act.put, List.setIfInBounds_toArray, List.set_cons_zero, List.set_cons_succ])
          (refine Rg.tk (i := 4) (d := 35) (v := ?_) rfl rfl (by kernel_rfl) (by kernel_rfl) (by kernel_rfl) (fun _ _ _ h => h) (by rfl) ?_ (by assumption) ?_; rotate_left; (focus (intro w0 hSw; (try dsimp only at hSw); go_simp; (try with_reducible rfl))); (try simp only [Act.put, List.setIfInBounds_toArray, List.set_cons_zero, List.set_cons_succ]))
          (refine Rg.tk (i := 5) (d := 36) (v := ?_) rfl rfl (by kernel_rfl) (by kernel_rfl) (by kernel_rfl) (fun _ _ _ h => h) (by rfl) ?_ (by assumption) ?_; rotate_left; (focus (intro w0 hSw; (try dsimp only at hSw); go_simp; (try with_reducible rfl))); (try simp only [Act.put, List.setIfInBounds_toArray, List.set_cons_zero, List.set_cons_succ]))
          (refine wpAnyH_ready (rs := [6, 15]) (by kernel_rfl) (by simp) ?_; refine AllReadyH.cons (o := _) rfl (fun K hK => ?_) (AllReadyH.cons (o := _) rfl (fun K hK => ?_) AllReadyH.nil))
          · go_simp
            have Y9 := hide ((unhide Y1).below ((Below.refl _ _).alloc (Nat.le_refl _) (.cells #[.string wd0, .string wd1, .string wd2] 9)))
            have E9 := hide ((unhide E1).alloc (unhide E1).size (.cells #[.string wd0, .string wd1, .string wd2] 9))
            have W9 := hide (tab_new v1 9)
            clear hHeld
            refine hK.out _ _ (sBox (unhide Y9)) (fun hHeld => ?_)
            clear hK K hHeld
            (try simp only [Act.put, List.setIfInBounds_toArray, List.set_cons_zero, List.set_cons_succ])
            refine wpAnyH_strong (S' := fun w' => (Bx w' wr.heap.size ⟨ad, 2, mt, mp⟩ ∧ TabW w' v1.heap.size) ∧ w'.cell? ⟨wr.heap.size, 0, none⟩ = some (.int .i64 ad) ∧ w'.cell? ⟨wr.heap.size, 1, none⟩ = some (.int .i64 2) ∧ w'.cell? ⟨wr.heap.size, 2, none⟩ = some (.int .i64 mt) ∧ w'.cell? ⟨wr.heap.size, 3, none⟩ = some (.bool mp) ∧ w'.cell? ⟨v1.heap.size, 0, none⟩ = some (.string wd0) ∧ w'.cell? ⟨v1.heap.size, 1, none⟩ = some (.string wd1) ∧ w'.cell? ⟨v1.heap.size, 2, none⟩ = some (.string wd2)) (fun _ h => sBox h.1.1) ?_
            have hHeld := sBoxW (unhide Y9) (unhide W9)
            (refine Rg.tk (i := 9) (d := 40) (v := ?_) rfl rfl (by kernel_rfl) (by kernel_rfl) (by kernel_rfl) (fun _ _ _ h => h) (by rfl) ?_ (by assumption) ?_; rotate_left; (focus (intro w0 hSw; (try dsimp only at hSw); go_simp; (try with_reducible rfl))); (try simp only [Act.put, List.setIfInBounds_toArray, List.set_cons_zero, List.set_cons_succ]))
            (refine Rg.tk (i := 10) (d := 41) (v := ?_) rfl rfl (by kernel_rfl) (by kernel_rfl) (by kernel_rfl) (fun _ _ _ h => h) (by rfl) ?_ (by assumption) ?_; rotate_left; (focus (intro w0 hSw; (try dsimp only at hSw); go_simp; (try with_reducible rfl))); (try simp only [Act.put, List.setIfInBounds_toArray, List.set_cons_zero, List.set_cons_succ]))
            (refine Rg.tk (i := 11) (d := 42) (v := ?_) rfl rfl (by kernel_rfl) (by kernel_rfl) (by kernel_rfl) (fun _ _ _ h => h) (by rfl) ?_ (by assumption) ?_; rotate_left; (focus (intro w0 hSw; (try dsimp only at hSw); go_simp; (try with_reducible rfl))); (try simp only [Act.put, List.setIfInBounds_toArray, List.set_cons_zero, List.set_cons_succ]))
            (refine Rg.tk (i := 12) (d := 43) (v := ?_) rfl rfl (by kernel_rfl) (by kernel_rfl) (by kernel_rfl) (fun _ _ _ h => h) (by rfl) ?_ (by assumption) ?_; rotate_left; (focus (intro w0 hSw; (try dsimp only at hSw); go_simp; (try with_reducible rfl))); (try simp only [Act.put, List.setIfInBounds_toArray, List.set_cons_zero, List.set_cons_succ]))
            (refine wpAnyH_ready (rs := [15]) (by kernel_rfl) (by simp) ?_; refine AllReadyH.cons (o := _) rfl (fun K hK => ?_) AllReadyH.nil; go_simp)
            refine (digs (mt) (by omega) (by omega) _).mono ?_
            rintro e v12 ⟨rfl, d12⟩
            rw [unhide HDM]
            have Y12 := hide ((unhide Y9).below d12)
            have E12 := hide ((unhide E9).trans (d12.mono (unhide E9).size))
            have W12 := hide ((unhide W9).below d12)
            clear d12 hHeld
            refine hK.out _ _ (sBoxW (unhide Y12) (unhide W12)) (fun hHeld => ?_)
            clear hK K
            (try simp only [Act.put, List.setIfInBounds_toArray, List.set_cons_zero, List.set_cons_succ])
            (refine Rg.tk (i := 16) (d := 47) (v := ?_) rfl rfl (by kernel_rfl) (by kernel_rfl) (by kernel_rfl) (fun _ _ _ h => h) (by rfl) ?_ (by assumption) ?_; rotate_left; (focus (intro w0 hSw; (try dsimp only at hSw); go_simp; (try with_reducible rfl))); (try simp only [Act.put, List.setIfInBounds_toArray, List.set_cons_zero, List.set_cons_succ]))
            (refine Rg.tk (i := 17) (d := 48) (v := ?_) rfl rfl (by kernel_rfl) (by kernel_rfl) (by kernel_rfl) (fun _ _ _ h => h) (by rfl) ?_ (by assumption) ?_; rotate_left; (focus (intro w0 hSw; (try dsimp only at hSw); go_simp; (try with_reducible rfl))); (try simp only [Act.put, List.setIfInBounds_toArray, List.set_cons_zero, List.set_cons_succ]))
            (refine Rg.tk (i := 18) (d := 4) (v := ?_) rfl rfl (by kernel_rfl) (by kernel_rfl) (by kernel_rfl) (fun _ _ _ h => h) (by rfl) ?_ (by assumption) ?_; rotate_left; (focus (intro w0 hSw; (try dsimp only at hSw); go_simp; (try with_reducible rfl))); (try simp only [Act.put, List.setIfInBounds_toArray, List.set_cons_zero, List.set_cons_succ]))
            refine wpAnyH_done (by kernel_rfl) (NoPanic.normal ?_) _
            clear hHeld
            have z3 := (unhide Y12).2.2.2
            dsimp only at z3
            rw [unhide HQ]
            cases mp
            all_goals
              go_wp2_with fail
              go_roundw
              case rel => exact ⟨j + 1, by omega, by go_num, congrArg Value.string (by rw [unhide HST]; rfl), E12⟩
              case measure => simp [intOf]; omega
          · go_simp
            refine (digs (mt) (by omega) (by omega) _).mono ?_
            rintro e v2 ⟨rfl, d2⟩
            rw [unhide HDM]
            have Y2 := hide ((unhide Y1).below d2)
            have E2 := hide ((unhide E1).trans (d2.mono (unhide E1).size))
            clear d2 hHeld
            refine hK.out _ _ (sBox (unhide Y2)) (fun hHeld => ?_)
            clear hK K
            (try simp only [Act.put, List.setIfInBounds_toArray, List.set_cons_zero, List.set_cons_succ])
            (refine wpAnyH_ready (rs := [6]) (by kernel_rfl) (by simp) ?_; refine AllReadyH.cons (o := _) rfl (fun K hK => ?_) AllReadyH.nil; go_simp)
            have Y9 := hide ((unhide Y2).below ((Below.refl _ _).alloc (Nat.le_refl _) (.cells #[.string wd0, .string wd1, .string wd2] 9)))
            have E9 := hide ((unhide E2).alloc (unhide E2).size (.cells #[.string wd0, .string wd1, .string wd2] 9))
            have W9 := hide (tab_new v2 9)
            clear hHeld
            refine hK.out _ _ (sBox (unhide Y9)) (fun hHeld => ?_)
            clear hK K hHeld
            (try simp only [Act.put, List.setIfInBounds_toArray, List.set_cons_zero, List.set_cons_succ])
            refine wpAnyH_strong (S' := fun w' => (Bx w' wr.heap.size ⟨ad, 2, mt, mp⟩ ∧ TabW w' v2.heap.size) ∧ w'.cell? ⟨wr.heap.size, 0, none⟩ = some (.int .i64 ad) ∧ w'.cell? ⟨wr.heap.size, 1, none⟩ = some (.int .i64 2) ∧ w'.cell? ⟨wr.heap.size, 2, none⟩ = some (.int .i64 mt) ∧ w'.cell? ⟨wr.heap.size, 3, none⟩ = some (.bool mp) ∧ w'.cell? ⟨v2.heap.size, 0, none⟩ = some (.string wd0) ∧ w'.cell? ⟨v2.heap.size, 1, none⟩ = some (.string wd1) ∧ w'.cell? ⟨v2.heap.size, 2, none⟩ = some (.string wd2)) (fun _ h => sBox h.1.1) ?_
            have hHeld := sBoxW (unhide Y9) (unhide W9)
            (refine Rg.tk (i := 9) (d := 40) (v := ?_) rfl rfl (by kernel_rfl) (by kernel_rfl) (by kernel_rfl) (fun _ _ _ h => h) (by rfl) ?_ (by assumption) ?_; rotate_left; (focus (intro w0 hSw; (try dsimp only at hSw); go_simp; (try with_reducible rfl))); (try simp only [Act.put, List.setIfInBounds_toArray, List.set_cons_zero, List.set_cons_succ]))
            (refine Rg.tk (i := 10) (d := 41) (v := ?_) rfl rfl (by kernel_rfl) (by kernel_rfl) (by kernel_rfl) (fun _ _ _ h => h) (by rfl) ?_ (by assumption) ?_; rotate_left; (focus (intro w0 hSw; (try dsimp only at hSw); go_simp; (try with_reducible rfl))); (try simp only [Act.put, List.setIfInBounds_toArray, List.set_cons_zero, List.set_cons_succ]))
            (refine Rg.tk (i := 11) (d := 42) (v := ?_) rfl rfl (by kernel_rfl) (by kernel_rfl) (by kernel_rfl) (fun _ _ _ h => h) (by rfl) ?_ (by assumption) ?_; rotate_left; (focus (intro w0 hSw; (try dsimp only at hSw); go_simp; (try with_reducible rfl))); (try simp only [Act.put, List.setIfInBounds_toArray, List.set_cons_zero, List.set_cons_succ]))
            (refine Rg.tk (i := 12) (d := 43) (v := ?_) rfl rfl (by kernel_rfl) (by kernel_rfl) (by kernel_rfl) (fun _ _ _ h => h) (by rfl) ?_ (by assumption) ?_; rotate_left; (focus (intro w0 hSw; (try dsimp only at hSw); go_simp; (try with_reducible rfl))); (try simp only [Act.put, List.setIfInBounds_toArray, List.set_cons_zero, List.set_cons_succ]))
            (refine Rg.tk (i := 16) (d := 47) (v := ?_) rfl rfl (by kernel_rfl) (by kernel_rfl) (by kernel_rfl) (fun _ _ _ h => h) (by rfl) ?_ (by assumption) ?_; rotate_left; (focus (intro w0 hSw; (try dsimp only at hSw); go_simp; (try with_reducible rfl))); (try simp only [Act.put, List.setIfInBounds_toArray, List.set_cons_zero, List.set_cons_succ]))
            (refine Rg.tk (i := 17) (d := 48) (v := ?_) rfl rfl (by kernel_rfl) (by kernel_rfl) (by kernel_rfl) (fun _ _ _ h => h) (by rfl) ?_ (by assumption) ?_; rotate_left; (focus (intro w0 hSw; (try dsimp only at hSw); go_simp; (try with_reducible rfl))); (try simp only [Act.put, List.setIfInBounds_toArray, List.set_cons_zero, List.set_cons_succ]))
            (refine Rg.tk (i := 18) (d := 4) (v := ?_) rfl rfl (by kernel_rfl) (by kernel_rfl) (by kernel_rfl) (fun _ _ _ h => h) (by rfl) ?_ (by assumption) ?_; rotate_left; (focus (intro w0 hSw; (try dsimp only at hSw); go_simp; (try with_reducible rfl))); (try simp only [Act.put, List.setIfInBounds_toArray, List.set_cons_zero, List.set_cons_succ]))
            refine wpAnyH_done (by kernel_rfl) (NoPanic.normal ?_) _
            clear hHeld
            have z3 := (unhide Y9).2.2.2
            dsimp only at z3
            rw [unhide HQ]
            cases mp
            all_goals
              go_wp2_with fail
              go_roundw
              case rel => exact ⟨j + 1, by omega, by go_num, congrArg Value.string (by rw [unhide HST]; rfl), E9⟩
              case measure => simp [intOf]; omega
        · go_simp
          have Y9 := hide ((unhide Y0).below ((Below.refl _ _).alloc (Nat.le_refl _) (.cells #[.string wd0, .string wd1, .string wd2] 9)))
          have E9 := hide ((unhide E0).alloc (unhide E0).size (.cells #[.string wd0, .string wd1, .string wd2] 9))
          have W9 := hide (tab_new V0 9)
          clear hHeld
          refine hK.out _ _ (sBox (unhide Y9)) (fun hHeld => ?_)
          clear hK K hHeld
          (try simp only [Act.put, List.setIfInBounds_toArray, List.set_cons_zero, List.set_cons_succ])
          refine wpAnyH_strong (S' := fun w' => (Bx w' wr.heap.size ⟨ad, 2, mt, mp⟩ ∧ TabW w' V0.heap.size) ∧ w'.cell? ⟨wr.heap.size, 0, none⟩ = some (.int .i64 ad) ∧ w'.cell? ⟨wr.heap.size, 1, none⟩ = some (.int .i64 2) ∧ w'.cell? ⟨wr.heap.size, 2, none⟩ = some (.int .i64 mt) ∧ w'.cell? ⟨wr.heap.size, 3, none⟩ = some (.bool mp) ∧ w'.cell? ⟨V0.heap.size, 0, none⟩ = some (.string wd0) ∧ w'.cell? ⟨V0.heap.size, 1, none⟩ = some (.string wd1) ∧ w'.cell? ⟨V0.heap.size, 2, none⟩ = some (.string wd2)) (fun _ h => sBox h.1.1) ?_
          have hHeld := sBoxW (unhide Y9) (unhide W9)
          (refine Rg.tk (i := 9) (d := 40) (v := ?_) rfl rfl (by kernel_rfl) (by kernel_rfl) (by kernel_rfl) (fun _ _ _ h => h) (by rfl) ?_ (by assumption) ?_; rotate_left; (focus (intro w0 hSw; (try dsimp only at hSw); go_simp; (try with_reducible rfl))); (try simp only [Act.put, List.setIfInBounds_toArray, List.set_cons_zero, List.set_cons_succ]))
          (refine Rg.tk (i := 10) (d := 41) (v := ?_) rfl rfl (by kernel_rfl) (by kernel_rfl) (by kernel_rfl) (fun _ _ _ h => h) (by rfl) ?_ (by assumption) ?_; rotate_left; (focus (intro w0 hSw; (try dsimp only at hSw); go_simp; (try with_reducible rfl))); (try simp only [Act.put, List.setIfInBounds_toArray, List.set_cons_zero, List.set_cons_succ]))
          (refine wpAnyH_ready (rs := [3]) (by kernel_rfl) (by simp) ?_; refine AllReadyH.cons (o := _) rfl (fun K hK => ?_) AllReadyH.nil; go_simp)
          refine (digs (ad) (by omega) (by omega) _).mono ?_
          rintro e v10 ⟨rfl, d10⟩
          rw [unhide HDA]
          have Y10 := hide ((unhide Y9).below d10)
          have E10 := hide ((unhide E9).trans (d10.mono (unhide E9).size))
          have W10 := hide ((unhide W9).below d10)
          clear d10 hHeld
          refine hK.out _ _ (sBoxW (unhide Y10) (unhide W10)) (fun hHeld => ?_)
          clear hK K
          (try simp only [Act.put, List.setIfInBounds_toArray, List.set_cons_zero, List.set_cons_succ])
          (refine Rg.tk (i := 4) (d := 35) (v := ?_) rfl rfl (by kernel_rfl) (by kernel_rfl) (by kernel_rfl) (fun _ _ _ h => h) (by rfl) ?_ (by assumption) ?_; rotate_left; (focus (intro w0 hSw; (try dsimp only at hSw); go_simp; (try with_reducible rfl))); (try simp only [Act.put, List.setIfInBounds_toArray, List.set_cons_zero, List.set_cons_succ]))
          (refine Rg.tk (i := 5) (d := 36) (v := ?_) rfl rfl (by kernel_rfl) (by kernel_rfl) (by kernel_rfl) (fun _ _ _ h => h) (by rfl) ?_ (by assumption) ?_; rotate_left; (focus (intro w0 hSw; (try dsimp only at hSw); go_simp; (try with_reducible rfl))); (try simp only [Act.put, List.setIfInBounds_toArray, List.set_cons_zero, List.set_cons_succ]))
          (refine Rg.tk (i := 11) (d := 42) (v := ?_) rfl rfl (by kernel_rfl) (by kernel_rfl) (by kernel_rfl) (fun _ _ _ h => h) (by rfl) ?_ (by assumption) ?_; rotate_left; (focus (intro w0 hSw; (try dsimp only at hSw); go_simp; (try with_reducible rfl))); (try simp only [Act.put, List.setIfInBounds_toArray, List.set_cons_zero, List.set_cons_succ]))
          (refine Rg.tk (i := 12) (d := 43) (v := ?_) rfl rfl (by kernel_rfl) (by kernel_rfl) (by kernel_rfl) (fun _ _ _ h => h) (by rfl) ?_ (by assumption) ?_; rotate_left; (focus (intro w0 hSw; (try dsimp only at hSw); go_simp; (try with_reducible rfl))); (try simp only [Act.put, List.setIfInBounds_toArray, List.set_cons_zero, List.set_cons_succ]))
          (refine wpAnyH_ready (rs := [15]) (by kernel_rfl) (by simp) ?_; refine AllReadyH.cons (o := _) rfl (fun K hK => ?_) AllReadyH.nil; go_simp)
          refine (digs (mt) (by omega) (by omega) _).mono ?_
          rintro e v12 ⟨rfl, d12⟩
          rw [unhide HDM]
          have Y12 := hide ((unhide Y10).below d12)
          have E12 := hide ((unhide E10).trans (d12.mono (unhide E10).size))
          have W12 := hide ((unhide W10).below d12)
          clear d12 hHeld
          refine hK.out _ _ (sBoxW (unhide Y12) (unhide W12)) (fun hHeld => ?_)
          clear hK K
          (try simp only [Act.put, List.setIfInBounds_toArray, List.set_cons_zero, List.set_cons_succ])
          (refine Rg.tk (i := 16) (d := 47) (v := ?_) rfl rfl (by kernel_rfl) (by kernel_rfl) (by kernel_rfl) (fun _ _ _ h => h) (by rfl) ?_ (by assumption) ?_; rotate_left; (focus (intro w0 hSw; (try dsimp only at hSw); go_simp; (try with_reducible rfl))); (try simp only [Act.put, List.setIfInBounds_toArray, List.set_cons_zero, List.set_cons_succ]))
          (refine Rg.tk (i := 17) (d := 48) (v := ?_) rfl rfl (by kernel_rfl) (by kernel_rfl) (by kernel_rfl) (fun _ _ _ h => h) (by rfl) ?_ (by assumption) ?_; rotate_left; (focus (intro w0 hSw; (try dsimp only at hSw); go_simp; (try with_reducible rfl))); (try simp only [Act.put, List.setIfInBounds_toArray, List.set_cons_zero, List.set_cons_succ]))
          (refine Rg.tk (i := 18) (d := 4) (v := ?_) rfl rfl (by kernel_rfl) (by kernel_rfl) (by kernel_rfl) (fun _ _ _ h => h) (by rfl) ?_ (by assumption) ?_; rotate_left; (focus (intro w0 hSw; (try dsimp only at hSw); go_simp; (try with_reducible rfl))); (try simp only [Act.put, List.setIfInBounds_toArray, List.set_cons_zero, List.set_cons_succ]))
          refine wpAnyH_done (by kernel_rfl) (NoPanic.normal ?_) _
          clear hHeld
          have z3 := (unhide Y12).2.2.2
          dsimp only at z3
          rw [unhide HQ]
          cases mp
          all_goals
            go_wp2_with fail
            go_roundw
            case rel => exact ⟨j + 1, by omega, by go_num, congrArg Value.string (by rw [unhide HST]; rfl), E12⟩
            case measure => simp [intOf]; omega
    · obtain rfl : j = n := by omega
      have HF := hide ((unhide D3).trans ((unhide hbl).mono (unhide D3).size))
      have ej : txtN x y ms j = txtN x y ms ms.length := by rw [unhide HN]
      rw [ej]
      clear ej
      go_wp2_with fail
      go_ret2
      exact ⟨rfl, unhide HF⟩
set_option maxRecDepth 100000 in
set_option maxHeartbeats 1000000 in
theorem implText (x y : Int) (a : Option Addr) (ms : List R) (cap : Nat) (w : World) (hm : ms.length ≤ 1048576) (hr : RM w a ms) (hp : TabP w) (ht : TabW w 0) :
    Calls Tryd.prog 8 #[.agg #[.int .i64 x, .int .i64 y, .slice a ms.length cap]] w fun e w' => e = .returned (.tuple #[.string (txtS x y ms), .int .i64 (txtE x y ms)]) ∧ Below w.heap.size w w' := by
  have HP := hide (Lib.tabBelow_of_tabIs hp)
  have HW : Hid (∀ w', Below w.heap.size w w' → TabW w' 0) := hide (fun w' hb => ht.below hb)
  clear hp ht
  have HA : Hid (Below w.heap.size w (w.alloc (.cells #[.int .i64 x, .int .i64 y, .slice a ms.length cap] 30))) := hide ((Below.refl _ _).alloc (Nat.le_refl _) _)
  have HX : Hid (Bx3 (w.alloc (.cells #[.int .i64 x, .int .i64 y, .slice a ms.length cap] 30)) w.heap.size x y (.slice a ms.length cap)) := hide (bx3_new w x y _ _)
  have HR := hide ((hr).below (unhide HA))
  have HR0 := hide hr
  clear hr
  cases hh : helB x y ms
  · have h1 : txtS x y ms = ⟨#[]⟩ := by unfold txtS; rw [if_neg (by simp [hh])]
    have h2 : txtE x y ms = 1 := by unfold txtE; rw [if_neg (by simp [hh])]
    rw [h1, h2]
    have HH := hide hh
    clear h1 h2 hh
    go_enter Tryd.func8, Tryd.ntmps8
    go_wp2_with fail
    refine (implOK x y a ms cap _ hm (unhide HR)).mono ?_
    rintro e w1 ⟨rfl, b1⟩
    rw [unhide HH]
    have hb1 := hide ((unhide HA).trans (b1.mono (unhide HA).size))
    clear b1
    go_wp2_with fail
    go_ret2
    exact ⟨rfl, unhide hb1⟩
  have h1 : txtS x y ms = txtN x y ms ms.length := by unfold txtS; rw [if_pos hh]
  have h2 : txtE x y ms = 0 := by unfold txtE; rw [if_pos hh]
  rw [h1, h2]
  have h8 := hel_len hh
  obtain ⟨x0, x1⟩ := hel_will hh
  obtain ⟨y0, y1⟩ := hel_valid hh
  have HOK : Hid (∀ j, j < ms.length → okN (ms.getD j R.zero) = true) := hide (fun j hj => Ri.all_ok (hel_all hh) hj)
  have HSZ := hide (txtN_size hh)
  have HH := hide hh
  clear h1 h2 hh
  go_enter Tryd.func8, Tryd.ntmps8
  go_wp2_with fail
  refine (implOK x y a ms cap _ hm (unhide HR)).mono ?_
  rintro e w1 ⟨rfl, b1⟩
  rw [unhide HH]
  have X1 := hide ((unhide HX).below b1)
  have HR1 := hide ((unhide HR).below b1)
  have D1 := hide ((unhide HA).trans (b1.mono (unhide HA).size))
  clear b1 HX HR HA
  have sx := dg_size (n := x) (by omega)
  have sy := dg_size (n := y) (by omega)
  go_wp2_with fail
  refine wp_region_noPanic ?_
  refine wp_region_held_drew (S := fun w' => Bx3 w' w.heap.size x y (.slice a ms.length cap) ∧ w'.cell? ⟨w.heap.size, 0, none⟩ = some (.int .i64 x) ∧ w'.cell? ⟨w.heap.size, 1, none⟩ = some (.int .i64 y) ∧ w'.cell? ⟨w.heap.size, 2, none⟩ = some (.slice a ms.length cap)) (by kernel_rfl) (sBx3t (unhide X1).drew) (fun hHeld => ?_)
  (refine Rg.tk (i := 0) (d := 10) (v := ?_) rfl rfl (by kernel_rfl) (by kernel_rfl) (by kernel_rfl) (fun _ _ _ h => h) (by rfl) ?_ (by assumption) ?_; rotate_left; (focus (intro w0 hSw; (try dsimp only at hSw); go_simp; (try with_reducible rfl))); (try simp only [Act.put, List.setIfInBounds_toArray, List.set_cons_zero, List.set_cons_succ]))
  (refine Rg.tk (i := 1) (d := 11) (v := ?_) rfl rfl (by kernel_rfl) (by kernel_rfl) (by kernel_rfl) (fun _ _ _ h => h) (by rfl) ?_ (by assumption) ?_; rotate_left; (focus (intro w0 hSw; (try dsimp only at hSw); go_simp; (try with_reducible rfl))); (try simp only [Act.put, List.setIfInBounds_toArray, List.set_cons_zero, List.set_cons_succ]))
  (refine Rg.tk (i := 5) (d := 15) (v := ?_) rfl rfl (by kernel_rfl) (by kernel_rfl) (by kernel_rfl) (fun _ _ _ h => h) (by rfl) ?_ (by assumption) ?_; rotate_left; (focus (intro w0 hSw; (try dsimp only at hSw); go_simp; (try with_reducible rfl))); (try simp only [Act.put, List.setIfInBounds_toArray, List.set_cons_zero, List.set_cons_succ]))
  (refine Rg.tk (i := 6) (d := 16) (v := ?_) rfl rfl (by kernel_rfl) (by kernel_rfl) (by kernel_rfl) (fun _ _ _ h => h) (by rfl) ?_ (by assumption) ?_; rotate_left; (focus (intro w0 hSw; (try dsimp only at hSw); go_simp; (try with_reducible rfl))); (try simp only [Act.put, List.setIfInBounds_toArray, List.set_cons_zero, List.set_cons_succ]))
  (refine wpAnyH_ready (rs := [2]) (by kernel_rfl) (by simp) ?_; refine AllReadyH.cons (o := _) rfl (fun K hK => ?_) AllReadyH.nil; go_simp)
  refine (itoa (x) (by omega) (by omega) _ (unhide HP _ ((unhide D1).drew))).mono ?_
  rintro e w2 ⟨rfl, b2⟩
  have X2 := hide ((unhide X1).drew.below b2)
  have D2 := hide ((unhide D1).drew.trans (b2.mono (by show w.heap.size ≤ w1.heap.size; exact (unhide D1).size)))
  clear b2 hHeld
  refine hK.out _ _ (sBx3t (unhide X2)) (fun hHeld => ?_)
  clear hK K
  (try simp only [Act.put, List.setIfInBounds_toArray, List.set_cons_zero, List.set_cons_succ])
  have HHD : Hid (sWill ++ dg x ++ sValid ++ dg y = txtN x y ms 0) := hide rfl
  generalize hdx : dg x = dx at *
  generalize hdy : dg y = dy at *
  have HDY := hide hdy
  clear hdx hdy
  have q1 : ¬ (9223372036854775807 < 5 + dx.size) := by omega
  have q2 : ¬ (9223372036854775807 < 5 + dx.size + 7) := by omega
  have q3 : ¬ (9223372036854775807 < 5 + dx.size + 7 + dy.size) := by omega
  (refine Rg.tk (i := 3) (d := 13) (v := ?_) rfl rfl (by kernel_rfl) (by kernel_rfl) (by kernel_rfl) (fun _ _ _ h => h) (by rfl) ?_ (by assumption) ?_; rotate_left; (focus (intro w0 hSw; (try dsimp only at hSw); go_simp; (try with_reducible rfl))); (try simp only [Act.put, List.setIfInBounds_toArray, List.set_cons_zero, List.set_cons_succ]))
  (refine Rg.tk (i := 4) (d := 14) (v := ?_) rfl rfl (by kernel_rfl) (by kernel_rfl) (by kernel_rfl) (fun _ _ _ h => h) (by rfl) ?_ (by assumption) ?_; rotate_left; (focus (intro w0 hSw; (try dsimp only at hSw); go_simp; (try with_reducible rfl))); (try simp only [Act.put, List.setIfInBounds_toArray, List.set_cons_zero, List.set_cons_succ]))
  (refine wpAnyH_ready (rs := [7]) (by kernel_rfl) (by simp) ?_; refine AllReadyH.cons (o := _) rfl (fun K hK => ?_) AllReadyH.nil; go_simp)
  refine (itoa (y) (by omega) (by omega) _ (unhide HP _ (unhide D2))).mono ?_
  rintro e w3 ⟨rfl, b3⟩
  rw [unhide HDY]
  have X3 := hide ((unhide X2).below b3)
  have D3 := hide ((unhide D2).trans (b3.mono (unhide D2).size))
  clear b3 hHeld
  refine hK.out _ _ (sBx3t (unhide X3)) (fun hHeld => ?_)
  clear hK K
  (try simp only [Act.put, List.setIfInBounds_toArray, List.set_cons_zero, List.set_cons_succ])
  (refine Rg.tk (i := 8) (d := 18) (v := ?_) rfl rfl (by kernel_rfl) (by kernel_rfl) (by kernel_rfl) (fun _ _ _ h => h) (by rfl) ?_ (by assumption) ?_; rotate_left; (focus (intro w0 hSw; (try dsimp only at hSw); go_simp; (try with_reducible rfl))); (try simp only [Act.put, List.setIfInBounds_toArray, List.set_cons_zero, List.set_cons_succ]))
  (refine Rg.tk (i := 9) (d := 4) (v := ?_) rfl rfl (by kernel_rfl) (by kernel_rfl) (by kernel_rfl) (fun _ _ _ h => h) (by rfl) ?_ (by assumption) ?_; rotate_left; (focus (intro w0 hSw; (try dsimp only at hSw); go_simp; (try with_reducible rfl))); (try simp only [Act.put, List.setIfInBounds_toArray, List.set_cons_zero, List.set_cons_succ]))
  refine wpAnyH_done (by kernel_rfl) (NoPanic.normal ?_) _
  clear hHeld q1 q2 q3 X1 X2 D2
  have R3 := hide ((unhide HR0).below (unhide D3))
  generalize hN : ms.length = n at *
  have HN := hide hN
  clear hN
  have hbx := (unhide X3).2.2
  go_wp2_with fail
  clear hbx
  rw [unhide HHD]
  go_loopw [4, 22] (fun v i wr => ∃ j : Nat, j ≤ n ∧ i = .int .i64 j ∧ v = .string (txtN x y ms j) ∧ Hid (Below w3.heap.size w3 wr)) (fun _ i _ => n - (intOf i).toNat)
  case atStart => exact ⟨0, by omega, rfl, rfl, hide (Below.refl _ _)⟩
  case round =>
    obtain ⟨j, hj, rfl, rfl, hbl⟩ := hrel
    by_cases hlt : (j : Int) < (n : Int)
    · have k0 : (0 : Int) ≤ (j : Int) := by omega
      have hlen : j < ms.length := by rw [unhide HN]; omega
      rcases (unhide R3).below (by exact (unhide hbl)) with e0 | ⟨g, off, rfl, hc⟩
      · exfalso; rw [e0] at hlen; simp at hlen
      have hA := hc j hlen
      clear hc
      have hok := unhide HOK j (by omega)
      obtain ⟨a0, a1⟩ := ok_ad hok
      obtain ⟨s0, s1⟩ := ok_st hok
      obtain ⟨m0, m1⟩ := ok_mt hok
      have hT0 := unhide HSZ j (by omega)
      have hT : (txtN x y ms j).size ≤ 252 := by omega
      have sa := dg_size (n := (ms.getD j R.zero).ad) (by omega)
      have sm := dg_size (n := (ms.getD j R.zero).mt) (by omega)
      have HQ : Hid (txtN x y ms j ++ (s32 ++ dg (ms.getD j R.zero).ad ++ s58 ++ wd (ms.getD j R.zero).st ++ s58 ++ dg (ms.getD j R.zero).mt) = txtN x y ms j ++ nbT (ms.getD j R.zero)) := hide rfl
      have HST : Hid (txtN x y ms (j + 1) = if (ms.getD j R.zero).mp = true then txtN x y ms j ++ nbT (ms.getD j R.zero) ++ sMpr else txtN x y ms j ++ nbT (ms.getD j R.zero)) := hide rfl
      have hnz := nbT_size hok
      have Y0 := hide (bx_new wr (ms.getD j R.zero) 49)
      have E0 := hide ((unhide hbl).alloc (unhide hbl).size (.cells #[.int .i64 (ms.getD j R.zero).ad, .int .i64 (ms.getD j R.zero).st, .int .i64 (ms.getD j R.zero).mt, .bool (ms.getD j R.zero).mp] 49))
      clear hok hT0
      generalize ms.getD j R.zero = m at *
      obtain ⟨ad, st, mt, mp⟩ := m
      obtain ⟨c0, c1, c2, c3⟩ := hA
      dsimp only at c0 c1 c2 c3 a0 a1 s0 s1 m0 m1 sa sm HQ HST Y0 E0
      generalize hda : dg ad = da at *
      have HDA := hide hda
      clear hda
      generalize hdm : dg mt = dm at *
      have HDM := hide hdm
      clear hdm
      generalize hTT : txtN x y ms j = T at *
      clear hTT
      generalize hnb : nbT ⟨ad, st, mt, mp⟩ = nb at *
      clear hnb
      have h3 : st = 0 ∨ st = 1 ∨ st = 2 := by omega
      clear s0 s1
      rcases h3 with rfl | rfl | rfl
      ·
        simp only [wd_0] at HQ
        have qq0 : ¬ (9223372036854775807 < 1 + da.size) := by omega
        have qq1 : ¬ (9223372036854775807 < 1 + da.size + 1) := by omega
        have qq2 : ¬ (9223372036854775807 < 1 + da.size + 1 + 4) := by omega
        have qq3 : ¬ (9223372036854775807 < 1 + da.size + 1 + 4 + 1) := by omega
        have qq4 : ¬ (9223372036854775807 < 1 + da.size + 1 + 4 + 1 + dm.size) := by omega
        have qq5 : ¬ (9223372036854775807 < T.size + (1 + da.size + 1 + 4 + 1 + dm.size)) := by omega
        have qq6 : ¬ (9223372036854775807 < T.size + nb.size + 4) := by omega
        go_wp2_with fail
        generalize hW : wr.alloc (.cells _ _) = W1 at *
        clear hW
        have W0 := hide (unhide HW _ ((unhide D3).trans ((unhide E0).mono (unhide D3).size)))
        refine wp_region_noPanic ?_
        refine wp_region_held_drew (S := fun w' => (Bx w' wr.heap.size ⟨ad, 0, mt, mp⟩ ∧ TabW w' 0) ∧ w'.cell? ⟨wr.heap.size, 0, none⟩ = some (.int .i64 ad) ∧ w'.cell? ⟨wr.heap.size, 1, none⟩ = some (.int .i64 0) ∧ w'.cell? ⟨wr.heap.size, 2, none⟩ = some (.int .i64 mt) ∧ w'.cell? ⟨wr.heap.size, 3, none⟩ = some (.bool mp) ∧ w'.cell? ⟨0, 0, none⟩ = some (.string wd0) ∧ w'.cell? ⟨0, 1, none⟩ = some (.string wd1) ∧ w'.cell? ⟨0, 2, none⟩ = some (.string wd2)) (by kernel_rfl) (sBoxW (unhide Y0).drew (unhide W0).drew) (fun hHeld => ?_)
        (refine Rg.tk (i := 0) (d := 26) (v := ?_) rfl rfl (by kernel_rfl) (by kernel_rfl) (by kernel_rfl) (fun _ _ _ h => h) (by rfl) ?_ (by assumption) ?_; rotate_left; (focus (intro w0 hSw; (try dsimp only at hSw); go_simp; (try with_reducible rfl))); (try simp only [Act.put, List.setIfInBounds_toArray, List.set_cons_zero, List.set_cons_succ]))
        (refine Rg.tk (i := 1) (d := 27) (v := ?_) rfl rfl (by kernel_rfl) (by kernel_rfl) (by kernel_rfl) (fun _ _ _ h => h) (by rfl) ?_ (by assumption) ?_; rotate_left; (focus (intro w0 hSw; (try dsimp only at hSw); go_simp; (try with_reducible rfl))); (try simp only [Act.put, List.setIfInBounds_toArray, List.set_cons_zero, List.set_cons_succ]))
        (refine Rg.tk (i := 2) (d := 28) (v := ?_) rfl rfl (by kernel_rfl) (by kernel_rfl) (by kernel_rfl) (fun _ _ _ h => h) (by rfl) ?_ (by assumption) ?_; rotate_left; (focus (intro w0 hSw; (try dsimp only at hSw); go_simp; (try with_reducible rfl))); (try simp only [Act.put, List.setIfInBounds_toArray, List.set_cons_zero, List.set_cons_succ]))
        (refine Rg.tk (i := 6) (d := 32) (v := ?_) rfl rfl (by kernel_rfl) (by kernel_rfl) (by kernel_rfl) (fun _ _ _ h => h) (by rfl) ?_ (by assumption) ?_; rotate_left; (focus (intro w0 hSw; (try dsimp only at hSw); go_simp; (try with_reducible rfl))); (try simp only [Act.put, List.setIfInBounds_toArray, List.set_cons_zero, List.set_cons_succ]))
        (refine Rg.tk (i := 7) (d := 33) (v := ?_) rfl rfl (by kernel_rfl) (by kernel_rfl) (by kernel_rfl) (fun _ _ _ h => h) (by rfl) ?_ (by assumption) ?_; rotate_left; (focus (intro w0 hSw; (try dsimp only at hSw); go_simp; (try with_reducible rfl))); (try simp only [Act.put, List.setIfInBounds_toArray, List.set_cons_zero, List.set_cons_succ]))
        (refine Rg.tk (i := 8) (d := 34) (v := ?_) rfl rfl (by kernel_rfl) (by kernel_rfl) (by kernel_rfl) (fun _ _ _ h => h) (by rfl) ?_ (by assumption) ?_; rotate_left; (focus (intro w0 hSw; (try dsimp only at hSw); go_simp; (try with_reducible rfl))); (try simp only [Act.put, List.setIfInBounds_toArray, List.set_cons_zero, List.set_cons_succ]))
        (refine Rg.tk (i := 9) (d := 35) (v := ?_) rfl rfl (by kernel_rfl) (by kernel_rfl) (by kernel_rfl) (fun _ _ _ h => h) (by rfl) ?_ (by assumption) ?_; rotate_left; (focus (intro w0 hSw; (try dsimp only at hSw); go_simp; (try with_reducible rfl))); (try simp only [Act.put, List.setIfInBounds_toArray, List.set_cons_zero, List.set_cons_succ]))
        (refine Rg.tk (i := 12) (d := 38) (v := ?_) rfl rfl (by kernel_rfl) (by kernel_rfl) (by kernel_rfl) (fun _ _ _ h => h) (by rfl) ?_ (by assumption) ?_; rotate_left; (focus (intro w0 hSw; (try dsimp only at hSw); go_simp; (try with_reducible rfl))); (try simp only [Act.put, List.setIfInBounds_toArray, List.set_cons_zero, List.set_cons_succ]))
        (refine Rg.tk (i := 13) (d := 39) (v := ?_) rfl rfl (by kernel_rfl) (by kernel_rfl) (by kernel_rfl) (fun _ _ _ h => h) (by rfl) ?_ (by assumption) ?_; rotate_left; (focus (intro w0 hSw; (try dsimp only at hSw); go_simp; (try with_reducible rfl))); (try simp only [Act.put, List.setIfInBounds_toArray, List.set_cons_zero, List.set_cons_succ]))
        (refine wpAnyH_ready (rs := [3]) (by kernel_rfl) (by simp) ?_; refine AllReadyH.cons (o := _) rfl (fun K hK => ?_) AllReadyH.nil; go_simp)
        refine (itoa (ad) (by omega) (by omega) _ (unhide HP _ (((unhide D3).trans ((unhide E0).drew.mono (unhide D3).size))))).mono ?_
        rintro e v1 ⟨rfl, d1⟩
        rw [unhide HDA]
        have Y1 := hide ((unhide Y0).drew.below d1)
        have E1 := hide ((unhide E0).drew.trans (d1.mono (by show w3.heap.size ≤ W1.heap.size; exact (unhide E0).size)))
        have W1 := hide ((unhide W0).drew.below d1)
        clear d1 hHeld
        refine hK.out _ _ (sBoxW (unhide Y1) (unhide W1)) (fun hHeld => ?_)
        clear hK K
        (try simp only [Act.put, List.setIfInBounds_toArray, List.set_cons_zero, List.set_cons_succ])
        (refine Rg.tk (i := 4) (d := 30) (v := ?_) rfl rfl (by kernel_rfl) (by kernel_rfl) (by kernel_rfl) (fun _ _ _ h => h) (by rfl) ?_ (by assumption) ?_; rotate_left; (focus (intro w0 hSw; (try dsimp only at hSw); go_simp; (try with_reducible rfl))); (try simp only [Act.put, List.setIfInBounds_toArray, List.set_cons_zero, List.set_cons_succ]))
        (refine Rg.tk (i := 5) (d := 31) (v := ?_) rfl rfl (by kernel_rfl) (by kernel_rfl) (by kernel_rfl) (fun _ _ _ h => h) (by rfl) ?_ (by assumption) ?_; rotate_left; (focus (intro w0 hSw; (try dsimp only at hSw); go_simp; (try with_reducible rfl))); (try simp only [Act.put, List.setIfInBounds_toArray, List.set_cons_zero, List.set_cons_succ]))
        (refine Rg.tk (i := 10) (d := 36) (v := ?_) rfl rfl (by kernel_rfl) (by kernel_rfl) (by kernel_rfl) (fun _ _ _ h => h) (by rfl) ?_ (by assumption) ?_; rotate_left; (focus (intro w0 hSw; (try dsimp only at hSw); go_simp; (try with_reducible rfl))); (try simp only [Act.put, List.setIfInBounds_toArray, List.set_cons_zero, List.set_cons_succ]))
        (refine Rg.tk (i := 11) (d := 37) (v := ?_) rfl rfl (by kernel_rfl) (by kernel_rfl) (by kernel_rfl) (fun _ _ _ h => h) (by rfl) ?_ (by assumption) ?_; rotate_left; (focus (intro w0 hSw; (try dsimp only at hSw); go_simp; (try with_reducible rfl))); (try simp only [Act.put, List.setIfInBounds_toArray, List.set_cons_zero, List.set_cons_succ]))
        (refine wpAnyH_ready (rs := [14]) (by kernel_rfl) (by simp) ?_; refine AllReadyH.cons (o := _) rfl (fun K hK => ?_) AllReadyH.nil; go_simp)
        refine (itoa (mt) (by omega) (by omega) _ (unhide HP _ (((unhide D3).trans ((unhide E1).mono (unhide D3).size))))).mono ?_
        rintro e v2 ⟨rfl, d2⟩
        rw [unhide HDM]
        have Y2 := hide ((unhide Y1).below d2)
        have E2 := hide ((unhide E1).trans (d2.mono (unhide E1).size))
        have W2 := hide ((unhide W1).below d2)
        clear d2 hHeld
        refine hK.out _ _ (sBoxW (unhide Y2) (unhide W2)) (fun hHeld => ?_)
        clear hK K
        (try simp only [Act.put, List.setIfInBounds_toArray, List.set_cons_zero, List.set_cons_succ])
        (refine Rg.tk (i := 15) (d := 41) (v := ?_) rfl rfl (by kernel_rfl) (by kernel_rfl) (by kernel_rfl) (fun _ _ _ h => h) (by rfl) ?_ (by assumption) ?_; rotate_left; (focus (intro w0 hSw; (try dsimp only at hSw); go_simp; (try with_reducible rfl))); (try simp only [Act.put, List.setIfInBounds_toArray, List.set_cons_zero, List.set_cons_succ]))
        (refine Rg.tk (i := 16) (d := 42) (v := ?_) rfl rfl (by kernel_rfl) (by kernel_rfl) (by kernel_rfl) (fun _ _ _ h => h) (by rfl) ?_ (by assumption) ?_; rotate_left; (focus (intro w0 hSw; (try dsimp only at hSw); go_simp; (try with_reducible rfl))); (try simp only [Act.put, List.setIfInBounds_toArray, List.set_cons_zero, List.set_cons_succ]))
        (refine Rg.tk (i := 17) (d := 4) (v := ?_) rfl rfl (by kernel_rfl) (by kernel_rfl) (by kernel_rfl) (fun _ _ _ h => h) (by rfl) ?_ (by assumption) ?_; rotate_left; (focus (intro w0 hSw; (try dsimp only at hSw); go_simp; (try with_reducible rfl))); (try simp only [Act.put, List.setIfInBounds_toArray, List.set_cons_zero, List.set_cons_succ]))
        refine wpAnyH_done (by kernel_rfl) (NoPanic.normal ?_) _
        clear hHeld
        have z3 := (unhide Y2).2.2.2
        dsimp only at z3
        rw [unhide HQ]
        cases mp
        all_goals
          go_wp2_with fail
          go_roundw
          case rel => exact ⟨j + 1, by omega, by go_num, congrArg Value.string (by rw [unhide HST]; rfl), E2⟩
          case measure => simp [intOf]; omega
      ·
        simp only [wd_1] at HQ
        have qq0 : ¬ (9223372036854775807 < 1 + da.size) := by omega
        have qq1 : ¬ (9223372036854775807 < 1 + da.size + 1) := by omega
        have qq2 : ¬ (9223372036854775807 < 1 + da.size + 1 + 5) := by omega
        have qq3 : ¬ (9223372036854775807 < 1 + da.size + 1 + 5 + 1) := by omega
        have qq4 : ¬ (9223372036854775807 < 1 + da.size + 1 + 5 + 1 + dm.size) := by omega
        have qq5 : ¬ (9223372036854775807 < T.size + (1 + da.size + 1 + 5 + 1 + dm.size)) := by omega
        have qq6 : ¬ (9223372036854775807 < T.size + nb.size + 4) := by omega
        go_wp2_with fail
        generalize hW : wr.alloc (.cells _ _) = W1 at *
        clear hW
        have W0 := hide (unhide HW _ ((unhide D3).trans ((unhide E0).mono (unhide D3).size)))
        refine wp_region_noPanic ?_
        refine wp_region_held_drew (S := fun w' => (Bx w' wr.heap.size ⟨ad, 1, mt, mp⟩ ∧ TabW w' 0) ∧ w'.cell? ⟨wr.heap.size, 0, none⟩ = some (.int .i64 ad) ∧ w'.cell? ⟨wr.heap.size, 1, none⟩ = some (.int .i64 1) ∧ w'.cell? ⟨wr.heap.size, 2, none⟩ = some (.int .i64 mt) ∧ w'.cell? ⟨wr.heap.size, 3, none⟩ = some (.bool mp) ∧ w'.cell? ⟨0, 0, none⟩ = some (.string wd0) ∧ w'.cell? ⟨0, 1, none⟩ = some (.string wd1) ∧ w'.cell? ⟨0, 2, none⟩ = some (.string wd2)) (by kernel_rfl) (sBoxW (unhide Y0).drew (unhide W0).drew) (fun hHeld => ?_)
        (refine Rg.tk (i := 0) (d := 26) (v := ?_) rfl rfl (by kernel_rfl) (by kernel_rfl) (by kernel_rfl) (fun _ _ _ h => h) (by rfl) ?_ (by assumption) ?_; rotate_left; (focus (intro w0 hSw; (try dsimp only at hSw); go_simp; (try with_reducible rfl))); (try simp only [Act.put, List.setIfInBounds_toArray, List.set_cons_zero, List.set_cons_succ]))
        (refine Rg.tk (i := 1) (d := 27) (v := ?_) rfl rfl (by kernel_rfl) (by kernel_rfl) (by kernel_rfl) (fun _ _ _ h => h) (by rfl) ?_ (by assumption) ?_; rotate_left; (focus (intro w0 hSw; (try dsimp only at hSw); go_simp; (try with_reducible rfl))); (try simp only [Act.put, List.setIfInBounds_toArray, List.set_cons_zero, List.set_cons_succ]))
        (refine Rg.tk (i := 2) (d := 28) (v := ?_) rfl rfl (by kernel_rfl) (by kernel_rfl) (by kernel_rfl) (fun _ _ _ h => h) (by rfl) ?_ (by assumption) ?_; rotate_left; (focus (intro w0 hSw; (try dsimp only at hSw); go_simp; (try with_reducible rfl))); (try simp only [Act.put, List.setIfInBounds_toArray, List.set_cons_zero, List.set_cons_succ]))
        (refine Rg.tk (i := 6) (d := 32) (v := ?_) rfl rfl (by kernel_rfl) (by kernel_rfl) (by kernel_rfl) (fun _ _ _ h => h) (by rfl) ?_ (by assumption) ?_; rotate_left; (focus (intro w0 hSw; (try dsimp only at hSw); go_simp; (try with_reducible rfl))); (try simp only [Act.put, List.setIfInBounds_toArray, List.set_cons_zero, List.set_cons_succ]))
        (refine Rg.tk (i := 7) (d := 33) (v := ?_) rfl rfl (by kernel_rfl) (by kernel_rfl) (by kernel_rfl) (fun _ _ _ h => h) (by rfl) ?_ (by assumption) ?_; rotate_left; (focus (intro w0 hSw; (try dsimp only at hSw); go_simp; (try with_reducible rfl))); (try simp only [Act.put, List.setIfInBounds_toArray, List.set_cons_zero, List.set_cons_succ]))
        (refine Rg.tk (i := 8) (d := 34) (v := ?_) rfl rfl (by kernel_rfl) (by kernel_rfl) (by kernel_rfl) (fun _ _ _ h => h) (by rfl) ?_ (by assumption) ?_; rotate_left; (focus (intro w0 hSw; (try dsimp only at hSw); go_simp; (try with_reducible rfl))); (try simp only [Act.put, List.setIfInBounds_toArray, List.set_cons_zero, List.set_cons_succ]))
        (refine Rg.tk (i := 9) (d := 35) (v := ?_) rfl rfl (by kernel_rfl) (by kernel_rfl) (by kernel_rfl) (fun _ _ _ h => h) (by rfl) ?_ (by assumption) ?_; rotate_left; (focus (intro w0 hSw; (try dsimp only at hSw); go_simp; (try with_reducible rfl))); (try simp only [Act.put, List.setIfInBounds_toArray, List.set_cons_zero, List.set_cons_succ]))
        (refine Rg.tk (i := 12) (d := 38) (v := ?_) rfl rfl (by kernel_rfl) (by kernel_rfl) (by kernel_rfl) (fun _ _ _ h => h) (by rfl) ?_ (by assumption) ?_; rotate_left; (focus (intro w0 hSw; (try dsimp only at hSw); go_simp; (try with_reducible rfl))); (try simp only [Act.put, List.setIfInBounds_toArray, List.set_cons_zero, List.set_cons_succ]))
        (refine Rg.tk (i := 13) (d := 39) (v := ?_) rfl rfl (by kernel_rfl) (by kernel_rfl) (by kernel_rfl) (fun _ _ _ h => h) (by rfl) ?_ (by assumption) ?_; rotate_left; (focus (intro w0 hSw; (try dsimp only at hSw); go_simp; (try with_reducible rfl))); (try simp only [Act.put, List.setIfInBounds_toArray, List.set_cons_zero, List.set_cons_succ]))
        (refine wpAnyH_ready (rs := [3]) (by kernel_rfl) (by simp) ?_; refine AllReadyH.cons (o := _) rfl (fun K hK => ?_) AllReadyH.nil; go_simp)
        refine (itoa (ad) (by omega) (by omega) _ (unhide HP _ (((unhide D3).trans ((unhide E0).drew.mono (unhide D3).size))))).mono ?_
        rintro e v1 ⟨rfl, d1⟩
        rw [unhide HDA]
        have Y1 := hide ((unhide Y0).drew.below d1)
        have E1 := hide ((unhide E0).drew.trans (d1.mono (by show w3.heap.size ≤ W1.heap.size; exact (unhide E0).size)))
        have W1 := hide ((unhide W0).drew.below d1)
        clear d1 hHeld
        refine hK.out _ _ (sBoxW (unhide Y1) (unhide W1)) (fun hHeld => ?_)
        clear hK K
        (try simp only [Act.put, List.setIfInBounds_toArray, List.set_cons_zero, List.set_cons_succ])
        (refine Rg.tk (i := 4) (d := 30) (v := ?_) rfl rfl (by kernel_rfl) (by kernel_rfl) (by kernel_rfl) (fun _ _ _ h => h) (by rfl) ?_ (by assumption) ?_; rotate_left; (focus (intro w0 hSw; (try dsimp only at hSw); go_simp; (try with_reducible rfl))); (try simp only [Act.put, List.setIfInBounds_toArray, List.set_cons_zero, List.set_cons_succ]))
        (refine Rg.tk (i := 5) (d := 31) (v := ?_) rfl rfl (by kernel_rfl) (by kernel_rfl) (by kernel_rfl) (fun _ _ _ h => h) (by rfl) ?_ (by assumption) ?_; rotate_left; (focus (intro w0 hSw; (try dsimp only at hSw); go_simp; (try with_reducible rfl))); (try simp only [Act.put, List.setIfInBounds_toArray, List.set_cons_zero, List.set_cons_succ]))
        (refine Rg.tk (i := 10) (d := 36) (v := ?_) rfl rfl (by kernel_rfl) (by kernel_rfl) (by kernel_rfl) (fun _ _ _ h => h) (by rfl) ?_ (by assumption) ?_; rotate_left; (focus (intro w0 hSw; (try dsimp only at hSw); go_simp; (try with_reducible rfl))); (try simp only [Act.put, List.setIfInBounds_toArray, List.set_cons_zero, List.set_cons_succ]))
        (refine Rg.tk (i := 11) (d := 37) (v := ?_) rfl rfl (by kernel_rfl) (by kernel_rfl) (by kernel_rfl) (fun _ _ _ h => h) (by rfl) ?_ (by assumption) ?_; rotate_left; (focus (intro w0 hSw; (try dsimp only at hSw); go_simp; (try with_reducible rfl))); (try simp only [Act.put, List.setIfInBounds_toArray, List.set_cons_zero, List.set_cons_succ]))
        (refine wpAnyH_ready (rs := [14]) (by kernel_rfl) (by simp) ?_; refine AllReadyH.cons (o := _) rfl (fun K hK => ?_) AllReadyH.nil; go_simp)
        refine (itoa (mt) (by omega) (by omega) _ (unhide HP _ (((unhide D3).trans ((unhide E1).mono (unhide D3).size))))).mono ?_
        rintro e v2 ⟨rfl, d2⟩
        rw [unhide HDM]
        have Y2 := hide ((unhide Y1).below d2)
        have E2 := hide ((unhide E1).trans (d2.mono (unhide E1).size))
        have W2 := hide ((unhide W1).below d2)
        clear d2 hHeld
        refine hK.out _ _ (sBoxW (unhide Y2) (unhide W2)) (fun hHeld => ?_)
        clear hK K
        (try simp only [Act.put, List.setIfInBounds_toArray, List.set_cons_zero, List.set_cons_succ])
        (refine Rg.tk (i := 15) (d := 41) (v := ?_) rfl rfl (by kernel_rfl) (by kernel_rfl) (by kernel_rfl) (fun _ _ _ h => h) (by rfl) ?_ (by assumption) ?_; rotate_left; (focus (intro w0 hSw; (try dsimp only at hSw); go_simp; (try with_reducible rfl))); (try simp only [Act.put, List.setIfInBounds_toArray, List.set_cons_zero, List.set_cons_succ]))
        (refine Rg.tk (i := 16) (d := 42) (v := ?_) rfl rfl (by kernel_rfl) (by kernel_rfl) (by kernel_rfl) (fun _ _ _ h => h) (by rfl) ?_ (by assumption) ?_; rotate_left; (focus (intro w0 hSw; (try dsimp only at hSw); go_simp; (try with_reducible rfl))); (try simp only [Act.put, List.setIfInBounds_toArray, List.set_cons_zero, List.set_cons_succ]))
        (refine Rg.tk (i := 17) (d := 4) (v := ?_) rfl rfl (by kernel_rfl) (by kernel_rfl) (by kernel_rfl) (fun _ _ _ h => h) (by rfl) ?_ (by assumption) ?_; rotate_left; (focus (intro w0 hSw; (try dsimp only at hSw); go_simp; (try with_reducible rfl))); (try simp only [Act.put, List.setIfInBounds_toArray, List.set_cons_zero, List.set_cons_succ]))
        refine wpAnyH_done (by kernel_rfl) (NoPanic.normal ?_) _
        clear hHeld
        have z3 := (unhide Y2).2.2.2
        dsimp only at z3
        rw [unhide HQ]
        cases mp
        all_goals
          go_wp2_with fail
          go_roundw
          case rel => exact ⟨j + 1, by omega, by go_num, congrArg Value.string (by rw [unhide HST]; rfl), E2⟩
          case measure => simp [intOf]; omega
      ·
        simp only [wd_2] at HQ
        have qq0 : ¬ (9223372036854775807 < 1 + da.size) := by omega
        have qq1 : ¬ (9223372036854775807 < 1 + da.size + 1) := by omega
        have qq2 : ¬ (9223372036854775807 < 1 + da.size + 1 + 3) := by omega
        have qq3 : ¬ (9223372036854775807 < 1 + da.size + 1 + 3 + 1) := by omega
        have qq4 : ¬ (9223372036854775807 < 1 + da.size + 1 + 3 + 1 + dm.size) := by omega
        have qq5 : ¬ (9223372036854775807 < T.size + (1 + da.size + 1 + 3 + 1 + dm.size)) := by omega
        have qq6 : ¬ (9223372036854775807 < T.size + nb.size + 4) := by omega
        go_wp2_with fail
        generalize hW : wr.alloc (.cells _ _) = W1 at *
        clear hW
        have W0 := hide (unhide HW _ ((unhide D3).trans ((unhide E0).mono (unhide D3).size)))
        refine wp_region_noPanic ?_
        refine wp_region_held_drew (S := fun w' => (Bx w' wr.heap.size ⟨ad, 2, mt, mp⟩ ∧ TabW w' 0) ∧ w'.cell? ⟨wr.heap.size, 0, none⟩ = some (.int .i64 ad) ∧ w'.cell? ⟨wr.heap.size, 1, none⟩ = some (.int .i64 2) ∧ w'.cell? ⟨wr.heap.size, 2, none⟩ = some (.int .i64 mt) ∧ w'.cell? ⟨wr.heap.size, 3, none⟩ = some (.bool mp) ∧ w'.cell? ⟨0, 0, none⟩ = some (.string wd0) ∧ w'.cell? ⟨0, 1, none⟩ = some (.string wd1) ∧ w'.cell? ⟨0, 2, none⟩ = some (.string wd2)) (by kernel_rfl) (sBoxW (unhide Y0).drew (unhide W0).drew) (fun hHeld => ?_)
        (refine Rg.tk (i := 0) (d := 26) (v := ?_) rfl rfl (by kernel_rfl) (by kernel_rfl) (by kernel_rfl) (fun _ _ _ h => h) (by rfl) ?_ (by assumption) ?_; rotate_left; (focus (intro w0 hSw; (try dsimp only at hSw); go_simp; (try with_reducible rfl))); (try simp only [Act.put, List.setIfInBounds_toArray, List.set_cons_zero, List.set_cons_succ]))
        (refine Rg.tk (i := 1) (d := 27) (v := ?_) rfl rfl (by kernel_rfl) (by kernel_rfl) (by kernel_rfl) (fun _ _ _ h => h) (by rfl) ?_ (by assumption) ?_; rotate_left; (focus (intro w0 hSw; (try dsimp only at hSw); go_simp; (try with_reducible rfl))); (try simp only [Act.put, List.setIfInBounds_toArray, List.set_cons_zero, List.set_cons_succ]))
        (refine Rg.tk (i := 2) (d := 28) (v := ?_) rfl rfl (by kernel_rfl) (by kernel_rfl) (by kernel_rfl) (fun _ _ _ h => h) (by rfl) ?_ (by assumption) ?_; rotate_left; (focus (intro w0 hSw; (try dsimp only at hSw); go_simp; (try with_reducible rfl))); (try simp only [Act.put, List.setIfInBounds_toArray, List.set_cons_zero, List.set_cons_succ]))
        (refine Rg.tk (i := 6) (d := 32) (v := ?_) rfl rfl (by kernel_rfl) (by kernel_rfl) (by kernel_rfl) (fun _ _ _ h => h) (by rfl) ?_ (by assumption) ?_; rotate_left; (focus (intro w0 hSw; (try dsimp only at hSw); go_simp; (try with_reducible rfl))); (try simp only [Act.put, List.setIfInBounds_toArray, List.set_cons_zero, List.set_cons_succ]))
        (refine Rg.tk (i := 7) (d := 33) (v := ?_) rfl rfl (by kernel_rfl) (by kernel_rfl) (by kernel_rfl) (fun _ _ _ h => h) (by rfl) ?_ (by assumption) ?_; rotate_left; (focus (intro w0 hSw; (try dsimp only at hSw); go_simp; (try with_reducible rfl))); (try simp only [Act.put, List.setIfInBounds_toArray, List.set_cons_zero, List.set_cons_succ]))
        (refine Rg.tk (i := 8) (d := 34) (v := ?_) rfl rfl (by kernel_rfl) (by kernel_rfl) (by kernel_rfl) (fun _ _ _ h => h) (by rfl) ?_ (by assumption) ?_; rotate_left; (focus (intro w0 hSw; (try dsimp only at hSw); go_simp; (try with_reducible rfl))); (try simp only [Act.put, List.setIfInBounds_toArray, List.set_cons_zero, List.set_cons_succ]))
        (refine Rg.tk (i := 9) (d := 35) (v := ?_) rfl rfl (by kernel_rfl) (by kernel_rfl) (by kernel_rfl) (fun _ _ _ h => h) (by rfl) ?_ (by assumption) ?_; rotate_left; (focus (intro w0 hSw; (try dsimp only at hSw); go_simp; (try with_reducible rfl))); (try simp only [Act.put, List.setIfInBounds_toArray, List.set_cons_zero, List.set_cons_succ]))
        (refine Rg.tk (i := 12) (d := 38) (v := ?_) rfl rfl (by kernel_rfl) (by kernel_rfl) (by kernel_rfl) (fun _ _ _ h => h) (by rfl) ?_ (by assumption) ?_; rotate_left; (focus (intro w0 hSw; (try dsimp only at hSw); go_simp; (try with_reducible rfl))); (try simp only [Act.put, List.setIfInBounds_toArray, List.set_cons_zero, List.set_cons_succ]))
        (refine Rg.tk (i := 13) (d := 39) (v := ?_) rfl rfl (by kernel_rfl) (by kernel_rfl) (by kernel_rfl) (fun _ _ _ h => h) (by rfl) ?_ (by assumption) ?_; rotate_left; (focus (intro w0 hSw; (try dsimp only at hSw); go_simp; (try with_reducible rfl))); (try simp only [Act.put, List.setIfInBounds_toArray, List.set_cons_zero, List.set_cons_succ]))
        (refine wpAnyH_ready (rs := [3]) (by kernel_rfl) (by simp) ?_; refine AllReadyH.cons (o := _) rfl (fun K hK => ?_) AllReadyH.nil; go_simp)
        refine (itoa (ad) (by omega) (by omega) _ (unhide HP _ (((unhide D3).trans ((unhide E0).drew.mono (unhide D3).size))))).mono ?_
        rintro e v1 ⟨rfl, d1⟩
        rw [unhide HDA]
        have Y1 := hide ((unhide Y0).drew.below d1)
        have E1 := hide ((unhide E0).drew.trans (d1.mono (by show w3.heap.size ≤ W1.heap.size; exact (unhide E0).size)))
        have W1 := hide ((unhide W0).drew.below d1)
        clear d1 hHeld
        refine hK.out _ _ (sBoxW (unhide Y1) (unhide W1)) (fun hHeld => ?_)
        clear hK K
        (try simp only [Act.put, List.setIfInBounds_toArray, List.set_cons_zero, List.set_cons_succ])
        (refine Rg.tk (i := 4) (d := 30) (v := ?_) rfl rfl (by kernel_rfl) (by kernel_rfl) (by kernel_rfl) (fun _ _ _ h => h) (by rfl) ?_ (by assumption) ?_; rotate_left; (focus (intro w0 hSw; (try dsimp only at hSw); go_simp; (try with_reducible rfl))); (try simp only [Act.put, List.setIfInBounds_toArray, List.set_cons_zero, List.set_cons_succ]))
        (refine Rg.tk (i := 5) (d := 31) (v := ?_) rfl rfl (by kernel_rfl) (by kernel_rfl) (by kernel_rfl) (fun _ _ _ h => h) (by rfl) ?_ (by assumption) ?_; rotate_left; (focus (intro w0 hSw; (try dsimp only at hSw); go_simp; (try with_reducible rfl))); (try simp only [Act.put, List.setIfInBounds_toArray, List.set_cons_zero, List.set_cons_succ]))
        (refine Rg.tk (i := 10) (d := 36) (v := ?_) rfl rfl (by kernel_rfl) (by kernel_rfl) (by kernel_rfl) (fun _ _ _ h => h) (by rfl) ?_ (by assumption) ?_; rotate_left; (focus (intro w0 hSw; (try dsimp only at hSw); go_simp; (try with_reducible rfl))); (try simp only [Act.put, List.setIfInBounds_toArray, List.set_cons_zero, List.set_cons_succ]))
        (refine Rg.tk (i := 11) (d := 37) (v := ?_) rfl rfl (by kernel_rfl) (by kernel_rfl) (by kernel_rfl) (fun _ _ _ h => h) (by rfl) ?_ (by assumption) ?_; rotate_left; (focus (intro w0 hSw; (try dsimp only at hSw); go_simp; (try with_reducible rfl))); (try simp only [Act.put, List.setIfInBounds_toArray, List.set_cons_zero, List.set_cons_succ]))
        (refine wpAnyH_ready (rs := [14]) (by kernel_rfl) (by simp) ?_; refine AllReadyH.cons (o := _) rfl (fun K hK => ?_) AllReadyH.nil; go_simp)
        refine (itoa (mt) (by omega) (by omega) _ (unhide HP _ (((unhide D3).trans ((unhide E1).mono (unhide D3).size))))).mono ?_
        rintro e v2 ⟨rfl, d2⟩
        rw [unhide HDM]
        have Y2 := hide ((unhide Y1).below d2)
        have E2 := hide ((unhide E1).trans (d2.mono (unhide E1).size))
        have W2 := hide ((unhide W1).below d2)
        clear d2 hHeld
        refine hK.out _ _ (sBoxW (unhide Y2) (unhide W2)) (fun hHeld => ?_)
        clear hK K
        (try simp only [Act.put, List.setIfInBounds_toArray, List.set_cons_zero, List.set_cons_succ])
        (refine Rg.tk (i := 15) (d := 41) (v := ?_) rfl rfl (by kernel_rfl) (by kernel_rfl) (by kernel_rfl) (fun _ _ _ h => h) (by rfl) ?_ (by assumption) ?_; rotate_left; (focus (intro w0 hSw; (try dsimp only at hSw); go_simp; (try with_reducible rfl))); (try simp only [Act.put, List.setIfInBounds_toArray, List.set_cons_zero, List.set_cons_succ]))
        (refine Rg.tk (i := 16) (d := 42) (v := ?_) rfl rfl (by kernel_rfl) (by kernel_rfl) (by kernel_rfl) (fun _ _ _ h => h) (by rfl) ?_ (by assumption) ?_; rotate_left; (focus (intro w0 hSw; (try dsimp only at hSw); go_simp; (try with_reducible rfl))); (try simp only [Act.put, List.setIfInBounds_toArray, List.set_cons_zero, List.set_cons_succ]))
        (refine Rg.tk (i := 17) (d := 4) (v := ?_) rfl rfl (by kernel_rfl) (by kernel_rfl) (by kernel_rfl) (fun _ _ _ h => h) (by rfl) ?_ (by assumption) ?_; rotate_left; (focus (intro w0 hSw; (try dsimp only at hSw); go_simp; (try with_reducible rfl))); (try simp only [Act.put, List.setIfInBounds_toArray, List.set_cons_zero, List.set_cons_succ]))
        refine wpAnyH_done (by kernel_rfl) (NoPanic.normal ?_) _
        clear hHeld
        have z3 := (unhide Y2).2.2.2
        dsimp only at z3
        rw [unhide HQ]
        cases mp
        all_goals
          go_wp2_with fail
          go_roundw
          case rel => exact ⟨j + 1, by omega, by go_num, congrArg Value.string (by rw [unhide HST]; rfl), E2⟩
          case measure => simp [intOf]; omega
    · obtain rfl : j = n := by omega
      have HF := hide ((unhide D3).trans ((unhide hbl).mono (unhide D3).size))
      have ej : txtN x y ms j = txtN x y ms ms.length := by rw [unhide HN]
      rw [ej]
      clear ej
      go_wp2_with fail
      go_ret2
      exact ⟨rfl, unhide HF⟩
end Hl
end Go.Proofs.YtpknahhdapmcoalDoor
