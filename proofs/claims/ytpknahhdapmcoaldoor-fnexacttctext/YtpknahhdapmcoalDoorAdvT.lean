/-
  Contracts of TcText, the program's and the model's: for every advertisement the text of a right one, or none and the code, where the library's table of powers of ten lies as its initialiser lays it.
-/
import Derived.Test.YtpknahhdapmcoalDoorAdvC
import Derived.Test.YtpknahhdapmcoalDoorDig
import Derived.Lib.AppendIntMem
namespace Go.Proofs.YtpknahhdapmcoalDoor
open Go.ChangeShapes Go.WideShapes Go.ChangeAt Go.RowKit
set_option linter.unusedVariables false
set_option linter.unusedSimpArgs false
attribute [local go_sem ↓] Go.wp_at_zero Go.wp_at_succ
attribute [local go_sem] ByteArray.size_append
namespace Av
open W1 Ed
abbrev s32 : ByteArray := ⟨#[32]⟩
abbrev s58 : ByteArray := ⟨#[58]⟩
abbrev sAnsn : ByteArray := ⟨#[97, 110, 115, 110, 32]⟩
abbrev sValid : ByteArray := ⟨#[32, 118, 97, 108, 105, 100, 32]⟩
def dg (n : Int) : ByteArray := Di.dig n.toNat
def edT (m : R) : ByteArray := s32 ++ dg m.ad ++ s58 ++ dg m.mt
def headT (x y : Int) : ByteArray := sAnsn ++ dg x ++ sValid ++ dg y
/-- The text behind j edges. -/
def txtN (x y : Int) (ms : List R) : Nat → ByteArray
  | 0 => headT x y
  | j + 1 => txtN x y ms j ++ edT (ms.getD j R.zero)
def txtS (x y : Int) (ms : List R) : ByteArray := if tcB x y ms = true then txtN x y ms ms.length else ⟨#[]⟩
def txtE (x y : Int) (ms : List R) : Int := if tcB x y ms = true then 0 else 1
theorem dg_size {n : Int} (h : n ≤ 99999999) : (dg n).size ≤ 8 := Di.dig_size8 _ (by omega)
theorem edT_size {m : R} (h : okN m = true) : (edT m).size ≤ 18 := by
  have h1 := ok_ad h
  have h2 := ok_mt h
  have a := dg_size (n := m.ad) (by omega)
  have b := dg_size (n := m.mt) (by omega)
  have e1 : s32.size = 1 := rfl
  have e2 : s58.size = 1 := rfl
  unfold edT; simp only [ByteArray.size_append]; omega
theorem txtN_size {x y : Int} {ms : List R} (h : tcB x y ms = true) : ∀ j, j ≤ ms.length → (txtN x y ms j).size ≤ 28 + 18 * j
  | 0, _ => by
    have h1 := tc_ansn h
    have h2 := tc_valid h
    have a := dg_size (n := x) (by omega)
    have b := dg_size (n := y) (by omega)
    have e1 : sAnsn.size = 5 := rfl
    have e2 : sValid.size = 7 := rfl
    unfold txtN headT; simp only [ByteArray.size_append]; omega
  | j + 1, hj => by
    have ih := txtN_size h j (by omega)
    have := edT_size (Ri.all_ok (tc_all h) (j := j) (by omega))
    unfold txtN; simp only [ByteArray.size_append]; omega
/-- The table lies where the library's variable is. -/
abbrev TabP (w : World) : Prop := Lib.TabIs Tryd.prog w "internal/strconv.uint64pow10" .u64 Lib.pow10Tab
theorem itoa (n : Int) (h0 : 0 ≤ n) (h1 : n ≤ 99999999) (w : World) (ht : TabP w) :
    Calls Tryd.prog 20 #[.int .i64 n] w fun e w' => e = .returned (.string (dg n)) ∧ Below w.heap.size w w' := by
  refine (Tryd.strconv_Itoa n (by omega) (by omega) w ht).mono ?_
  rintro e w' ⟨rfl, k, os, rfl⟩
  refine ⟨?_, Lib.below_grow _ _ (Nat.le_refl _) _ _⟩
  obtain ⟨u, rfl⟩ := Int.eq_ofNat_of_zero_le h0
  rw [Lib.itoa_nonneg]; rfl
theorem digs (n : Int) (h0 : 0 ≤ n) (h1 : n ≤ 99999999) (w : World) :
    Calls Tryd.prog 17 #[.int .i64 n] w fun e w' => e = .returned (.string (dg n)) ∧ Below w.heap.size w w' := by
  obtain ⟨u, rfl⟩ := Int.eq_ofNat_of_zero_le h0
  exact Di.digits8 u (by omega) w
theorem sBx3t {w : World} {b : Nat} {x y : Int} {v : Value} (h : Bx3 w b x y v) : Bx3 w b x y v ∧ w.cell? ⟨b, 0, none⟩ = some (.int .i64 x) ∧ w.cell? ⟨b, 1, none⟩ = some (.int .i64 y) ∧ w.cell? ⟨b, 2, none⟩ = some v := ⟨h, h⟩
theorem sXAt {w : World} {b g o : Nat} {x y ad mt : Int} {v : Value} (h : Bx3 w b x y v) (hA : At w g o ⟨ad, mt⟩) : (Bx3 w b x y v ∧ At w g o ⟨ad, mt⟩) ∧ w.cell? ⟨b, 2, none⟩ = some v ∧ w.cell? ⟨g, o, none⟩ = some (.int .i64 ad) ∧ w.cell? ⟨g, o + 1, none⟩ = some (.int .i64 mt) := ⟨⟨h, hA⟩, h.2.2, hA.1, hA.2⟩
set_option maxRecDepth 100000 in
set_option maxHeartbeats 1000000 in
theorem specText (x y : Int) (a : Option Addr) (ms : List R) (cap : Nat) (w : World) (hm : ms.length ≤ 1048576) (hr : RM w a ms) :
    Calls Tryd.prog 11 #[.agg #[.int .i64 x, .int .i64 y, .slice a ms.length cap]] w fun e w' => e = .returned (.tuple #[.string (txtS x y ms), .int .i64 (txtE x y ms)]) ∧ Below w.heap.size w w' := by
  have HA : Hid (Below w.heap.size w (w.alloc (.cells #[.int .i64 x, .int .i64 y, .slice a ms.length cap] 41))) := hide ((Below.refl _ _).alloc (Nat.le_refl _) _)
  have HX : Hid (Bx3 (w.alloc (.cells #[.int .i64 x, .int .i64 y, .slice a ms.length cap] 41)) w.heap.size x y (.slice a ms.length cap)) := hide (bx3_new w x y _ _)
  have HR := hide ((hr).below (unhide HA))
  have HR0 := hide hr
  clear hr
  cases hh : tcB x y ms
  · have h1 : txtS x y ms = ⟨#[]⟩ := by unfold txtS; rw [if_neg (by simp [hh])]
    have h2 : txtE x y ms = 1 := by unfold txtE; rw [if_neg (by simp [hh])]
    rw [h1, h2]
    have HH := hide hh
    clear h1 h2 hh
    go_enter Tryd.func11, Tryd.ntmps11
    go_wp2_with fail
    refine (specOK x y a ms cap _ hm (unhide HR)).mono ?_
    rintro e w1 ⟨rfl, b1⟩
    rw [unhide HH]
    have hb1 := hide ((unhide HA).trans (b1.mono (unhide HA).size))
    clear b1
    go_wp2_with fail
    go_ret2
    exact ⟨rfl, unhide hb1⟩
  have h1 : txtS x y ms = txtN x y ms ms.length := by unfold txtS; rw [if_pos hh]
  have h2 : txtE x y ms = 0 := by unfold txtE; rw [if_pos hh]
  rw [h1, h2]
  have h8 := tc_len hh
  obtain ⟨x0, x1⟩ := tc_ansn hh
  obtain ⟨y0, y1⟩ := tc_valid hh
  have HOK : Hid (∀ j, j < ms.length → okN (ms.getD j R.zero) = true) := hide (fun j hj => Ri.all_ok (tc_all hh) hj)
  have HSZ := hide (txtN_size hh)
  have HH := hide hh
  clear h1 h2 hh
  go_enter Tryd.func11, Tryd.ntmps11
  go_wp2_with fail
  refine (specOK x y a ms cap _ hm (unhide HR)).mono ?_
  rintro e w1 ⟨rfl, b1⟩
  rw [unhide HH]
  have X1 := hide ((unhide HX).below b1)
  have HR1 := hide ((unhide HR).below b1)
  have D1 := hide ((unhide HA).trans (b1.mono (unhide HA).size))
  clear b1 HX HR HA
  have sx := dg_size (n := x) (by omega)
  have sy := dg_size (n := y) (by omega)
  go_wp2_with fail
  refine wp_region_noPanic ?_
  refine wp_region_held_drew (S := fun w' => Bx3 w' w.heap.size x y (.slice a ms.length cap) ∧ w'.cell? ⟨w.heap.size, 0, none⟩ = some (.int .i64 x) ∧ w'.cell? ⟨w.heap.size, 1, none⟩ = some (.int .i64 y) ∧ w'.cell? ⟨w.heap.size, 2, none⟩ = some (.slice a ms.length cap)) (by kernel_rfl) (sBx3t (unhide X1).drew) (fun hHeld => ?_)
  (refine Rg.tk (i := 0) (d := 9) (v := ?_) rfl rfl (by kernel_rfl) (by kernel_rfl) (by kernel_rfl) (fun _ _ _ h => h) (by rfl) ?_ (by assumption) ?_; rotate_left; (focus (intro w0 hSw; (try dsimp only at hSw); go_simp; (try with_reducible rfl))); (try simp only [Act.put, List.setIfInBounds_toArray, List.set_cons_zero, List.set_cons_succ]))
  (refine Rg.tk (i := 1) (d := 10) (v := ?_) rfl rfl (by kernel_rfl) (by kernel_rfl) (by kernel_rfl) (fun _ _ _ h => h) (by rfl) ?_ (by assumption) ?_; rotate_left; (focus (intro w0 hSw; (try dsimp only at hSw); go_simp; (try with_reducible rfl))); (try simp only [Act.put, List.setIfInBounds_toArray, List.set_cons_zero, List.set_cons_succ]))
  (refine Rg.tk (i := 5) (d := 14) (v := ?_) rfl rfl (by kernel_rfl) (by kernel_rfl) (by kernel_rfl) (fun _ _ _ h => h) (by rfl) ?_ (by assumption) ?_; rotate_left; (focus (intro w0 hSw; (try dsimp only at hSw); go_simp; (try with_reducible rfl))); (try simp only [Act.put, List.setIfInBounds_toArray, List.set_cons_zero, List.set_cons_succ]))
  (refine Rg.tk (i := 6) (d := 15) (v := ?_) rfl rfl (by kernel_rfl) (by kernel_rfl) (by kernel_rfl) (fun _ _ _ h => h) (by rfl) ?_ (by assumption) ?_; rotate_left; (focus (intro w0 hSw; (try dsimp only at hSw); go_simp; (try with_reducible rfl))); (try simp only [Act.put, List.setIfInBounds_toArray, List.set_cons_zero, List.set_cons_succ]))
  (refine wpAnyH_ready (rs := [2]) (by kernel_rfl) (by simp) ?_; refine AllReadyH.cons (o := _) rfl (fun K hK => ?_) AllReadyH.nil; go_simp)
  refine (digs (x) (by omega) (by omega) _).mono ?_
  rintro e w2 ⟨rfl, b2⟩
  have X2 := hide ((unhide X1).drew.below b2)
  have D2 := hide ((unhide D1).drew.trans (b2.mono (by show w.heap.size ≤ w1.heap.size; exact (unhide D1).size)))
  clear b2 hHeld
  refine hK.out _ _ (sBx3t (unhide X2)) (fun hHeld => ?_)
  clear hK K
  (try simp only [Act.put, List.setIfInBounds_toArray, List.set_cons_zero, List.set_cons_succ])
  have HHD : Hid (sAnsn ++ dg x ++ sValid ++ dg y = txtN x y ms 0) := hide rfl
  generalize hdx : dg x = dx at *
  generalize hdy : dg y = dy at *
  have HDY := hide hdy
  clear hdx hdy
  have q1 : ¬ (9223372036854775807 < 5 + dx.size) := by omega
  have q2 : ¬ (9223372036854775807 < 5 + dx.size + 7) := by omega
  have q3 : ¬ (9223372036854775807 < 5 + dx.size + 7 + dy.size) := by omega
  (refine Rg.tk (i := 3) (d := 12) (v := ?_) rfl rfl (by kernel_rfl) (by kernel_rfl) (by kernel_rfl) (fun _ _ _ h => h) (by rfl) ?_ (by assumption) ?_; rotate_left; (focus (intro w0 hSw; (try dsimp only at hSw); go_simp; (try with_reducible rfl))); (try simp only [Act.put, List.setIfInBounds_toArray, List.set_cons_zero, List.set_cons_succ]))
  (refine Rg.tk (i := 4) (d := 13) (v := ?_) rfl rfl (by kernel_rfl) (by kernel_rfl) (by kernel_rfl) (fun _ _ _ h => h) (by rfl) ?_ (by assumption) ?_; rotate_left; (focus (intro w0 hSw; (try dsimp only at hSw); go_simp; (try with_reducible rfl))); (try simp only [Act.put, List.setIfInBounds_toArray, List.set_cons_zero, List.set_cons_succ]))
  (refine wpAnyH_ready (rs := [7]) (by kernel_rfl) (by simp) ?_; refine AllReadyH.cons (o := _) rfl (fun K hK => ?_) AllReadyH.nil; go_simp)
  refine (digs (y) (by omega) (by omega) _).mono ?_
  rintro e w3 ⟨rfl, b3⟩
  rw [unhide HDY]
  have X3 := hide ((unhide X2).below b3)
  have D3 := hide ((unhide D2).trans (b3.mono (unhide D2).size))
  clear b3 hHeld
  refine hK.out _ _ (sBx3t (unhide X3)) (fun hHeld => ?_)
  clear hK K
  (try simp only [Act.put, List.setIfInBounds_toArray, List.set_cons_zero, List.set_cons_succ])
  (refine Rg.tk (i := 8) (d := 17) (v := ?_) rfl rfl (by kernel_rfl) (by kernel_rfl) (by kernel_rfl) (fun _ _ _ h => h) (by rfl) ?_ (by assumption) ?_; rotate_left; (focus (intro w0 hSw; (try dsimp only at hSw); go_simp; (try with_reducible rfl))); (try simp only [Act.put, List.setIfInBounds_toArray, List.set_cons_zero, List.set_cons_succ]))
  (refine Rg.tk (i := 9) (d := 4) (v := ?_) rfl rfl (by kernel_rfl) (by kernel_rfl) (by kernel_rfl) (fun _ _ _ h => h) (by rfl) ?_ (by assumption) ?_; rotate_left; (focus (intro w0 hSw; (try dsimp only at hSw); go_simp; (try with_reducible rfl))); (try simp only [Act.put, List.setIfInBounds_toArray, List.set_cons_zero, List.set_cons_succ]))
  refine wpAnyH_done (by kernel_rfl) (NoPanic.normal ?_) _
  clear hHeld q1 q2 q3 X1 X2 D2
  have R3 := hide ((unhide HR0).below (unhide D3))
  generalize hN : ms.length = n at *
  have HN := hide hN
  clear hN
  go_wp2_with fail
  rw [unhide HHD]
  go_loopw [4, 5] (fun v i wr => ∃ j : Nat, j ≤ n ∧ i = .int .i64 j ∧ v = .string (txtN x y ms j) ∧ Hid (Below w3.heap.size w3 wr)) (fun _ i _ => n - (intOf i).toNat)
  case atStart => exact ⟨0, by omega, rfl, rfl, hide (Below.refl _ _)⟩
  case round =>
    obtain ⟨j, hj, rfl, rfl, hbl⟩ := hrel
    have hbx := ((unhide X3).below (unhide hbl)).2.2
    by_cases hlt : (j : Int) < (n : Int)
    · have k0 : (0 : Int) ≤ (j : Int) := by omega
      have hlen : j < ms.length := by rw [unhide HN]; omega
      rcases (unhide R3).below (by exact (unhide hbl)) with e0 | ⟨g, off, rfl, hc⟩
      · exfalso; rw [e0] at hlen; simp at hlen
      have hA := hc j hlen
      clear hc
      have hok := unhide HOK j (by omega)
      obtain ⟨a0, a1⟩ := ok_ad hok
      obtain ⟨m0, m1⟩ := ok_mt hok
      have hT0 := unhide HSZ j (by omega)
      have hT : (txtN x y ms j).size ≤ 252 := by omega
      have sa := dg_size (n := (ms.getD j R.zero).ad) (by omega)
      have sm := dg_size (n := (ms.getD j R.zero).mt) (by omega)
      have HQ : Hid (txtN x y ms j ++ (s32 ++ dg (ms.getD j R.zero).ad ++ s58 ++ dg (ms.getD j R.zero).mt) = txtN x y ms (j + 1)) := hide rfl
      have Y0 := hide hA
      have Z0 := hide ((unhide X3).below (unhide hbl))
      have E0 := hbl
      clear hok hT0
      generalize ms.getD j R.zero = m at *
      obtain ⟨ad, mt⟩ := m
      clear hA
      dsimp only at a0 a1 m0 m1 sa sm HQ
      generalize hda : dg ad = da at *
      have HDA := hide hda
      clear hda
      generalize hdm : dg mt = dm at *
      have HDM := hide hdm
      clear hdm
      generalize hTT : txtN x y ms j = T at *
      clear hTT
      have qq0 : ¬ (9223372036854775807 < 1 + da.size) := by omega
      have qq1 : ¬ (9223372036854775807 < 1 + da.size + 1) := by omega
      have qq2 : ¬ (9223372036854775807 < 1 + da.size + 1 + dm.size) := by omega
      have qq3 : ¬ (9223372036854775807 < T.size + (1 + da.size + 1 + dm.size)) := by omega
      go_wp2_with fail
      refine wp_region_noPanic ?_
      refine wp_region_held_drew (S := fun w' => (Bx3 w' w.heap.size x y (.slice (some ⟨g, off, none⟩) n cap) ∧ At w' g (off + j * 2) ⟨ad, mt⟩) ∧ w'.cell? ⟨w.heap.size, 2, none⟩ = some (.slice (some ⟨g, off, none⟩) n cap) ∧ w'.cell? ⟨g, off + j * 2, none⟩ = some (.int .i64 ad) ∧ w'.cell? ⟨g, off + j * 2 + 1, none⟩ = some (.int .i64 mt)) (by kernel_rfl) (sXAt (unhide Z0).drew (unhide Y0).drew) (fun hHeld => ?_)
      (refine Rg.tk (i := 0) (d := 25) (v := ?_) rfl rfl (by kernel_rfl) (by kernel_rfl) (by kernel_rfl) (fun _ _ _ h => h) (by rfl) ?_ (by assumption) ?_; rotate_left; (focus (intro w0 hSw; (try dsimp only at hSw); go_simp; (try with_reducible rfl))); (try simp only [Act.put, List.setIfInBounds_toArray, List.set_cons_zero, List.set_cons_succ]))
      (refine Rg.tk (i := 1) (d := 26) (v := ?_) rfl rfl (by kernel_rfl) (by kernel_rfl) (by kernel_rfl) (fun _ _ _ h => h) (by rfl) ?_ (by assumption) ?_; rotate_left; (focus (intro w0 hSw; (try dsimp only at hSw); go_simp; (try with_reducible rfl))); (try simp only [Act.put, List.setIfInBounds_toArray, List.set_cons_zero, List.set_cons_succ]))
      (refine Rg.tk (i := 2) (d := 27) (v := ?_) rfl rfl (by kernel_rfl) (by kernel_rfl) (by kernel_rfl) (fun _ _ _ h => h) (by rfl) ?_ (by assumption) ?_; rotate_left; (focus (intro w0 hSw; (try dsimp only at hSw); go_simp; (try with_reducible rfl))); (try simp only [Act.put, List.setIfInBounds_toArray, List.set_cons_zero, List.set_cons_succ]))
      (refine Rg.tk (i := 3) (d := 28) (v := ?_) rfl rfl (by kernel_rfl) (by kernel_rfl) (by kernel_rfl) (fun _ _ _ h => h) (by rfl) ?_ (by assumption) ?_; rotate_left; (focus (intro w0 hSw; (try dsimp only at hSw); go_simp; (try with_reducible rfl))); (try simp only [Act.put, List.setIfInBounds_toArray, List.set_cons_zero, List.set_cons_succ]))
      (refine Rg.tk (i := 4) (d := 29) (v := ?_) rfl rfl (by kernel_rfl) (by kernel_rfl) (by kernel_rfl) (fun _ _ _ h => h) (by rfl) ?_ (by assumption) ?_; rotate_left; (focus (intro w0 hSw; (try dsimp only at hSw); go_simp; (try with_reducible rfl))); (try simp only [Act.put, List.setIfInBounds_toArray, List.set_cons_zero, List.set_cons_succ]))
      (refine Rg.tk (i := 5) (d := 30) (v := ?_) rfl rfl (by kernel_rfl) (by kernel_rfl) (by kernel_rfl) (fun _ _ _ h => h) (by rfl) ?_ (by assumption) ?_; rotate_left; (focus (intro w0 hSw; (try dsimp only at hSw); go_simp; (try with_reducible rfl))); (try simp only [Act.put, List.setIfInBounds_toArray, List.set_cons_zero, List.set_cons_succ]))
      (refine Rg.tk (i := 6) (d := 31) (v := ?_) rfl rfl (by kernel_rfl) (by kernel_rfl) (by kernel_rfl) (fun _ _ _ h => h) (by rfl) ?_ (by assumption) ?_; rotate_left; (focus (intro w0 hSw; (try dsimp only at hSw); go_simp; (try with_reducible rfl))); (try simp only [Act.put, List.setIfInBounds_toArray, List.set_cons_zero, List.set_cons_succ]))
      (refine Rg.tk (i := 10) (d := 35) (v := ?_) rfl rfl (by kernel_rfl) (by kernel_rfl) (by kernel_rfl) (fun _ _ _ h => h) (by rfl) ?_ (by assumption) ?_; rotate_left; (focus (intro w0 hSw; (try dsimp only at hSw); go_simp; (try with_reducible rfl))); (try simp only [Act.put, List.setIfInBounds_toArray, List.set_cons_zero, List.set_cons_succ]))
      (refine Rg.tk (i := 11) (d := 36) (v := ?_) rfl rfl (by kernel_rfl) (by kernel_rfl) (by kernel_rfl) (fun _ _ _ h => h) (by rfl) ?_ (by assumption) ?_; rotate_left; (focus (intro w0 hSw; (try dsimp only at hSw); go_simp; (try with_reducible rfl))); (try simp only [Act.put, List.setIfInBounds_toArray, List.set_cons_zero, List.set_cons_succ]))
      (refine Rg.tk (i := 12) (d := 37) (v := ?_) rfl rfl (by kernel_rfl) (by kernel_rfl) (by kernel_rfl) (fun _ _ _ h => h) (by rfl) ?_ (by assumption) ?_; rotate_left; (focus (intro w0 hSw; (try dsimp only at hSw); go_simp; (try with_reducible rfl))); (try simp only [Act.put, List.setIfInBounds_toArray, List.set_cons_zero, List.set_cons_succ]))
      (refine Rg.tk (i := 13) (d := 38) (v := ?_) rfl rfl (by kernel_rfl) (by kernel_rfl) (by kernel_rfl) (fun _ _ _ h => h) (by rfl) ?_ (by assumption) ?_; rotate_left; (focus (intro w0 hSw; (try dsimp only at hSw); go_simp; (try with_reducible rfl))); (try simp only [Act.put, List.setIfInBounds_toArray, List.set_cons_zero, List.set_cons_succ]))
      (refine Rg.tk (i := 14) (d := 39) (v := ?_) rfl rfl (by kernel_rfl) (by kernel_rfl) (by kernel_rfl) (fun _ _ _ h => h) (by rfl) ?_ (by assumption) ?_; rotate_left; (focus (intro w0 hSw; (try dsimp only at hSw); go_simp; (try with_reducible rfl))); (try simp only [Act.put, List.setIfInBounds_toArray, List.set_cons_zero, List.set_cons_succ]))
      (refine Rg.tk (i := 15) (d := 40) (v := ?_) rfl rfl (by kernel_rfl) (by kernel_rfl) (by kernel_rfl) (fun _ _ _ h => h) (by rfl) ?_ (by assumption) ?_; rotate_left; (focus (intro w0 hSw; (try dsimp only at hSw); go_simp; (try with_reducible rfl))); (try simp only [Act.put, List.setIfInBounds_toArray, List.set_cons_zero, List.set_cons_succ]))
      (refine wpAnyH_ready (rs := [7]) (by kernel_rfl) (by simp) ?_; refine AllReadyH.cons (o := _) rfl (fun K hK => ?_) AllReadyH.nil; go_simp)
      refine (digs (ad) (by omega) (by omega) _).mono ?_
      rintro e v1 ⟨rfl, d1⟩
      rw [unhide HDA]
      have Y1 := hide ((unhide Y0).drew.below d1)
      have Z1 := hide ((unhide Z0).drew.below d1)
      have E1 := hide ((unhide E0).drew.trans (d1.mono (by show w3.heap.size ≤ wr.heap.size; exact (unhide E0).size)))
      clear d1 hHeld
      refine hK.out _ _ (sXAt (unhide Z1) (unhide Y1)) (fun hHeld => ?_)
      clear hK K
      (try simp only [Act.put, List.setIfInBounds_toArray, List.set_cons_zero, List.set_cons_succ])
      (refine Rg.tk (i := 8) (d := 33) (v := ?_) rfl rfl (by kernel_rfl) (by kernel_rfl) (by kernel_rfl) (fun _ _ _ h => h) (by rfl) ?_ (by assumption) ?_; rotate_left; (focus (intro w0 hSw; (try dsimp only at hSw); go_simp; (try with_reducible rfl))); (try simp only [Act.put, List.setIfInBounds_toArray, List.set_cons_zero, List.set_cons_succ]))
      (refine Rg.tk (i := 9) (d := 34) (v := ?_) rfl rfl (by kernel_rfl) (by kernel_rfl) (by kernel_rfl) (fun _ _ _ h => h) (by rfl) ?_ (by assumption) ?_; rotate_left; (focus (intro w0 hSw; (try dsimp only at hSw); go_simp; (try with_reducible rfl))); (try simp only [Act.put, List.setIfInBounds_toArray, List.set_cons_zero, List.set_cons_succ]))
      (refine wpAnyH_ready (rs := [16]) (by kernel_rfl) (by simp) ?_; refine AllReadyH.cons (o := _) rfl (fun K hK => ?_) AllReadyH.nil; go_simp)
      refine (digs (mt) (by omega) (by omega) _).mono ?_
      rintro e v2 ⟨rfl, d2⟩
      rw [unhide HDM]
      have Y2 := hide ((unhide Y1).below d2)
      have Z2 := hide ((unhide Z1).below d2)
      have E2 := hide ((unhide E1).trans (d2.mono (unhide E1).size))
      clear d2 hHeld
      refine hK.out _ _ (sXAt (unhide Z2) (unhide Y2)) (fun hHeld => ?_)
      clear hK K
      (try simp only [Act.put, List.setIfInBounds_toArray, List.set_cons_zero, List.set_cons_succ])
      (refine Rg.tk (i := 17) (d := 42) (v := ?_) rfl rfl (by kernel_rfl) (by kernel_rfl) (by kernel_rfl) (fun _ _ _ h => h) (by rfl) ?_ (by assumption) ?_; rotate_left; (focus (intro w0 hSw; (try dsimp only at hSw); go_simp; (try with_reducible rfl))); (try simp only [Act.put, List.setIfInBounds_toArray, List.set_cons_zero, List.set_cons_succ]))
      (refine Rg.tk (i := 18) (d := 43) (v := ?_) rfl rfl (by kernel_rfl) (by kernel_rfl) (by kernel_rfl) (fun _ _ _ h => h) (by rfl) ?_ (by assumption) ?_; rotate_left; (focus (intro w0 hSw; (try dsimp only at hSw); go_simp; (try with_reducible rfl))); (try simp only [Act.put, List.setIfInBounds_toArray, List.set_cons_zero, List.set_cons_succ]))
      (refine Rg.tk (i := 19) (d := 4) (v := ?_) rfl rfl (by kernel_rfl) (by kernel_rfl) (by kernel_rfl) (fun _ _ _ h => h) (by rfl) ?_ (by assumption) ?_; rotate_left; (focus (intro w0 hSw; (try dsimp only at hSw); go_simp; (try with_reducible rfl))); (try simp only [Act.put, List.setIfInBounds_toArray, List.set_cons_zero, List.set_cons_succ]))
      refine wpAnyH_done (by kernel_rfl) (NoPanic.normal ?_) _
      clear hHeld
      rw [unhide HQ]
      go_wp2_with fail
      go_roundw
      case rel => exact ⟨j + 1, by omega, by go_num, rfl, E2⟩
      case measure => simp [intOf]; omega
    · obtain rfl : j = n := by omega
      have HF := hide ((unhide D3).trans ((unhide hbl).mono (unhide D3).size))
      have ej : txtN x y ms j = txtN x y ms ms.length := by rw [unhide HN]
      rw [ej]
      clear ej
      go_wp2_with fail
      go_ret2
      exact ⟨rfl, unhide HF⟩
set_option maxRecDepth 100000 in
set_option maxHeartbeats 1000000 in
theorem implText (x y : Int) (a : Option Addr) (ms : List R) (cap : Nat) (w : World) (hm : ms.length ≤ 1048576) (hr : RM w a ms) (hp : TabP w) :
    Calls Tryd.prog 13 #[.agg #[.int .i64 x, .int .i64 y, .slice a ms.length cap]] w fun e w' => e = .returned (.tuple #[.string (txtS x y ms), .int .i64 (txtE x y ms)]) ∧ Below w.heap.size w w' := by
  have HP := hide (Lib.tabBelow_of_tabIs hp)
  clear hp
  have HA : Hid (Below w.heap.size w (w.alloc (.cells #[.int .i64 x, .int .i64 y, .slice a ms.length cap] 41))) := hide ((Below.refl _ _).alloc (Nat.le_refl _) _)
  have HX : Hid (Bx3 (w.alloc (.cells #[.int .i64 x, .int .i64 y, .slice a ms.length cap] 41)) w.heap.size x y (.slice a ms.length cap)) := hide (bx3_new w x y _ _)
  have HR := hide ((hr).below (unhide HA))
  have HR0 := hide hr
  clear hr
  cases hh : tcB x y ms
  · have h1 : txtS x y ms = ⟨#[]⟩ := by unfold txtS; rw [if_neg (by simp [hh])]
    have h2 : txtE x y ms = 1 := by unfold txtE; rw [if_neg (by simp [hh])]
    rw [h1, h2]
    have HH := hide hh
    clear h1 h2 hh
    go_enter Tryd.func13, Tryd.ntmps13
    go_wp2_with fail
    refine (implOK x y a ms cap _ hm (unhide HR)).mono ?_
    rintro e w1 ⟨rfl, b1⟩
    rw [unhide HH]
    have hb1 := hide ((unhide HA).trans (b1.mono (unhide HA).size))
    clear b1
    go_wp2_with fail
    go_ret2
    exact ⟨rfl, unhide hb1⟩
  have h1 : txtS x y ms = txtN x y ms ms.length := by unfold txtS; rw [if_pos hh]
  have h2 : txtE x y ms = 0 := by unfold txtE; rw [if_pos hh]
  rw [h1, h2]
  have h8 := tc_len hh
  obtain ⟨x0, x1⟩ := tc_ansn hh
  obtain ⟨y0, y1⟩ := tc_valid hh
  have HOK : Hid (∀ j, j < ms.length → okN (ms.getD j R.zero) = true) := hide (fun j hj => Ri.all_ok (tc_all hh) hj)
  have HSZ := hide (txtN_size hh)
  have HH := hide hh
  clear h1 h2 hh
  go_enter Tryd.func13, Tryd.ntmps13
  go_wp2_with fail
  refine (implOK x y a ms cap _ hm (unhide HR)).mono ?_
  rintro e w1 ⟨rfl, b1⟩
  rw [unhide HH]
  have X1 := hide ((unhide HX).below b1)
  have HR1 := hide ((unhide HR).below b1)
  have D1 := hide ((unhide HA).trans (b1.mono (unhide HA).size))
  clear b1 HX HR HA
  have sx := dg_size (n := x) (by omega)
  have sy := dg_size (n := y) (by omega)
  go_wp2_with fail
  refine wp_region_noPanic ?_
  refine wp_region_held_drew (S := fun w' => Bx3 w' w.heap.size x y (.slice a ms.length cap) ∧ w'.cell? ⟨w.heap.size, 0, none⟩ = some (.int .i64 x) ∧ w'.cell? ⟨w.heap.size, 1, none⟩ = some (.int .i64 y) ∧ w'.cell? ⟨w.heap.size, 2, none⟩ = some (.slice a ms.length cap)) (by kernel_rfl) (sBx3t (unhide X1).drew) (fun hHeld => ?_)
  (refine Rg.tk (i := 0) (d := 10) (v := ?_) rfl rfl (by kernel_rfl) (by kernel_rfl) (by kernel_rfl) (fun _ _ _ h => h) (by rfl) ?_ (by assumption) ?_; rotate_left; (focus (intro w0 hSw; (try dsimp only at hSw); go_simp; (try with_reducible rfl))); (try simp only [Act.put, List.setIfInBounds_toArray, List.set_cons_zero, List.set_cons_succ]))
  (refine Rg.tk (i := 1) (d := 11) (v := ?_) rfl rfl (by kernel_rfl) (by kernel_rfl) (by kernel_rfl) (fun _ _ _ h => h) (by rfl) ?_ (by assumption) ?_; rotate_left; (focus (intro w0 hSw; (try dsimp only at hSw); go_simp; (try with_reducible rfl))); (try simp only [Act.put, List.setIfInBounds_toArray, List.set_cons_zero, List.set_cons_succ]))
  (refine Rg.tk (i := 5) (d := 15) (v := ?_) rfl rfl (by kernel_rfl) (by kernel_rfl) (by kernel_rfl) (fun _ _ _ h => h) (by rfl) ?_ (by assumption) ?_; rotate_left; (focus (intro w0 hSw; (try dsimp only at hSw); go_simp; (try with_reducible rfl))); (try simp only [Act.put, List.setIfInBounds_toArray, List.set_cons_zero, List.set_cons_succ]))
  (refine Rg.tk (i := 6) (d := 16) (v := ?_) rfl rfl (by kernel_rfl) (by kernel_rfl) (by kernel_rfl) (fun _ _ _ h => h) (by rfl) ?_ (by assumption) ?_; rotate_left; (focus (intro w0 hSw; (try dsimp only at hSw); go_simp; (try with_reducible rfl))); (try simp only [Act.put, List.setIfInBounds_toArray, List.set_cons_zero, List.set_cons_succ]))
  (refine wpAnyH_ready (rs := [2]) (by kernel_rfl) (by simp) ?_; refine AllReadyH.cons (o := _) rfl (fun K hK => ?_) AllReadyH.nil; go_simp)
  refine (itoa (x) (by omega) (by omega) _ (unhide HP _ ((unhide D1).drew))).mono ?_
  rintro e w2 ⟨rfl, b2⟩
  have X2 := hide ((unhide X1).drew.below b2)
  have D2 := hide ((unhide D1).drew.trans (b2.mono (by show w.heap.size ≤ w1.heap.size; exact (unhide D1).size)))
  clear b2 hHeld
  refine hK.out _ _ (sBx3t (unhide X2)) (fun hHeld => ?_)
  clear hK K
  (try simp only [Act.put, List.setIfInBounds_toArray, List.set_cons_zero, List.set_cons_succ])
  have HHD : Hid (sAnsn ++ dg x ++ sValid ++ dg y = txtN x y ms 0) := hide rfl
  generalize hdx : dg x = dx at *
  generalize hdy : dg y = dy at *
  have HDY := hide hdy
  clear hdx hdy
  have q1 : ¬ (9223372036854775807 < 5 + dx.size) := by omega
  have q2 : ¬ (9223372036854775807 < 5 + dx.size + 7) := by omega
  have q3 : ¬ (9223372036854775807 < 5 + dx.size + 7 + dy.size) := by omega
  (refine Rg.tk (i := 3) (d := 13) (v := ?_) rfl rfl (by kernel_rfl) (by kernel_rfl) (by kernel_rfl) (fun _ _ _ h => h) (by rfl) ?_ (by assumption) ?_; rotate_left; (focus (intro w0 hSw; (try dsimp only at hSw); go_simp; (try with_reducible rfl))); (try simp only [Act.put, List.setIfInBounds_toArray, List.set_cons_zero, List.set_cons_succ]))
  (refine Rg.tk (i := 4) (d := 14) (v := ?_) rfl rfl (by kernel_rfl) (by kernel_rfl) (by kernel_rfl) (fun _ _ _ h => h) (by rfl) ?_ (by assumption) ?_; rotate_left; (focus (intro w0 hSw; (try dsimp only at hSw); go_simp; (try with_reducible rfl))); (try simp only [Act.put, List.setIfInBounds_toArray, List.set_cons_zero, List.set_cons_succ]))
  (refine wpAnyH_ready (rs := [7]) (by kernel_rfl) (by simp) ?_; refine AllReadyH.cons (o := _) rfl (fun K hK => ?_) AllReadyH.nil; go_simp)
  refine (itoa (y) (by omega) (by omega) _ (unhide HP _ (unhide D2))).mono ?_
  rintro e w3 ⟨rfl, b3⟩
  rw [unhide HDY]
  have X3 := hide ((unhide X2).below b3)
  have D3 := hide ((unhide D2).trans (b3.mono (unhide D2).size))
  clear b3 hHeld
  refine hK.out _ _ (sBx3t (unhide X3)) (fun hHeld => ?_)
  clear hK K
  (try simp only [Act.put, List.setIfInBounds_toArray, List.set_cons_zero, List.set_cons_succ])
  (refine Rg.tk (i := 8) (d := 18) (v := ?_) rfl rfl (by kernel_rfl) (by kernel_rfl) (by kernel_rfl) (fun _ _ _ h => h) (by rfl) ?_ (by assumption) ?_; rotate_left; (focus (intro w0 hSw; (try dsimp only at hSw); go_simp; (try with_reducible rfl))); (try simp only [Act.put, List.setIfInBounds_toArray, List.set_cons_zero, List.set_cons_succ]))
  (refine Rg.tk (i := 9) (d := 4) (v := ?_) rfl rfl (by kernel_rfl) (by kernel_rfl) (by kernel_rfl) (fun _ _ _ h => h) (by rfl) ?_ (by assumption) ?_; rotate_left; (focus (intro w0 hSw; (try dsimp only at hSw); go_simp; (try with_reducible rfl))); (try simp only [Act.put, List.setIfInBounds_toArray, List.set_cons_zero, List.set_cons_succ]))
  refine wpAnyH_done (by kernel_rfl) (NoPanic.normal ?_) _
  clear hHeld q1 q2 q3 X1 X2 D2
  have R3 := hide ((unhide HR0).below (unhide D3))
  generalize hN : ms.length = n at *
  have HN := hide hN
  clear hN
  have hbx := (unhide X3).2.2
  go_wp2_with fail
  clear hbx
  rw [unhide HHD]
  go_loopw [4, 22] (fun v i wr => ∃ j : Nat, j ≤ n ∧ i = .int .i64 j ∧ v = .string (txtN x y ms j) ∧ Hid (Below w3.heap.size w3 wr)) (fun _ i _ => n - (intOf i).toNat)
  case atStart => exact ⟨0, by omega, rfl, rfl, hide (Below.refl _ _)⟩
  case round =>
    obtain ⟨j, hj, rfl, rfl, hbl⟩ := hrel
    by_cases hlt : (j : Int) < (n : Int)
    · have k0 : (0 : Int) ≤ (j : Int) := by omega
      have hlen : j < ms.length := by rw [unhide HN]; omega
      rcases (unhide R3).below (by exact (unhide hbl)) with e0 | ⟨g, off, rfl, hc⟩
      · exfalso; rw [e0] at hlen; simp at hlen
      have hA := hc j hlen
      clear hc
      have hok := unhide HOK j (by omega)
      obtain ⟨a0, a1⟩ := ok_ad hok
      obtain ⟨m0, m1⟩ := ok_mt hok
      have hT0 := unhide HSZ j (by omega)
      have hT : (txtN x y ms j).size ≤ 252 := by omega
      have sa := dg_size (n := (ms.getD j R.zero).ad) (by omega)
      have sm := dg_size (n := (ms.getD j R.zero).mt) (by omega)
      have HQ : Hid (txtN x y ms j ++ (s32 ++ dg (ms.getD j R.zero).ad ++ s58 ++ dg (ms.getD j R.zero).mt) = txtN x y ms (j + 1)) := hide rfl
      have Y0 := hide (bx_new wr (ms.getD j R.zero) 57)
      have E0 := hide ((unhide hbl).alloc (unhide hbl).size (.cells #[.int .i64 (ms.getD j R.zero).ad, .int .i64 (ms.getD j R.zero).mt] 57))
      clear hok hT0
      generalize ms.getD j R.zero = m at *
      obtain ⟨ad, mt⟩ := m
      obtain ⟨c0, c1⟩ := hA
      dsimp only at c0 c1 a0 a1 m0 m1 sa sm HQ Y0 E0
      generalize hda : dg ad = da at *
      have HDA := hide hda
      clear hda
      generalize hdm : dg mt = dm at *
      have HDM := hide hdm
      clear hdm
      generalize hTT : txtN x y ms j = T at *
      clear hTT
      have qq0 : ¬ (9223372036854775807 < 1 + da.size) := by omega
      have qq1 : ¬ (9223372036854775807 < 1 + da.size + 1) := by omega
      have qq2 : ¬ (9223372036854775807 < 1 + da.size + 1 + dm.size) := by omega
      have qq3 : ¬ (9223372036854775807 < T.size + (1 + da.size + 1 + dm.size)) := by omega
      go_wp2_with fail
      generalize hW : wr.alloc (.cells _ _) = W1 at *
      clear hW
      refine wp_region_noPanic ?_
      refine wp_region_held_drew (S := fun w' => Bx w' wr.heap.size ⟨ad, mt⟩ ∧ w'.cell? ⟨wr.heap.size, 0, none⟩ = some (.int .i64 ad) ∧ w'.cell? ⟨wr.heap.size, 1, none⟩ = some (.int .i64 mt)) (by kernel_rfl) (sBox (unhide Y0).drew) (fun hHeld => ?_)
      (refine Rg.tk (i := 0) (d := 26) (v := ?_) rfl rfl (by kernel_rfl) (by kernel_rfl) (by kernel_rfl) (fun _ _ _ h => h) (by rfl) ?_ (by assumption) ?_; rotate_left; (focus (intro w0 hSw; (try dsimp only at hSw); go_simp; (try with_reducible rfl))); (try simp only [Act.put, List.setIfInBounds_toArray, List.set_cons_zero, List.set_cons_succ]))
      (refine Rg.tk (i := 1) (d := 27) (v := ?_) rfl rfl (by kernel_rfl) (by kernel_rfl) (by kernel_rfl) (fun _ _ _ h => h) (by rfl) ?_ (by assumption) ?_; rotate_left; (focus (intro w0 hSw; (try dsimp only at hSw); go_simp; (try with_reducible rfl))); (try simp only [Act.put, List.setIfInBounds_toArray, List.set_cons_zero, List.set_cons_succ]))
      (refine Rg.tk (i := 2) (d := 28) (v := ?_) rfl rfl (by kernel_rfl) (by kernel_rfl) (by kernel_rfl) (fun _ _ _ h => h) (by rfl) ?_ (by assumption) ?_; rotate_left; (focus (intro w0 hSw; (try dsimp only at hSw); go_simp; (try with_reducible rfl))); (try simp only [Act.put, List.setIfInBounds_toArray, List.set_cons_zero, List.set_cons_succ]))
      (refine Rg.tk (i := 6) (d := 32) (v := ?_) rfl rfl (by kernel_rfl) (by kernel_rfl) (by kernel_rfl) (fun _ _ _ h => h) (by rfl) ?_ (by assumption) ?_; rotate_left; (focus (intro w0 hSw; (try dsimp only at hSw); go_simp; (try with_reducible rfl))); (try simp only [Act.put, List.setIfInBounds_toArray, List.set_cons_zero, List.set_cons_succ]))
      (refine Rg.tk (i := 7) (d := 33) (v := ?_) rfl rfl (by kernel_rfl) (by kernel_rfl) (by kernel_rfl) (fun _ _ _ h => h) (by rfl) ?_ (by assumption) ?_; rotate_left; (focus (intro w0 hSw; (try dsimp only at hSw); go_simp; (try with_reducible rfl))); (try simp only [Act.put, List.setIfInBounds_toArray, List.set_cons_zero, List.set_cons_succ]))
      (refine wpAnyH_ready (rs := [3]) (by kernel_rfl) (by simp) ?_; refine AllReadyH.cons (o := _) rfl (fun K hK => ?_) AllReadyH.nil; go_simp)
      refine (itoa (ad) (by omega) (by omega) _ (unhide HP _ (((unhide D3).trans ((unhide E0).drew.mono (unhide D3).size))))).mono ?_
      rintro e v1 ⟨rfl, d1⟩
      rw [unhide HDA]
      have Y1 := hide ((unhide Y0).drew.below d1)
      have E1 := hide ((unhide E0).drew.trans (d1.mono (by show w3.heap.size ≤ W1.heap.size; exact (unhide E0).size)))
      clear d1 hHeld
      refine hK.out _ _ (sBox (unhide Y1)) (fun hHeld => ?_)
      clear hK K
      (try simp only [Act.put, List.setIfInBounds_toArray, List.set_cons_zero, List.set_cons_succ])
      (refine Rg.tk (i := 4) (d := 30) (v := ?_) rfl rfl (by kernel_rfl) (by kernel_rfl) (by kernel_rfl) (fun _ _ _ h => h) (by rfl) ?_ (by assumption) ?_; rotate_left; (focus (intro w0 hSw; (try dsimp only at hSw); go_simp; (try with_reducible rfl))); (try simp only [Act.put, List.setIfInBounds_toArray, List.set_cons_zero, List.set_cons_succ]))
      (refine Rg.tk (i := 5) (d := 31) (v := ?_) rfl rfl (by kernel_rfl) (by kernel_rfl) (by kernel_rfl) (fun _ _ _ h => h) (by rfl) ?_ (by assumption) ?_; rotate_left; (focus (intro w0 hSw; (try dsimp only at hSw); go_simp; (try with_reducible rfl))); (try simp only [Act.put, List.setIfInBounds_toArray, List.set_cons_zero, List.set_cons_succ]))
      (refine wpAnyH_ready (rs := [8]) (by kernel_rfl) (by simp) ?_; refine AllReadyH.cons (o := _) rfl (fun K hK => ?_) AllReadyH.nil; go_simp)
      refine (itoa (mt) (by omega) (by omega) _ (unhide HP _ (((unhide D3).trans ((unhide E1).mono (unhide D3).size))))).mono ?_
      rintro e v2 ⟨rfl, d2⟩
      rw [unhide HDM]
      have Y2 := hide ((unhide Y1).below d2)
      have E2 := hide ((unhide E1).trans (d2.mono (unhide E1).size))
      clear d2 hHeld
      refine hK.out _ _ (sBox (unhide Y2)) (fun hHeld => ?_)
      clear hK K
      (try simp only [Act.put, List.setIfInBounds_toArray, List.set_cons_zero, List.set_cons_succ])
      (refine Rg.tk (i := 9) (d := 35) (v := ?_) rfl rfl (by kernel_rfl) (by kernel_rfl) (by kernel_rfl) (fun _ _ _ h => h) (by rfl) ?_ (by assumption) ?_; rotate_left; (focus (intro w0 hSw; (try dsimp only at hSw); go_simp; (try with_reducible rfl))); (try simp only [Act.put, List.setIfInBounds_toArray, List.set_cons_zero, List.set_cons_succ]))
      (refine Rg.tk (i := 10) (d := 36) (v := ?_) rfl rfl (by kernel_rfl) (by kernel_rfl) (by kernel_rfl) (fun _ _ _ h => h) (by rfl) ?_ (by assumption) ?_; rotate_left; (focus (intro w0 hSw; (try dsimp only at hSw); go_simp; (try with_reducible rfl))); (try simp only [Act.put, List.setIfInBounds_toArray, List.set_cons_zero, List.set_cons_succ]))
      (refine Rg.tk (i := 11) (d := 4) (v := ?_) rfl rfl (by kernel_rfl) (by kernel_rfl) (by kernel_rfl) (fun _ _ _ h => h) (by rfl) ?_ (by assumption) ?_; rotate_left; (focus (intro w0 hSw; (try dsimp only at hSw); go_simp; (try with_reducible rfl))); (try simp only [Act.put, List.setIfInBounds_toArray, List.set_cons_zero, List.set_cons_succ]))
      refine wpAnyH_done (by kernel_rfl) (NoPanic.normal ?_) _
      clear hHeld
      rw [unhide HQ]
      go_wp2_with fail
      go_roundw
      case rel => exact ⟨j + 1, by omega, by go_num, rfl, E2⟩
      case measure => simp [intOf]; omega
    · obtain rfl : j = n := by omega
      have HF := hide ((unhide D3).trans ((unhide hbl).mono (unhide D3).size))
      have ej : txtN x y ms j = txtN x y ms ms.length := by rw [unhide HN]
      rw [ej]
      clear ej
      go_wp2_with fail
      go_ret2
      exact ⟨rfl, unhide HF⟩
end Av
end Go.Proofs.YtpknahhdapmcoalDoor
