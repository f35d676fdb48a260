/-
  A route's line, numbers of up to thirteen digits, and RoutesText, the program's and the model's, where the library's table of powers of ten lies as its initialiser lays it. (written by mkrout.py)
-/
import Derived.Test.YtmlokaielemhaaaDoorShelf
import Derived.Test.YtmlokaielemhaaaDoorRouS
import Derived.Test.YtmlokaielemhaaaDoorDig
import Derived.Test.YtmlokaielemhaaaDoorStrs
import Derived.Lib.AppendIntMem
namespace Go.Proofs.YtmlokaielemhaaaDoor
open Go.ChangeShapes Go.WideShapes Go.ChangeAt Go.RowKit
set_option linter.unusedVariables false
set_option linter.unusedSimpArgs false
set_option maxRecDepth 100000
attribute [local go_sem ↓] Go.wp_at_zero Go.wp_at_succ
attribute [local go_sem] Go.strOfNums_size ByteArray.size_append
namespace Rw
open W1 Ro
abbrev sBy : ByteArray := ⟨#[32, 98, 121, 32]⟩
abbrev sCo : ByteArray := ⟨#[32, 99, 111, 115, 116, 32]⟩
abbrev sHo : ByteArray := ⟨#[32, 104, 111, 112, 115, 32]⟩
def dg (n : Int) : ByteArray := Di.dig n.toNat
/-- A route's line. -/
def lnT (m : R) : ByteArray := dg m.ds ++ sBy ++ dg m.nx ++ sCo ++ dg m.co ++ sHo ++ dg m.hp
def txtL (ms : List R) (j : Nat) : List ByteArray := (ms.take j).map lnT
def txtA (ms : List R) : List ByteArray := if codeR ms = 0 then txtL ms ms.length else []
theorem txtL_succ {ms : List R} {j : Nat} (h : j < ms.length) : txtL ms (j + 1) = txtL ms j ++ [lnT (ms.getD j R.zero)] := by
  unfold txtL
  rw [List.take_add_one, List.getElem?_eq_getElem h, List.map_append, List.getD_eq_getElem?_getD, List.getElem?_eq_getElem h]; rfl
theorem txtL_len (ms : List R) (j : Nat) : (txtL ms j).length ≤ j := by unfold txtL; rw [List.length_map]; exact List.length_take_le _ _
theorem txt_len (ms : List R) : (txtA ms).length ≤ ms.length := by
  unfold txtA; split
  · exact txtL_len _ _
  · simp
theorem dig_size13 (k : Nat) (h : k ≤ 9999999999999) : (Di.dig k).size ≤ 13 := by
  have e : (Di.dig k).size = Lib.nDigits k := by
    show (Lib.decDigits k).toArray.size = _
    simp [Lib.decDigits_length]
  rw [e]
  have h1 : ∀ u, u < 10 → Lib.nDigits u ≤ 1 := fun u hu => by rw [Lib.nDigits_small hu]; omega
  have up : ∀ n N, (∀ u, u < N → Lib.nDigits u ≤ n) → 0 < n → ∀ u, u < N * 10 → Lib.nDigits u ≤ n + 1 := fun n N hn h0 u hu => by
    by_cases c : u < 10
    · have := h1 u c; omega
    · rw [Lib.nDigits_big c]; have := hn (u / 10) (by omega); omega
  exact up 12 _ (up 11 _ (up 10 _ (up 9 _ (up 8 _ (up 7 _ (up 6 _ (up 5 _ (up 4 _ (up 3 _ (up 2 _ (up 1 _ h1 (by omega)) (by omega)) (by omega)) (by omega)) (by omega)) (by omega)) (by omega)) (by omega)) (by omega)) (by omega)) (by omega)) (by omega) k (by omega)
theorem dg_size {n : Int} (h : n ≤ 9999999999999) : (dg n).size ≤ 13 := dig_size13 _ (by omega)
theorem ln_size {m : R} (h : okT m = true) : (lnT m).size ≤ 68 := by
  have a := dg_size (n := m.ds) (by have := ok_ad h; omega)
  have b := dg_size (n := m.nx) (by have := ok_nx h; omega)
  have c := dg_size (n := m.co) (by have := ok_co h; omega)
  have d := dg_size (n := m.hp) (by have := ok_hp h; omega)
  unfold lnT
  simp only [ByteArray.size_append]
  have e1 : sBy.size = 4 := rfl
  have e2 : sCo.size = 6 := rfl
  have e3 : sHo.size = 6 := rfl
  omega
abbrev TabP (w : World) : Prop := Lib.TabIs Tryd.prog w "internal/strconv.uint64pow10" .u64 Lib.pow10Tab
theorem itoa (n : Int) (h0 : 0 ≤ n) (h1 : n ≤ 9999999999999) (w : World) (ht : TabP w) :
    Calls Tryd.prog 29 #[.int .i64 n] w fun e w' => e = .returned (.string (dg n)) ∧ Below w.heap.size w w' := by
  refine (Tryd.strconv_Itoa n (by omega) (by omega) w ht).mono ?_
  rintro e w' ⟨rfl, k, os, rfl⟩
  refine ⟨?_, Lib.below_grow _ _ (Nat.le_refl _) _ _⟩
  obtain ⟨u, rfl⟩ := Int.eq_ofNat_of_zero_le h0
  rw [Lib.itoa_nonneg]; rfl
end Rw
namespace Di
open W1
set_option maxRecDepth 100000 in
set_option maxHeartbeats 1000000 in
theorem digits13 (k : Nat) : k ≤ 9999999999999 → ∀ w : World,
    Calls Tryd.prog 30 #[.int .i64 (k : Int)] w fun e w' => e = .returned (.string (dig k)) ∧ Below w.heap.size w w' := by
  induction k using Nat.strongRecOn with
  | ind k ih =>
  intro hk w
  by_cases h : k < 10
  · have hd := hide (dig_one h)
    have h1 : (k : Int) < 10 := by omega
    have hc := conv1 (w.alloc (Obj.cells #[Value.int IntKind.u8 (48 + (k : Int))] 5)) w.heap.size (48 + (k : Int)) (by simp [go_sem])
    clear ih
    go_enter Tryd.func30, Tryd.ntmps30
    go_wp2_with fail
    rw [unhide hd]
    go_ret
    exact ⟨rfl, (Below.refl _ _).alloc (Nat.le_refl _) _⟩
  · have hd := hide (dig_more h)
    have h1 : ¬ (k : Int) < 10 := by omega
    have hz := Rw.dig_size13 (k / 10) (by omega)
    have hih := hide (ih (k / 10) (by omega) (by omega))
    have hk10 : ((k / 10 : Nat) : Int) = (k : Int) / 10 := by omega
    rw [hk10] at hih
    have hc := fun W g => conv1 W g (48 + (k : Int) % 10)
    have hbl0 : Below w.heap.size w w := Below.refl _ _
    have hw1 : IntKind.i64.wrap ((k : Int) / 10) = (k : Int) / 10 := wrapS (by omega) (by omega)
    have htm : (k : Int).tmod 10 = (k : Int) % 10 := Int.tmod_eq_emod_of_nonneg (by omega)
    have hw2 : IntKind.i64.wrap (48 + (k : Int) % 10) = 48 + (k : Int) % 10 := wrapS (by omega) (by omega)
    have hw3 : IntKind.u8.wrap (48 + (k : Int) % 10) = 48 + (k : Int) % 10 := by rw [IntKind.wrap_u8]; omega
    have hnb : ∀ n : Int, ¬ (9223372036854775807 < (dig (k / 10)).size + (strOfNums [n]).size) := fun n => by rw [strOfNums_size]; simp; omega
    clear ih hk10
    generalize dig (k / 10) = dk at *
    go_enter Tryd.func30, Tryd.ntmps30
    go_wp2_with fail
    go_region_with (first
        | (go_at_call 30; refine (unhide hih _).mono ?_; rintro e w' ⟨rfl, hbel⟩; obtain ⟨hcc, hff⟩ := bcell hbel))
    all_goals have hH : Below w.heap.size w w' := by first | exact ((Below.refl w.heap.size w).drew).trans hbel | exact (((Below.refl w.heap.size w).alloc (Nat.le_refl _) _).drew).trans (hbel.mono (by simp))
    all_goals rw [unhide hd]
    all_goals clear hcc hff hbel
    all_goals go_wp2
    all_goals go_ret
    all_goals first | exact ⟨rfl, hH⟩ | exact ⟨rfl, hH.alloc hH.size _⟩
end Di
namespace Rw
open W1 Ro
theorem digs (n : Int) (h0 : 0 ≤ n) (h1 : n ≤ 9999999999999) (w : World) :
    Calls Tryd.prog 30 #[.int .i64 n] w fun e w' => e = .returned (.string (dg n)) ∧ Below w.heap.size w w' := by
  obtain ⟨u, rfl⟩ := Int.eq_ofNat_of_zero_le h0
  exact Di.digits13 u (by omega) w
set_option maxHeartbeats 4000000 in
theorem implLine (m : R) (w : World) (hok : okT m = true) (hp : TabP w) : Calls Tryd.prog 20 #[.agg #[.int .i64 m.ds, .int .i64 m.nx, .int .i64 m.co, .int .i64 m.hp]] w fun e w' => e = .returned (.string (lnT m)) ∧ Below w.heap.size w w' := by
  obtain ⟨a0, a1⟩ := ok_ad hok
  obtain ⟨b0, b1⟩ := ok_nx hok
  obtain ⟨c0, c1⟩ := ok_co hok
  obtain ⟨d0, d1⟩ := ok_hp hok
  have HLN : Hid (lnT m = dg m.ds ++ sBy ++ dg m.nx ++ sCo ++ dg m.co ++ sHo ++ dg m.hp) := hide rfl
  have sa := dg_size (n := m.ds) (by omega)
  have sb := dg_size (n := m.nx) (by omega)
  have sc := dg_size (n := m.co) (by omega)
  have sd := dg_size (n := m.hp) (by omega)
  clear hok
  obtain ⟨ds, nx, co, hq⟩ := m
  dsimp only at *
  generalize hda : dg ds = da at *
  have HDA := hide hda
  clear hda
  generalize hdb : dg nx = db at *
  have HDB := hide hdb
  clear hdb
  generalize hdc : dg co = dc at *
  have HDC := hide hdc
  clear hdc
  generalize hdd : dg hq = dd at *
  have HDD := hide hdd
  clear hdd
  rw [unhide HLN]
  clear HLN
  have HP := hide (Lib.tabBelow_of_tabIs hp)
  clear hp
  have qq0 : ¬ (9223372036854775807 < da.size + 4) := by omega
  have qq1 : ¬ (9223372036854775807 < da.size + 4 + db.size) := by omega
  have qq2 : ¬ (9223372036854775807 < da.size + 4 + db.size + 6) := by omega
  have qq3 : ¬ (9223372036854775807 < da.size + 4 + db.size + 6 + dc.size) := by omega
  have qq4 : ¬ (9223372036854775807 < da.size + 4 + db.size + 6 + dc.size + 6) := by omega
  have qq5 : ¬ (9223372036854775807 < da.size + 4 + db.size + 6 + dc.size + 6 + dd.size) := by omega
  have Y0 := hide (bx_new w ⟨ds, nx, co, hq⟩ 39)
  have E0 := hide ((Below.refl w.heap.size w).alloc (Nat.le_refl _) (.cells #[.int .i64 ds, .int .i64 nx, .int .i64 co, .int .i64 hq] 39))
  go_enter Tryd.func20, Tryd.ntmps20
  go_wp2_with fail
  have YD := hide (unhide Y0).drew
  have ED := hide (unhide E0).drew
  generalize hW0 : w.alloc (.cells #[.int .i64 ds, .int .i64 nx, .int .i64 co, .int .i64 hq] 39) = v0 at *
  clear hW0
  refine wp_region_noPanic ?_
  refine wp_region_held_drew (S := fun w' => Bx w' w.heap.size ⟨ds, nx, co, hq⟩ ∧ w'.cell? ⟨w.heap.size, 0, none⟩ = some (.int .i64 ds) ∧ w'.cell? ⟨w.heap.size, 1, none⟩ = some (.int .i64 nx) ∧ w'.cell? ⟨w.heap.size, 2, none⟩ = some (.int .i64 co) ∧ w'.cell? ⟨w.heap.size, 3, none⟩ = some (.int .i64 hq)) (by kernel_rfl) (sBox (unhide Y0).drew) (fun hHeld => ?_)
  clear Y0 E0
  generalize hV : v0.drew = vD at *
  clear hV
  (refine Rg.tk (i := 0) (d := 3) (v := ?_) rfl rfl (by kernel_rfl) (by kernel_rfl) (by kernel_rfl) (fun _ _ _ h => h) (by rfl) ?_ (by assumption) ?_; rotate_left; (focus (intro w0 hSw; (try dsimp only at hSw); go_simp; (try with_reducible rfl))); (try simp only [Act.put, List.setIfInBounds_toArray, List.set_cons_zero, List.set_cons_succ]))
  (refine Rg.tk (i := 1) (d := 4) (v := ?_) rfl rfl (by kernel_rfl) (by kernel_rfl) (by kernel_rfl) (fun _ _ _ h => h) (by rfl) ?_ (by assumption) ?_; rotate_left; (focus (intro w0 hSw; (try dsimp only at hSw); go_simp; (try with_reducible rfl))); (try simp only [Act.put, List.setIfInBounds_toArray, List.set_cons_zero, List.set_cons_succ]))
  (refine Rg.tk (i := 4) (d := 7) (v := ?_) rfl rfl (by kernel_rfl) (by kernel_rfl) (by kernel_rfl) (fun _ _ _ h => h) (by rfl) ?_ (by assumption) ?_; rotate_left; (focus (intro w0 hSw; (try dsimp only at hSw); go_simp; (try with_reducible rfl))); (try simp only [Act.put, List.setIfInBounds_toArray, List.set_cons_zero, List.set_cons_succ]))
  (refine Rg.tk (i := 5) (d := 8) (v := ?_) rfl rfl (by kernel_rfl) (by kernel_rfl) (by kernel_rfl) (fun _ _ _ h => h) (by rfl) ?_ (by assumption) ?_; rotate_left; (focus (intro w0 hSw; (try dsimp only at hSw); go_simp; (try with_reducible rfl))); (try simp only [Act.put, List.setIfInBounds_toArray, List.set_cons_zero, List.set_cons_succ]))
  (refine Rg.tk (i := 9) (d := 12) (v := ?_) rfl rfl (by kernel_rfl) (by kernel_rfl) (by kernel_rfl) (fun _ _ _ h => h) (by rfl) ?_ (by assumption) ?_; rotate_left; (focus (intro w0 hSw; (try dsimp only at hSw); go_simp; (try with_reducible rfl))); (try simp only [Act.put, List.setIfInBounds_toArray, List.set_cons_zero, List.set_cons_succ]))
  (refine Rg.tk (i := 10) (d := 13) (v := ?_) rfl rfl (by kernel_rfl) (by kernel_rfl) (by kernel_rfl) (fun _ _ _ h => h) (by rfl) ?_ (by assumption) ?_; rotate_left; (focus (intro w0 hSw; (try dsimp only at hSw); go_simp; (try with_reducible rfl))); (try simp only [Act.put, List.setIfInBounds_toArray, List.set_cons_zero, List.set_cons_succ]))
  (refine Rg.tk (i := 14) (d := 17) (v := ?_) rfl rfl (by kernel_rfl) (by kernel_rfl) (by kernel_rfl) (fun _ _ _ h => h) (by rfl) ?_ (by assumption) ?_; rotate_left; (focus (intro w0 hSw; (try dsimp only at hSw); go_simp; (try with_reducible rfl))); (try simp only [Act.put, List.setIfInBounds_toArray, List.set_cons_zero, List.set_cons_succ]))
  (refine Rg.tk (i := 15) (d := 18) (v := ?_) rfl rfl (by kernel_rfl) (by kernel_rfl) (by kernel_rfl) (fun _ _ _ h => h) (by rfl) ?_ (by assumption) ?_; rotate_left; (focus (intro w0 hSw; (try dsimp only at hSw); go_simp; (try with_reducible rfl))); (try simp only [Act.put, List.setIfInBounds_toArray, List.set_cons_zero, List.set_cons_succ]))
  (refine wpAnyH_ready (rs := [2]) (by kernel_rfl) (by simp) ?_; refine AllReadyH.cons (o := _) rfl (fun K hK => ?_) AllReadyH.nil; go_simp)
  refine (itoa ds (by omega) (by omega) _ (unhide HP _ (unhide ED))).mono ?_
  rintro e v1 ⟨rfl, d1⟩
  rw [unhide HDA]
  have E1 := hide ((unhide ED).trans (d1.mono (unhide ED).size))
  have Y1 := hide ((unhide YD).below d1)
  clear d1 hHeld ED YD
  refine hK.out _ _ (sBox (unhide Y1)) (fun hHeld => ?_)
  clear hK K
  (try simp only [Act.put, List.setIfInBounds_toArray, List.set_cons_zero, List.set_cons_succ])
  (refine Rg.tk (i := 3) (d := 6) (v := ?_) rfl rfl (by kernel_rfl) (by kernel_rfl) (by kernel_rfl) (fun _ _ _ h => h) (by rfl) ?_ (by assumption) ?_; rotate_left; (focus (intro w0 hSw; (try dsimp only at hSw); go_simp; (try with_reducible rfl))); (try simp only [Act.put, List.setIfInBounds_toArray, List.set_cons_zero, List.set_cons_succ]))
  (refine wpAnyH_ready (rs := [6]) (by kernel_rfl) (by simp) ?_; refine AllReadyH.cons (o := _) rfl (fun K hK => ?_) AllReadyH.nil; go_simp)
  refine (itoa nx (by omega) (by omega) _ (unhide HP _ (unhide E1))).mono ?_
  rintro e v2 ⟨rfl, d2⟩
  rw [unhide HDB]
  have E2 := hide ((unhide E1).trans (d2.mono (unhide E1).size))
  have Y2 := hide ((unhide Y1).below d2)
  clear d2 hHeld E1 Y1
  refine hK.out _ _ (sBox (unhide Y2)) (fun hHeld => ?_)
  clear hK K
  (try simp only [Act.put, List.setIfInBounds_toArray, List.set_cons_zero, List.set_cons_succ])
  (refine Rg.tk (i := 7) (d := 10) (v := ?_) rfl rfl (by kernel_rfl) (by kernel_rfl) (by kernel_rfl) (fun _ _ _ h => h) (by rfl) ?_ (by assumption) ?_; rotate_left; (focus (intro w0 hSw; (try dsimp only at hSw); go_simp; (try with_reducible rfl))); (try simp only [Act.put, List.setIfInBounds_toArray, List.set_cons_zero, List.set_cons_succ]))
  (refine Rg.tk (i := 8) (d := 11) (v := ?_) rfl rfl (by kernel_rfl) (by kernel_rfl) (by kernel_rfl) (fun _ _ _ h => h) (by rfl) ?_ (by assumption) ?_; rotate_left; (focus (intro w0 hSw; (try dsimp only at hSw); go_simp; (try with_reducible rfl))); (try simp only [Act.put, List.setIfInBounds_toArray, List.set_cons_zero, List.set_cons_succ]))
  (refine wpAnyH_ready (rs := [11]) (by kernel_rfl) (by simp) ?_; refine AllReadyH.cons (o := _) rfl (fun K hK => ?_) AllReadyH.nil; go_simp)
  refine (itoa co (by omega) (by omega) _ (unhide HP _ (unhide E2))).mono ?_
  rintro e v3 ⟨rfl, d3⟩
  rw [unhide HDC]
  have E3 := hide ((unhide E2).trans (d3.mono (unhide E2).size))
  have Y3 := hide ((unhide Y2).below d3)
  clear d3 hHeld E2 Y2
  refine hK.out _ _ (sBox (unhide Y3)) (fun hHeld => ?_)
  clear hK K
  (try simp only [Act.put, List.setIfInBounds_toArray, List.set_cons_zero, List.set_cons_succ])
  (refine Rg.tk (i := 12) (d := 15) (v := ?_) rfl rfl (by kernel_rfl) (by kernel_rfl) (by kernel_rfl) (fun _ _ _ h => h) (by rfl) ?_ (by assumption) ?_; rotate_left; (focus (intro w0 hSw; (try dsimp only at hSw); go_simp; (try with_reducible rfl))); (try simp only [Act.put, List.setIfInBounds_toArray, List.set_cons_zero, List.set_cons_succ]))
  (refine Rg.tk (i := 13) (d := 16) (v := ?_) rfl rfl (by kernel_rfl) (by kernel_rfl) (by kernel_rfl) (fun _ _ _ h => h) (by rfl) ?_ (by assumption) ?_; rotate_left; (focus (intro w0 hSw; (try dsimp only at hSw); go_simp; (try with_reducible rfl))); (try simp only [Act.put, List.setIfInBounds_toArray, List.set_cons_zero, List.set_cons_succ]))
  (refine wpAnyH_ready (rs := [16]) (by kernel_rfl) (by simp) ?_; refine AllReadyH.cons (o := _) rfl (fun K hK => ?_) AllReadyH.nil; go_simp)
  refine (itoa hq (by omega) (by omega) _ (unhide HP _ (unhide E3))).mono ?_
  rintro e v4 ⟨rfl, d4⟩
  rw [unhide HDD]
  have E4 := hide ((unhide E3).trans (d4.mono (unhide E3).size))
  have Y4 := hide ((unhide Y3).below d4)
  clear d4 hHeld E3 Y3
  refine hK.out _ _ (sBox (unhide Y4)) (fun hHeld => ?_)
  clear hK K
  (try simp only [Act.put, List.setIfInBounds_toArray, List.set_cons_zero, List.set_cons_succ])
  (refine Rg.tk (i := 17) (d := 20) (v := ?_) rfl rfl (by kernel_rfl) (by kernel_rfl) (by kernel_rfl) (fun _ _ _ h => h) (by rfl) ?_ (by assumption) ?_; rotate_left; (focus (intro w0 hSw; (try dsimp only at hSw); go_simp; (try with_reducible rfl))); (try simp only [Act.put, List.setIfInBounds_toArray, List.set_cons_zero, List.set_cons_succ]))
  (refine Rg.tk (i := 18) (d := 2) (v := ?_) rfl rfl (by kernel_rfl) (by kernel_rfl) (by kernel_rfl) (fun _ _ _ h => h) (by rfl) ?_ (by assumption) ?_; rotate_left; (focus (intro w0 hSw; (try dsimp only at hSw); go_simp; (try with_reducible rfl))); (try simp only [Act.put, List.setIfInBounds_toArray, List.set_cons_zero, List.set_cons_succ]))
  refine wpAnyH_done (by kernel_rfl) (NoPanic.normal ?_) _
  clear hHeld
  go_wp2_with fail
  go_ret
  exact ⟨rfl, unhide E4⟩
set_option maxHeartbeats 4000000 in
theorem specLine (m : R) (w : World) (hok : okT m = true) : Calls Tryd.prog 24 #[.agg #[.int .i64 m.ds, .int .i64 m.nx, .int .i64 m.co, .int .i64 m.hp]] w fun e w' => e = .returned (.string (lnT m)) ∧ Below w.heap.size w w' := by
  obtain ⟨a0, a1⟩ := ok_ad hok
  obtain ⟨b0, b1⟩ := ok_nx hok
  obtain ⟨c0, c1⟩ := ok_co hok
  obtain ⟨d0, d1⟩ := ok_hp hok
  have HLN : Hid (lnT m = dg m.ds ++ sBy ++ dg m.nx ++ sCo ++ dg m.co ++ sHo ++ dg m.hp) := hide rfl
  have sa := dg_size (n := m.ds) (by omega)
  have sb := dg_size (n := m.nx) (by omega)
  have sc := dg_size (n := m.co) (by omega)
  have sd := dg_size (n := m.hp) (by omega)
  clear hok
  obtain ⟨ds, nx, co, hq⟩ := m
  dsimp only at *
  generalize hda : dg ds = da at *
  have HDA := hide hda
  clear hda
  generalize hdb : dg nx = db at *
  have HDB := hide hdb
  clear hdb
  generalize hdc : dg co = dc at *
  have HDC := hide hdc
  clear hdc
  generalize hdd : dg hq = dd at *
  have HDD := hide hdd
  clear hdd
  rw [unhide HLN]
  clear HLN
  have qq0 : ¬ (9223372036854775807 < da.size + 4) := by omega
  have qq1 : ¬ (9223372036854775807 < da.size + 4 + db.size) := by omega
  have qq2 : ¬ (9223372036854775807 < da.size + 4 + db.size + 6) := by omega
  have qq3 : ¬ (9223372036854775807 < da.size + 4 + db.size + 6 + dc.size) := by omega
  have qq4 : ¬ (9223372036854775807 < da.size + 4 + db.size + 6 + dc.size + 6) := by omega
  have qq5 : ¬ (9223372036854775807 < da.size + 4 + db.size + 6 + dc.size + 6 + dd.size) := by omega
  have Y0 := hide (bx_new w ⟨ds, nx, co, hq⟩ 39)
  have E0 := hide ((Below.refl w.heap.size w).alloc (Nat.le_refl _) (.cells #[.int .i64 ds, .int .i64 nx, .int .i64 co, .int .i64 hq] 39))
  go_enter Tryd.func24, Tryd.ntmps24
  go_wp2_with fail
  have YD := hide (unhide Y0).drew
  have ED := hide (unhide E0).drew
  generalize hW0 : w.alloc (.cells #[.int .i64 ds, .int .i64 nx, .int .i64 co, .int .i64 hq] 39) = v0 at *
  clear hW0
  refine wp_region_noPanic ?_
  refine wp_region_held_drew (S := fun w' => Bx w' w.heap.size ⟨ds, nx, co, hq⟩ ∧ w'.cell? ⟨w.heap.size, 0, none⟩ = some (.int .i64 ds) ∧ w'.cell? ⟨w.heap.size, 1, none⟩ = some (.int .i64 nx) ∧ w'.cell? ⟨w.heap.size, 2, none⟩ = some (.int .i64 co) ∧ w'.cell? ⟨w.heap.size, 3, none⟩ = some (.int .i64 hq)) (by kernel_rfl) (sBox (unhide Y0).drew) (fun hHeld => ?_)
  clear Y0 E0
  generalize hV : v0.drew = vD at *
  clear hV
  (refine Rg.tk (i := 0) (d := 3) (v := ?_) rfl rfl (by kernel_rfl) (by kernel_rfl) (by kernel_rfl) (fun _ _ _ h => h) (by rfl) ?_ (by assumption) ?_; rotate_left; (focus (intro w0 hSw; (try dsimp only at hSw); go_simp; (try with_reducible rfl))); (try simp only [Act.put, List.setIfInBounds_toArray, List.set_cons_zero, List.set_cons_succ]))
  (refine Rg.tk (i := 1) (d := 4) (v := ?_) rfl rfl (by kernel_rfl) (by kernel_rfl) (by kernel_rfl) (fun _ _ _ h => h) (by rfl) ?_ (by assumption) ?_; rotate_left; (focus (intro w0 hSw; (try dsimp only at hSw); go_simp; (try with_reducible rfl))); (try simp only [Act.put, List.setIfInBounds_toArray, List.set_cons_zero, List.set_cons_succ]))
  (refine Rg.tk (i := 4) (d := 7) (v := ?_) rfl rfl (by kernel_rfl) (by kernel_rfl) (by kernel_rfl) (fun _ _ _ h => h) (by rfl) ?_ (by assumption) ?_; rotate_left; (focus (intro w0 hSw; (try dsimp only at hSw); go_simp; (try with_reducible rfl))); (try simp only [Act.put, List.setIfInBounds_toArray, List.set_cons_zero, List.set_cons_succ]))
  (refine Rg.tk (i := 5) (d := 8) (v := ?_) rfl rfl (by kernel_rfl) (by kernel_rfl) (by kernel_rfl) (fun _ _ _ h => h) (by rfl) ?_ (by assumption) ?_; rotate_left; (focus (intro w0 hSw; (try dsimp only at hSw); go_simp; (try with_reducible rfl))); (try simp only [Act.put, List.setIfInBounds_toArray, List.set_cons_zero, List.set_cons_succ]))
  (refine Rg.tk (i := 9) (d := 12) (v := ?_) rfl rfl (by kernel_rfl) (by kernel_rfl) (by kernel_rfl) (fun _ _ _ h => h) (by rfl) ?_ (by assumption) ?_; rotate_left; (focus (intro w0 hSw; (try dsimp only at hSw); go_simp; (try with_reducible rfl))); (try simp only [Act.put, List.setIfInBounds_toArray, List.set_cons_zero, List.set_cons_succ]))
  (refine Rg.tk (i := 10) (d := 13) (v := ?_) rfl rfl (by kernel_rfl) (by kernel_rfl) (by kernel_rfl) (fun _ _ _ h => h) (by rfl) ?_ (by assumption) ?_; rotate_left; (focus (intro w0 hSw; (try dsimp only at hSw); go_simp; (try with_reducible rfl))); (try simp only [Act.put, List.setIfInBounds_toArray, List.set_cons_zero, List.set_cons_succ]))
  (refine Rg.tk (i := 14) (d := 17) (v := ?_) rfl rfl (by kernel_rfl) (by kernel_rfl) (by kernel_rfl) (fun _ _ _ h => h) (by rfl) ?_ (by assumption) ?_; rotate_left; (focus (intro w0 hSw; (try dsimp only at hSw); go_simp; (try with_reducible rfl))); (try simp only [Act.put, List.setIfInBounds_toArray, List.set_cons_zero, List.set_cons_succ]))
  (refine Rg.tk (i := 15) (d := 18) (v := ?_) rfl rfl (by kernel_rfl) (by kernel_rfl) (by kernel_rfl) (fun _ _ _ h => h) (by rfl) ?_ (by assumption) ?_; rotate_left; (focus (intro w0 hSw; (try dsimp only at hSw); go_simp; (try with_reducible rfl))); (try simp only [Act.put, List.setIfInBounds_toArray, List.set_cons_zero, List.set_cons_succ]))
  (refine wpAnyH_ready (rs := [2]) (by kernel_rfl) (by simp) ?_; refine AllReadyH.cons (o := _) rfl (fun K hK => ?_) AllReadyH.nil; go_simp)
  refine (digs ds (by omega) (by omega) _).mono ?_
  rintro e v1 ⟨rfl, d1⟩
  rw [unhide HDA]
  have E1 := hide ((unhide ED).trans (d1.mono (unhide ED).size))
  have Y1 := hide ((unhide YD).below d1)
  clear d1 hHeld ED YD
  refine hK.out _ _ (sBox (unhide Y1)) (fun hHeld => ?_)
  clear hK K
  (try simp only [Act.put, List.setIfInBounds_toArray, List.set_cons_zero, List.set_cons_succ])
  (refine Rg.tk (i := 3) (d := 6) (v := ?_) rfl rfl (by kernel_rfl) (by kernel_rfl) (by kernel_rfl) (fun _ _ _ h => h) (by rfl) ?_ (by assumption) ?_; rotate_left; (focus (intro w0 hSw; (try dsimp only at hSw); go_simp; (try with_reducible rfl))); (try simp only [Act.put, List.setIfInBounds_toArray, List.set_cons_zero, List.set_cons_succ]))
  (refine wpAnyH_ready (rs := [6]) (by kernel_rfl) (by simp) ?_; refine AllReadyH.cons (o := _) rfl (fun K hK => ?_) AllReadyH.nil; go_simp)
  refine (digs nx (by omega) (by omega) _).mono ?_
  rintro e v2 ⟨rfl, d2⟩
  rw [unhide HDB]
  have E2 := hide ((unhide E1).trans (d2.mono (unhide E1).size))
  have Y2 := hide ((unhide Y1).below d2)
  clear d2 hHeld E1 Y1
  refine hK.out _ _ (sBox (unhide Y2)) (fun hHeld => ?_)
  clear hK K
  (try simp only [Act.put, List.setIfInBounds_toArray, List.set_cons_zero, List.set_cons_succ])
  (refine Rg.tk (i := 7) (d := 10) (v := ?_) rfl rfl (by kernel_rfl) (by kernel_rfl) (by kernel_rfl) (fun _ _ _ h => h) (by rfl) ?_ (by assumption) ?_; rotate_left; (focus (intro w0 hSw; (try dsimp only at hSw); go_simp; (try with_reducible rfl))); (try simp only [Act.put, List.setIfInBounds_toArray, List.set_cons_zero, List.set_cons_succ]))
  (refine Rg.tk (i := 8) (d := 11) (v := ?_) rfl rfl (by kernel_rfl) (by kernel_rfl) (by kernel_rfl) (fun _ _ _ h => h) (by rfl) ?_ (by assumption) ?_; rotate_left; (focus (intro w0 hSw; (try dsimp only at hSw); go_simp; (try with_reducible rfl))); (try simp only [Act.put, List.setIfInBounds_toArray, List.set_cons_zero, List.set_cons_succ]))
  (refine wpAnyH_ready (rs := [11]) (by kernel_rfl) (by simp) ?_; refine AllReadyH.cons (o := _) rfl (fun K hK => ?_) AllReadyH.nil; go_simp)
  refine (digs co (by omega) (by omega) _).mono ?_
  rintro e v3 ⟨rfl, d3⟩
  rw [unhide HDC]
  have E3 := hide ((unhide E2).trans (d3.mono (unhide E2).size))
  have Y3 := hide ((unhide Y2).below d3)
  clear d3 hHeld E2 Y2
  refine hK.out _ _ (sBox (unhide Y3)) (fun hHeld => ?_)
  clear hK K
  (try simp only [Act.put, List.setIfInBounds_toArray, List.set_cons_zero, List.set_cons_succ])
  (refine Rg.tk (i := 12) (d := 15) (v := ?_) rfl rfl (by kernel_rfl) (by kernel_rfl) (by kernel_rfl) (fun _ _ _ h => h) (by rfl) ?_ (by assumption) ?_; rotate_left; (focus (intro w0 hSw; (try dsimp only at hSw); go_simp; (try with_reducible rfl))); (try simp only [Act.put, List.setIfInBounds_toArray, List.set_cons_zero, List.set_cons_succ]))
  (refine Rg.tk (i := 13) (d := 16) (v := ?_) rfl rfl (by kernel_rfl) (by kernel_rfl) (by kernel_rfl) (fun _ _ _ h => h) (by rfl) ?_ (by assumption) ?_; rotate_left; (focus (intro w0 hSw; (try dsimp only at hSw); go_simp; (try with_reducible rfl))); (try simp only [Act.put, List.setIfInBounds_toArray, List.set_cons_zero, List.set_cons_succ]))
  (refine wpAnyH_ready (rs := [16]) (by kernel_rfl) (by simp) ?_; refine AllReadyH.cons (o := _) rfl (fun K hK => ?_) AllReadyH.nil; go_simp)
  refine (digs hq (by omega) (by omega) _).mono ?_
  rintro e v4 ⟨rfl, d4⟩
  rw [unhide HDD]
  have E4 := hide ((unhide E3).trans (d4.mono (unhide E3).size))
  have Y4 := hide ((unhide Y3).below d4)
  clear d4 hHeld E3 Y3
  refine hK.out _ _ (sBox (unhide Y4)) (fun hHeld => ?_)
  clear hK K
  (try simp only [Act.put, List.setIfInBounds_toArray, List.set_cons_zero, List.set_cons_succ])
  (refine Rg.tk (i := 17) (d := 20) (v := ?_) rfl rfl (by kernel_rfl) (by kernel_rfl) (by kernel_rfl) (fun _ _ _ h => h) (by rfl) ?_ (by assumption) ?_; rotate_left; (focus (intro w0 hSw; (try dsimp only at hSw); go_simp; (try with_reducible rfl))); (try simp only [Act.put, List.setIfInBounds_toArray, List.set_cons_zero, List.set_cons_succ]))
  (refine Rg.tk (i := 18) (d := 2) (v := ?_) rfl rfl (by kernel_rfl) (by kernel_rfl) (by kernel_rfl) (fun _ _ _ h => h) (by rfl) ?_ (by assumption) ?_; rotate_left; (focus (intro w0 hSw; (try dsimp only at hSw); go_simp; (try with_reducible rfl))); (try simp only [Act.put, List.setIfInBounds_toArray, List.set_cons_zero, List.set_cons_succ]))
  refine wpAnyH_done (by kernel_rfl) (NoPanic.normal ?_) _
  clear hHeld
  go_wp2_with fail
  go_ret
  exact ⟨rfl, unhide E4⟩
end Rw
end Go.Proofs.YtmlokaielemhaaaDoor
