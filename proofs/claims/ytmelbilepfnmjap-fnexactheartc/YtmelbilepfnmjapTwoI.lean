/-
  The program's contracts of two-hop neighbors: whether a set is right, its code, the map of its tuples by hops, those by one forgotten, the map's tuples in order.
-/
import Derived.Test.YtmelbilepfnmjapTwoH
import Derived.Test.YtmelbilepfnmjapSetD
import Derived.Maps.AppendAt
namespace Go.Proofs.Ytmelbilepfnmjap
open Go.ChangeShapes Go.WideShapes Go.ChangeAt Go.RowKit
set_option linter.unusedVariables false
set_option linter.unusedSimpArgs false
attribute [local go_sem ↓] Go.wp_at_zero Go.wp_at_succ
namespace Tw
open W1 Tu St Mt
theorem bx_new (w : World) (m : R) (t : Nat) : Bx (w.alloc (.cells #[.int .i64 m.key, .int .i64 m.til, .int .i64 m.val] t)) w.heap.size m := by
  refine ⟨?_, ?_, ?_⟩ <;> simp [World.cell?_alloc_new]
theorem bx_lt {w : World} {b : Nat} {m : R} (h : Bx w b m) : b < w.heap.size := World.block_lt_of_cell? _ _ h.1
theorem bx_but {w w' : World} {b : Nat} {m : R} (h : Bx w b m) (hb : w'.heap[b]? = w.heap[b]?) : Bx w' b m :=
  ⟨(World.cell?_of_block (a := ⟨b, 0, none⟩) hb).trans h.1, (World.cell?_of_block (a := ⟨b, 1, none⟩) hb).trans h.2.1, (World.cell?_of_block (a := ⟨b, 2, none⟩) hb).trans h.2.2⟩
theorem om_grown {w w' : World} {b : Nat} {B : Nat} {w0 : World} (hB : Below B w0 w) (hBw : B ≤ w0.heap.size) (hb : B ≤ b) (hg : w.grownBy w' (some b)) : Below B w0 w' :=
  ⟨hg.os.trans hB.os, hg.tape.trans hB.tape, hg.output.trans hB.output, Nat.le_trans hB.size hg.size, fun k hk => (hg.block k (Nat.lt_of_lt_of_le hk (Nat.le_trans hBw hB.size)) (by intro e; cases e; omega)).trans (hB.block k hk)⟩
set_option maxRecDepth 100000 in
set_option maxHeartbeats 2000000 in
theorem areHops (a : Option Addr) (ms : List R) (cap : Nat) (w : World) (hm : ms.length ≤ 1048576) (hr : RM w a ms) :
    Calls Try.prog 57 #[.slice a ms.length cap] w fun e w' => e = .returned (.bool (twoB ms)) ∧ Below w.heap.size w w' := by
  have HR := hide hr
  clear hr
  cases hs : setB ms
  · rw [set_no hs]
    have HS := hide hs
    clear hs
    go_enter Try.func57, Try.ntmps57
    go_wp2_with fail
    refine (St.implOK _ ms cap _ hm (unhide HR)).mono ?_
    rintro e w1 ⟨rfl, b1⟩
    rw [unhide HS]
    have HB := hide b1
    clear b1
    go_wp2_with fail
    go_ret
    exact ⟨rfl, unhide HB⟩
  have HS := hide hs
  clear hs
  generalize hN : ms.length = n at *
  have HN := hide hN
  clear hN
  go_enter Try.func57, Try.ntmps57
  go_wp2_with fail
  rw [← unhide HN]
  refine (St.implOK _ ms cap _ (by have := unhide HN; omega) (unhide HR)).mono ?_
  rintro e w1 ⟨rfl, b1⟩
  rw [unhide HS]
  have HB1 := hide b1
  clear b1
  go_wp2_with fail
  rw [unhide HN]
  go_loopw [10] (fun i wr => ∃ j : Nat, j ≤ n ∧ i = .int .i64 j ∧ Hid (keysB ms j = true) ∧ Hid (Below w.heap.size w wr)) (fun i _ => n - (intOf i).toNat)
  case atStart => exact ⟨0, by omega, rfl, hide (keys_zero ms), HB1⟩
  case round =>
    obtain ⟨j, hj, rfl, hkb, hbl⟩ := hrel
    by_cases hlt : (j : Int) < (n : Int)
    · have k0 : (0 : Int) ≤ (j : Int) := by omega
      have hlen : j < ms.length := by rw [unhide HN]; omega
      obtain ⟨g, off, rfl⟩ := (unhide HR).form (by omega)
      obtain ⟨c0, c1, c2⟩ := ((unhide HR).below (unhide hbl)).at hlen
      have hbs := (unhide hbl).size
      have hbd := ok_bounds (setB_ok (unhide HS) hlen)
      have HY : Hid (okK (ms.getD j R.zero) = true → keysB ms (j + 1) = true) := hide (fun h => keys_succ hlen (unhide hkb) h)
      have HZ : Hid (okK (ms.getD j R.zero) = false → twoB ms = false) := hide (fun h => keys_no hlen h)
      generalize ms.getD j R.zero = m at *
      have HBA := hide ((unhide hbl).alloc hbs (.cells #[.int .i64 m.key, .int .i64 m.til, .int .i64 m.val] 74))
      obtain ⟨o, ho⟩ : ∃ o, okK m = o := ⟨_, rfl⟩
      have HO : Hid (hopB (m.key.tdiv 100) (m.key.tmod 100) = o) := hide ho
      rw [ho] at HY HZ
      clear ho
      go_wp2_with fail
      generalize hW : wr.alloc (.cells #[.int .i64 m.key, .int .i64 m.til, .int .i64 m.val] 74) = W0 at *
      clear hW
      refine (hopOfKey m.key _ (by omega) (by omega)).mono ?_
      rintro e w2 ⟨rfl, b2⟩
      have HB2 := hide ((unhide HBA).trans (b2.mono (unhide HBA).size))
      clear b2 c0 c1 c2
      generalize m.key.tdiv 100 = v at *
      generalize m.key.tmod 100 = u at *
      go_wp2_with fail
      refine (isHop v u _).mono ?_
      rintro e w3 ⟨rfl, b3⟩
      rw [unhide HO]
      have HB3 := hide ((unhide HB2).trans (b3.mono (unhide HB2).size))
      clear b3
      cases o
      · have HT := hide (unhide HZ rfl)
        go_wp2_with fail
        go_ret
        exact ⟨ret_bool (unhide HT).symm, unhide HB3⟩
      · have HT := hide (unhide HY rfl)
        go_wp2_with fail
        go_roundw
        case rel => exact ⟨j + 1, by omega, by go_num, HT, HB3⟩
        case measure => simp [intOf]; omega
    · obtain rfl : j = n := by omega
      have HT : Hid (twoB ms = true) := hide (by rw [keys_all (by rw [unhide HN]; exact unhide hkb)]; exact unhide HS)
      go_wp2_with fail
      go_ret
      exact ⟨ret_bool (unhide HT).symm, unhide hbl⟩
set_option maxRecDepth 100000 in
set_option maxHeartbeats 4000000 in
theorem tuplesByHop (a : Option Addr) (ms : List R) (cap : Nat) (w : World) (hok : twoB ms = true) (hr : RM w a ms) :
    Calls Try.prog 91 #[.slice a ms.length cap] w fun e w' => ∃ b, e = .returned (.map (some b)) ∧ w.heap.size ≤ b ∧ OM w' b ms.length (findT ms) ∧ Below w.heap.size w w' := by
  have HR := hide hr
  have HOK := hide hok
  have h62 := two_len hok
  clear hr hok
  have hmm := run_makeN ms.length
  have O0 : Hid (OM (w.alloc (.map #[] 0)) w.heap.size 0 (findT (ms.take 0))) := hide (om_made w)
  have P0 := hide ((Below.refl w.heap.size w).alloc (Nat.le_refl _) (.map #[] 0))
  generalize hN : ms.length = n at *
  have HN := hide hN
  clear hN
  go_enter Try.func91, Try.ntmps91
  go_wp2_with fail
  go_loopw [11] (fun i wr => ∃ j : Nat, j ≤ n ∧ i = .int .i64 j ∧ Hid (OM wr w.heap.size j (findT (ms.take j))) ∧ Hid (Below w.heap.size w wr)) (fun i _ => n - (intOf i).toNat)
  case atStart => exact ⟨0, by omega, rfl, O0, P0⟩
  case round =>
    obtain ⟨j, hj, rfl, hom, hbl⟩ := hrel
    by_cases hlt : (j : Int) < (n : Int)
    · have k0 : (0 : Int) ≤ (j : Int) := by omega
      have hlen : j < ms.length := by rw [unhide HN]; omega
      obtain ⟨g, off, rfl⟩ := (unhide HR).form (by omega)
      obtain ⟨c0, c1, c2⟩ := ((unhide HR).below (unhide hbl)).at hlen
      have HS := hide (find_snoc (two_set (unhide HOK)) hlen)
      have hbd := ok_bounds (setB_ok (two_set (unhide HOK)) hlen)
      have hbk := ok_k (two_ok (unhide HOK) _ (getD_mem hlen))
      have hsz := (unhide hbl).size
      have hlm := (unhide hom).lt
      generalize ms.getD j R.zero = m at *
      obtain ⟨key, til, val⟩ := m
      dsimp only at c0 c1 c2 hbd
      have HX : Hid (Bx (wr.alloc (.cells #[.int .i64 key, .int .i64 til, .int .i64 val] 74)) wr.heap.size ⟨key, til, val⟩) := hide (bx_new wr ⟨key, til, val⟩ _)
      have HOA := hide ((unhide hom).below ((Below.refl _ _).alloc (Nat.le_refl _) (.cells #[.int .i64 key, .int .i64 til, .int .i64 val] 74)))
      have HBA := hide ((unhide hbl).alloc hsz (.cells #[.int .i64 key, .int .i64 til, .int .i64 val] 74))
      go_wp2_with fail
      generalize hW : wr.alloc (.cells #[.int .i64 key, .int .i64 til, .int .i64 val] 74) = W0 at *
      clear hW
      generalize hB0 : wr.heap.size = B0 at *
      clear hB0
      refine wp_region_noPanic ?_
      refine wp_region_held_drew (S := fun w' => Bx w' B0 ⟨key, til, val⟩ ∧ w'.cell? ⟨B0, 0, none⟩ = some (.int .i64 key) ∧ w'.cell? ⟨B0, 1, none⟩ = some (.int .i64 til) ∧ w'.cell? ⟨B0, 2, none⟩ = some (.int .i64 val)) (by kernel_rfl) (sBox (unhide HX).drew) (fun hHeld => ?_)
      (refine Rg.tk (i := 0) (d := 15) (v := ?_) rfl rfl (by kernel_rfl) (by kernel_rfl) (by kernel_rfl) (fun _ _ _ h => h) (by rfl) ?_ (by assumption) ?_; rotate_left; (focus (intro w0 hSw; (try dsimp only at hSw); go_simp; (try with_reducible rfl))); (try simp only [Act.put, List.setIfInBounds_toArray, List.set_cons_zero, List.set_cons_succ]))
      (refine Rg.tk (i := 1) (d := 16) (v := ?_) rfl rfl (by kernel_rfl) (by kernel_rfl) (by kernel_rfl) (fun _ _ _ h => h) (by rfl) ?_ (by assumption) ?_; rotate_left; (focus (intro w0 hSw; (try dsimp only at hSw); go_simp; (try with_reducible rfl))); (try simp only [Act.put, List.setIfInBounds_toArray, List.set_cons_zero, List.set_cons_succ]))
      (refine Rg.tk (i := 2) (d := 17) (v := ?_) rfl rfl (by kernel_rfl) (by kernel_rfl) (by kernel_rfl) (fun _ _ _ h => h) (by rfl) ?_ (by assumption) ?_; rotate_left; (focus (intro w0 hSw; (try dsimp only at hSw); go_simp; (try with_reducible rfl))); (try simp only [Act.put, List.setIfInBounds_toArray, List.set_cons_zero, List.set_cons_succ]))
      (refine Rg.tk (i := 4) (d := 19) (v := ?_) rfl rfl (by kernel_rfl) (by kernel_rfl) (by kernel_rfl) (fun _ _ _ h => h) (by rfl) ?_ (by assumption) ?_; rotate_left; (focus (intro w0 hSw; (try dsimp only at hSw); go_simp; (try with_reducible rfl))); (try simp only [Act.put, List.setIfInBounds_toArray, List.set_cons_zero, List.set_cons_succ]))
      (refine wpAnyH_ready (rs := [3]) (by kernel_rfl) (by simp) ?_; refine AllReadyH.cons (o := _) rfl (fun K hK => ?_) AllReadyH.nil; go_simp)
      refine (hopOfKey key _ (by omega) (by omega)).mono ?_
      rintro e w2 ⟨rfl, b2_⟩
      have b2 : Below W0.heap.size W0 w2 := (Below.refl _ _).drew.trans b2_
      have HX2 := hide ((unhide HX).below b2)
      have HO2 := hide ((unhide HOA).below b2)
      have HB2 := hide ((unhide HBA).trans (b2.mono (unhide HBA).size))
      clear b2 b2_ hHeld
      refine hK.out _ _ (sBox (unhide HX2)) (fun hHeld => ?_)
      clear hK K
      (try simp only [Act.put, List.setIfInBounds_toArray, List.set_cons_zero, List.set_cons_succ])
      (refine wpAnyH_ready (rs := [5]) (by kernel_rfl) (by simp) ?_; refine AllReadyH.cons (o := _) rfl (fun K hK => ?_) AllReadyH.nil; rw [if_pos (by rfl)])
      refine wp_put _ _ _ _ rfl rfl w.heap.size j _ rfl (unhide HO2) (by unfold maxLen; omega) (key.tdiv 100) (key.tmod 100) (WalkArith.wf_i64 ⟨by unfold hv at hbk; dsimp only at hbk; omega, by unfold hv at hbk; dsimp only at hbk; omega⟩) (WalkArith.wf_i64 ⟨by unfold ha at hbk; dsimp only at hbk; omega, by unfold ha at hbk; dsimp only at hbk; omega⟩) ⟨key, til, val⟩ rfl rfl ?_
      intro w6 om6 g6
      have HO6 : Hid (OM w6 w.heap.size (j + 1) (findT (ms.take (j + 1)))) := hide ((unhide HS) ▸ om6)
      have HX6 := hide (bx_but (unhide HX2) (g6.block B0 (bx_lt (unhide HX2)) (by intro e; cases e; omega)))
      have HB6 := hide (om_grown (unhide HB2) (Nat.le_refl _) (Nat.le_refl _) g6)
      clear om6 g6 hHeld
      refine hK.out _ _ (sBox (unhide HX6)) (fun hHeld => ?_)
      clear hK K hHeld
      (try simp only [Act.put, List.setIfInBounds_toArray, List.set_cons_zero, List.set_cons_succ])
      refine wpAnyH_done (by kernel_rfl) (NoPanic.normal ?_) _
      go_wp2_with fail
      go_roundw
      case rel => exact ⟨j + 1, by omega, by go_num, HO6, HB6⟩
      case measure => simp [intOf]; omega
    · obtain rfl : j = n := by omega
      have e : ms.take j = ms := List.take_of_length_le (by rw [unhide HN]; exact Nat.le_refl _)
      rw [e] at hom
      go_wp2_with fail
      go_ret
      exact ⟨_, rfl, Nat.le_refl _, unhide hom, unhide hbl⟩
end Tw
end Go.Proofs.Ytmelbilepfnmjap
