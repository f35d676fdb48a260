/-
  Proved here: for all slices of bytes, laws.FnStrict returns true (strict two-hop neighbors are reached by some willing symmetric one, and are none themselves) and leaves the slices as they were. No condition. (The walk is written by mkfnstrict.py.)
-/
import Derived.Test.YtpknahhdapmcoacTwoY
import Derived.Test.YtpknahhdapmcoacTwoB
import Derived.Test.YtpknahhdapmcoacLnkJ
import Derived.Test.YtpknahhdapmcoacAt
import Derived.Deep.QuietTactic
import Derived.BigQuiet
namespace Go.Proofs.Ytpknahhdapmcoac.fnStrict
open Go.ChangeShapes Go.WideShapes Go.ChangeAt Go.RowKit
open W1 By Sr Tw
set_option linter.unusedVariables false
set_option linter.unusedSimpArgs false
attribute [local go_sem ↓] Go.wp_at_zero Go.wp_at_succ
theorem own : ownKnob Try.prog.godebug = none := by kernel_rfl
theorem laidOut : laidOutB Try.prog = true := by kernel_rfl
theorem below_dN {w : World} (q : Nat) : Below w.heap.size w (w.drewN q) := ⟨rfl, rfl, rfl, Nat.le_refl _, fun _ _ => rfl⟩
theorem reads_under {w w' : World} {a : Option Addr} {bs : List UInt8} (h : Reads w a bs) (hb : Below w.heap.size w w') : Reads w' a bs := by
  rcases h with h | ⟨g, off, e, hc⟩
  · exact .inl h
  · exact .inr ⟨g, off, e, fun i hi => (hb.cell (p := ⟨g, off + i, none⟩) (World.block_lt_of_cell? _ _ (hc i hi))).trans (hc i hi)⟩
set_option maxRecDepth 100000 in
set_option maxHeartbeats 16000000 in
theorem walk (a : Option Addr) (bs : List UInt8) (cap : Nat) (hm0 : bs.length ≤ maxLen) (a' : Option Addr) (bs' : List UInt8) (cap' : Nat) (hm0' : bs'.length ≤ maxLen) (w : World) (hr : Reads w a bs) (hr' : Reads w a' bs') :
    Calls Try.prog 3 #[.slice a bs.length cap, .slice a' bs'.length cap'] w fun e w' => e = .returned (.bool true) ∧ Below w.heap.size w w' := by
  unfold maxLen at hm0 hm0'
  by_cases hb : (1048576 : Int) < bs.length
  · go_enter Try.func3, Try.ntmps3
    go_wp2
    go_ret
    exact ⟨rfl, Below.refl _ _⟩
  by_cases hb' : (1048576 : Int) < bs'.length
  · go_enter Try.func3, Try.ntmps3
    go_wp2
    go_ret
    exact ⟨rfl, Below.refl _ _⟩
  have hbm : bs.length ≤ 1048576 := by omega
  have hbm' : bs'.length ≤ 1048576 := by omega
  have HR := hide hr
  have HR' := hide hr'
  clear hr hr'
  go_enter Try.func3, Try.ntmps3
  go_wp2_with fail
  refine (twoDrawn a bs cap _ hbm (unhide HR)).mono ?_
  rintro e w1 ⟨g, ms, c, rfl, hsm, hl1, b1⟩
  have HSM := hide hsm
  have L1 := hide hl1
  have hl62 := two_len hsm.1
  have B1 := hide b1
  clear hsm hl1 b1
  go_wp2_with fail
  refine (Ln.linksOfS a' bs' cap' _ hbm' (reads_under (unhide HR') (unhide B1))).mono ?_
  rintro e w2 ⟨gl, ls, cl, rfl, hok, hl2, b2, hsl⟩
  have hl8 := Ln.links_len hok
  have S2 : Hid (St2 w w1 w2 g gl w2 ms ls) := hide ⟨(unhide L1).below b2, hl2, (unhide B1).trans (b2.mono (unhide B1).size), (unhide B1).size, b2.size⟩
  have J0 := hide (lsj_zero hok hsl)
  have T0 := hide (smj_zero (unhide HSM))
  clear hok hl2 b2 hsl L1 B1 HSM
  generalize hN : ms.length = n at *
  have HN := hide hN
  generalize hM : ls.length = nl at *
  have HM := hide hM
  clear hN hM
  go_wp2_with fail
  go_loopw [7] (fun i wr => ∃ (j : Nat) (ms' : List Tu.R), j ≤ n ∧ i = .int .i64 (j : Int) ∧ ms'.length = n ∧ Hid (SmJ ms' j) ∧ Hid (St2 w w1 w2 g gl wr ms' ls)) (fun i _ => n - (intOf i).toNat)
  case atStart => exact ⟨0, ms, by omega, rfl, unhide HN, T0, S2⟩
  case round =>
    obtain ⟨j, ms', hj, rfl, hln, hsj, hst⟩ := hrel
    have HLN := hide hln
    clear hln
    by_cases hlt : (j : Int) < (n : Int)
    · have k0 : (0 : Int) ≤ (j : Int) := by omega
      have hlen : j < ms'.length := by rw [unhide HLN]; omega
      obtain ⟨c1, f1⟩ := (unhide hst).cellT hlen
      have htb := (unhide hsj).2 j (Nat.le_refl _) hlen
      have HS' := hide ((unhide hst).til hlen ((ms'.getD j Tu.R.zero).til + 20))
      have HJ' := hide (smj_step (unhide hsj) hlen)
      have HL' : Hid ((ms'.set j ⟨(ms'.getD j Tu.R.zero).key, (ms'.getD j Tu.R.zero).til + 20, (ms'.getD j Tu.R.zero).val⟩).length = n) := hide (by rw [List.length_set]; exact unhide HLN)
      generalize ms'.set j ⟨(ms'.getD j Tu.R.zero).key, (ms'.getD j Tu.R.zero).til + 20, (ms'.getD j Tu.R.zero).val⟩ = ms'' at *
      generalize (ms'.getD j Tu.R.zero).til = til at *
      go_wp2_with fail
      go_roundw
      case rel => exact ⟨j + 1, ms'', by omega, by go_num, unhide HL', HJ', HS'⟩
      case measure => simp [intOf]; omega
    · obtain rfl : n = j := by omega
      have HTW : Hid (twoB ms' = true) := hide (unhide hsj).1
      clear hsj
      go_wp2_with fail

      go_loopw [8] (fun i wr => ∃ (j : Nat) (ls' : List Lk.R), j ≤ nl ∧ i = .int .i64 (j : Int) ∧ ls'.length = nl ∧ Hid (LsJ ls' j) ∧ Hid (St2 w w1 w2 g gl wr ms' ls')) (fun i _ => nl - (intOf i).toNat)
      case atStart => exact ⟨0, ls, by omega, rfl, unhide HM, J0, hst⟩
      case round =>
        obtain ⟨j, ls', hj, rfl, hlm, hsj, hst⟩ := hrel
        have HLM := hide hlm
        clear hlm
        by_cases hlt : (j : Int) < (nl : Int)
        · have k0 : (0 : Int) ≤ (j : Int) := by omega
          have hlen : j < ls'.length := by rw [unhide HLM]; omega
          obtain ⟨cc, ff⟩ := (unhide hst).cellL hlen
          have hbd := (unhide hsj).2 j (Nat.le_refl _) hlen
          have hwl := Ln.ok_wl (Ri.all_ok (unhide hsj).1 hlen)
          obtain ⟨m, hm⟩ : ∃ m, ls'.getD j Lk.R.zero = m := ⟨_, rfl⟩
          rw [hm] at cc hbd hwl
          obtain ⟨ad, hd, sy, ci, co, wl⟩ := m
          have HMM := hide hm
          obtain ⟨c0, c1, c2, c3, c4, c5⟩ := cc
          dsimp only at c0 c1 c2 c3 c4 c5 hbd hwl
          have f1 := ff 1 (by omega)
          have HS1 := hide ((unhide hst).hd' hlen hm (hd + 20))
          have HFIN : Hid (∀ (sy' wl' : Int), 0 ≤ sy' → sy' < 50 → 0 ≤ wl' → wl' ≤ 7 → LsJ (ls'.set j ⟨ad, hd + 20, sy', ci, co, wl'⟩) (j + 1)) := hide (fun sy' wl' h1 h2 h3 h4 => lsj_step (unhide hsj) hlen (by rw [hm]) ⟨by dsimp only; omega, by dsimp only; omega⟩ ⟨h1, h2⟩ (by rw [hm]) (by rw [hm]) ⟨h3, h4⟩)
          have HLL : Hid (∀ X : Lk.R, (ls'.set j X).length = nl) := hide (fun X => by rw [List.length_set]; exact unhide HLM)
          clear ff hm
          go_wp2_with fail
          clear c0 c1 c2 c3 c4 c5 f1
          have HSV := hide (unhide HS1).drew
          have BV : Hid (Below w.heap.size w (wr.setCell ⟨gl, j * 6 + 1, none⟩ (.int .i64 (hd + 20))).drew) := hide (unhide HSV).bel
          refine wp_region_noPanic ?_
          refine wp_region_held_drew (S := fun _ => True) (by kernel_rfl) trivial (fun hHeld => ?_)
          generalize hV : (wr.setCell ⟨gl, j * 6 + 1, none⟩ (.int .i64 (hd + 20))).drew = V at *
          clear hV HS1
          obtain ⟨cc, ff⟩ := (unhide HSV).cell' hlen
          have cS := cc.2.2.1
          clear cc ff
          dsimp only at cS
          (refine Rg.tk (i := 0) (d := 64) (v := ?_) rfl rfl (by kernel_rfl) (by kernel_rfl) (by kernel_rfl) (fun _ _ _ h => h) (by rfl) ?_ (by assumption) ?_; rotate_left; (focus (intro w0 hSw; (try dsimp only at hSw); go_simp; (try with_reducible rfl))); (try simp only [Act.put, List.setIfInBounds_toArray, List.set_cons_zero, List.set_cons_succ]))
          (refine Rg.tk (i := 1) (d := 65) (v := ?_) rfl rfl (by kernel_rfl) (by kernel_rfl) (by kernel_rfl) (fun _ _ _ h => h) (by rfl) ?_ (by assumption) ?_; rotate_left; (focus (intro w0 hSw; (try dsimp only at hSw); go_simp; (try with_reducible rfl))); (try simp only [Act.put, List.setIfInBounds_toArray, List.set_cons_zero, List.set_cons_succ]))
          (refine Rg.tk (i := 2) (d := 66) (v := ?_) rfl rfl (by kernel_rfl) (by kernel_rfl) (by kernel_rfl) (fun _ _ _ h => h) (by rfl) ?_ (by assumption) ?_; rotate_left; (focus (intro w0 hSw; (try dsimp only at hSw); go_simp; (try with_reducible rfl))); (try simp only [Act.put, List.setIfInBounds_toArray, List.set_cons_zero, List.set_cons_succ]))
          (refine Rg.tk (i := 3) (d := 67) (v := ?_) rfl rfl (by kernel_rfl) (by kernel_rfl) (by kernel_rfl) (fun _ _ _ h => h) (by rfl) ?_ (by assumption) ?_; rotate_left; (focus (intro w0 hSw; (try dsimp only at hSw); go_simp; (try with_reducible rfl))); (try simp only [Act.put, List.setIfInBounds_toArray, List.set_cons_zero, List.set_cons_succ]))
          (refine Rg.tk (i := 5) (d := 69) (v := ?_) rfl rfl (by kernel_rfl) (by kernel_rfl) (by kernel_rfl) (fun _ _ _ h => h) (by rfl) ?_ (by assumption) ?_; rotate_left; (focus (intro w0 hSw; (try dsimp only at hSw); go_simp; (try with_reducible rfl))); (try simp only [Act.put, List.setIfInBounds_toArray, List.set_cons_zero, List.set_cons_succ]))
          (refine Rg.tk (i := 6) (d := 70) (v := ?_) rfl rfl (by kernel_rfl) (by kernel_rfl) (by kernel_rfl) (fun _ _ _ h => h) (by rfl) ?_ (by assumption) ?_; rotate_left; (focus (intro w0 hSw; (try dsimp only at hSw); go_simp; (try with_reducible rfl))); (try simp only [Act.put, List.setIfInBounds_toArray, List.set_cons_zero, List.set_cons_succ]))
          (refine wpAnyH_ready (rs := [4, 7]) (by kernel_rfl) (by simp) ?_; refine AllReadyH.cons (o := _) rfl (fun K hK => ?_) (AllReadyH.cons (o := _) rfl (fun K hK => ?_) (AllReadyH.nil)))
          · skip
            go_simp
            clear hHeld
            refine hK.out _ _ trivial (fun hHeld => ?_)
            clear hK K
            (try simp only [Act.put, List.setIfInBounds_toArray, List.set_cons_zero, List.set_cons_succ])
            (refine wpAnyH_ready (rs := [7]) (by kernel_rfl) (by simp) ?_; refine AllReadyH.cons (o := _) rfl (fun K hK => ?_) AllReadyH.nil; go_simp)
            refine (Go.Proofs.Ytpknahhdapmcoac.At.choice a' bs' cap' j 3 _ (by omega) (by omega) (by omega) hbm' (reads_under (unhide HR') (unhide BV))).mono ?_
            rintro e v1 ⟨r1, rfl, hr1, qr1, hqr1⟩
            have bv1 : Below V.heap.size V v1 := by rw [hqr1]; exact below_dN _
            have HSa := hide ((unhide HSV).below bv1)
            have hri1 : (r1 : Int) ≤ 2 := by omega
            clear bv1 hqr1
            obtain ⟨cc, ff⟩ := (unhide HSa).cell' hlen
            clear cS
            have cS := cc.2.2.1
            have fS := ff 2 (by omega)
            clear cc ff
            dsimp only at cS
            clear hHeld
            refine hK.out _ _ trivial (fun hHeld => ?_)
            clear hK K
            (try simp only [Act.put, List.setIfInBounds_toArray, List.set_cons_zero, List.set_cons_succ])
            have wr1 : IntKind.i64.wrap ((r1 : Int) * 10) = (r1 : Int) * 10 := by rw [IntKind.wrap_i64]; omega
            (refine Rg.tk (i := 8) (d := 72) (v := ?_) rfl rfl (by kernel_rfl) (by kernel_rfl) (by kernel_rfl) (fun _ _ _ h => h) (by rfl) ?_ (by assumption) ?_; rotate_left; (focus (intro w0 hSw; (try dsimp only at hSw); go_simp; (try with_reducible rfl))); (try simp only [Act.put, List.setIfInBounds_toArray, List.set_cons_zero, List.set_cons_succ]))
            have wr2 : IntKind.i64.wrap (sy + (r1 : Int) * 10) = sy + (r1 : Int) * 10 := by rw [IntKind.wrap_i64]; omega
            (refine Rg.tk (i := 9) (d := 73) (v := ?_) rfl rfl (by kernel_rfl) (by kernel_rfl) (by kernel_rfl) (fun _ _ _ h => h) (by rfl) ?_ (by assumption) ?_; rotate_left; (focus (intro w0 hSw; (try dsimp only at hSw); go_simp; (try with_reducible rfl))); (try simp only [Act.put, List.setIfInBounds_toArray, List.set_cons_zero, List.set_cons_succ]))
            (refine Rg.tk (i := 10) (d := 74) (v := ?_) rfl rfl (by kernel_rfl) (by kernel_rfl) (by kernel_rfl) (fun _ _ _ h => h) (by rfl) ?_ (by assumption) ?_; rotate_left; (focus (intro w0 hSw; (try dsimp only at hSw); go_simp; (try with_reducible rfl))); (try simp only [Act.put, List.setIfInBounds_toArray, List.set_cons_zero, List.set_cons_succ]))
            (refine Rg.tk (i := 11) (d := 75) (v := ?_) rfl rfl (by kernel_rfl) (by kernel_rfl) (by kernel_rfl) (fun _ _ _ h => h) (by rfl) ?_ (by assumption) ?_; rotate_left; (focus (intro w0 hSw; (try dsimp only at hSw); go_simp; (try with_reducible rfl))); (try simp only [Act.put, List.setIfInBounds_toArray, List.set_cons_zero, List.set_cons_succ]))
            (refine wpAnyH_ready (rs := [12]) (by kernel_rfl) (by simp) ?_; refine AllReadyH.cons (o := _) rfl (fun K hK => ?_) AllReadyH.nil; go_simp)
            have HSb := hide ((unhide HSa).sy' hlen (sy + (r1 : Int) * 10))
            clear hHeld
            refine hK.out _ _ trivial (fun hHeld => ?_)
            clear hK K
            (try simp only [Act.put, List.setIfInBounds_toArray, List.set_cons_zero, List.set_cons_succ])
            refine wpAnyH_done (by kernel_rfl) (NoPanic.normal ?_) _
            clear hHeld
            have HSU := hide (unhide HSb).drew
            go_wp2_with fail
            refine wp_region_noPanic ?_
            refine wp_region_held_drew (S := fun _ => True) (by kernel_rfl) trivial (fun hHeld => ?_)
            generalize hU : (v1.setCell ⟨gl, j * 6 + 2, none⟩ (.int .i64 (sy + (r1 : Int) * 10))).drew = U at *
            clear hU HSb
            have BU : Hid (Below w.heap.size w U) := hide (unhide HSU).bel
            obtain ⟨cc, ff⟩ := (unhide HSU).cell' hlen
            have cW := cc.2.2.2.2.2
            clear cc ff
            dsimp only at cW
            (refine Rg.tk (i := 0) (d := 76) (v := ?_) rfl rfl (by kernel_rfl) (by kernel_rfl) (by kernel_rfl) (fun _ _ _ h => h) (by rfl) ?_ (by assumption) ?_; rotate_left; (focus (intro w0 hSw; (try dsimp only at hSw); go_simp; (try with_reducible rfl))); (try simp only [Act.put, List.setIfInBounds_toArray, List.set_cons_zero, List.set_cons_succ]))
            (refine Rg.tk (i := 1) (d := 77) (v := ?_) rfl rfl (by kernel_rfl) (by kernel_rfl) (by kernel_rfl) (fun _ _ _ h => h) (by rfl) ?_ (by assumption) ?_; rotate_left; (focus (intro w0 hSw; (try dsimp only at hSw); go_simp; (try with_reducible rfl))); (try simp only [Act.put, List.setIfInBounds_toArray, List.set_cons_zero, List.set_cons_succ]))
            (refine Rg.tk (i := 2) (d := 78) (v := ?_) rfl rfl (by kernel_rfl) (by kernel_rfl) (by kernel_rfl) (fun _ _ _ h => h) (by rfl) ?_ (by assumption) ?_; rotate_left; (focus (intro w0 hSw; (try dsimp only at hSw); go_simp; (try with_reducible rfl))); (try simp only [Act.put, List.setIfInBounds_toArray, List.set_cons_zero, List.set_cons_succ]))
            (refine Rg.tk (i := 3) (d := 79) (v := ?_) rfl rfl (by kernel_rfl) (by kernel_rfl) (by kernel_rfl) (fun _ _ _ h => h) (by rfl) ?_ (by assumption) ?_; rotate_left; (focus (intro w0 hSw; (try dsimp only at hSw); go_simp; (try with_reducible rfl))); (try simp only [Act.put, List.setIfInBounds_toArray, List.set_cons_zero, List.set_cons_succ]))
            (refine Rg.tk (i := 4) (d := 80) (v := ?_) rfl rfl (by kernel_rfl) (by kernel_rfl) (by kernel_rfl) (fun _ _ _ h => h) (by rfl) ?_ (by assumption) ?_; rotate_left; (focus (intro w0 hSw; (try dsimp only at hSw); go_simp; (try with_reducible rfl))); (try simp only [Act.put, List.setIfInBounds_toArray, List.set_cons_zero, List.set_cons_succ]))
            (refine Rg.tk (i := 5) (d := 81) (v := ?_) rfl rfl (by kernel_rfl) (by kernel_rfl) (by kernel_rfl) (fun _ _ _ h => h) (by rfl) ?_ (by assumption) ?_; rotate_left; (focus (intro w0 hSw; (try dsimp only at hSw); go_simp; (try with_reducible rfl))); (try simp only [Act.put, List.setIfInBounds_toArray, List.set_cons_zero, List.set_cons_succ]))
            (refine Rg.tk (i := 7) (d := 83) (v := ?_) rfl rfl (by kernel_rfl) (by kernel_rfl) (by kernel_rfl) (fun _ _ _ h => h) (by rfl) ?_ (by assumption) ?_; rotate_left; (focus (intro w0 hSw; (try dsimp only at hSw); go_simp; (try with_reducible rfl))); (try simp only [Act.put, List.setIfInBounds_toArray, List.set_cons_zero, List.set_cons_succ]))
            (refine Rg.tk (i := 8) (d := 84) (v := ?_) rfl rfl (by kernel_rfl) (by kernel_rfl) (by kernel_rfl) (fun _ _ _ h => h) (by rfl) ?_ (by assumption) ?_; rotate_left; (focus (intro w0 hSw; (try dsimp only at hSw); go_simp; (try with_reducible rfl))); (try simp only [Act.put, List.setIfInBounds_toArray, List.set_cons_zero, List.set_cons_succ]))
            (refine wpAnyH_ready (rs := [6, 9]) (by kernel_rfl) (by simp) ?_; refine AllReadyH.cons (o := _) rfl (fun K hK => ?_) (AllReadyH.cons (o := _) rfl (fun K hK => ?_) (AllReadyH.nil)))
            · skip
              go_simp
              clear hHeld
              refine hK.out _ _ trivial (fun hHeld => ?_)
              clear hK K
              (try simp only [Act.put, List.setIfInBounds_toArray, List.set_cons_zero, List.set_cons_succ])
              (refine wpAnyH_ready (rs := [9]) (by kernel_rfl) (by simp) ?_; refine AllReadyH.cons (o := _) rfl (fun K hK => ?_) AllReadyH.nil; go_simp)
              refine (Go.Proofs.Ytpknahhdapmcoac.At.choice a bs cap j 3 _ (by omega) (by omega) (by omega) hbm (reads_under (unhide HR) (unhide BU))).mono ?_
              rintro e u1 ⟨r2, rfl, hr2, qr2, hqr2⟩
              have bu1 : Below U.heap.size U u1 := by rw [hqr2]; exact below_dN _
              have HSc := hide ((unhide HSU).below bu1)
              have hri2 : (r2 : Int) ≤ 2 := by omega
              clear bu1 hqr2
              obtain ⟨cc, ff⟩ := (unhide HSc).cell' hlen
              clear cW
              have cW := cc.2.2.2.2.2
              have fW := ff 5 (by omega)
              clear cc ff
              dsimp only at cW
              clear hHeld
              refine hK.out _ _ trivial (fun hHeld => ?_)
              clear hK K
              (try simp only [Act.put, List.setIfInBounds_toArray, List.set_cons_zero, List.set_cons_succ])
              have wr3 : IntKind.i64.wrap (wl + (r2 : Int)) = wl + (r2 : Int) := by rw [IntKind.wrap_i64]; omega
              have e8 : (wl + (r2 : Int)).tmod 8 = (wl + (r2 : Int)) % 8 := Int.tmod_eq_emod_of_nonneg (by omega)
              (refine Rg.tk (i := 10) (d := 86) (v := ?_) rfl rfl (by kernel_rfl) (by kernel_rfl) (by kernel_rfl) (fun _ _ _ h => h) (by rfl) ?_ (by assumption) ?_; rotate_left; (focus (intro w0 hSw; (try dsimp only at hSw); go_simp; (try with_reducible rfl))); (try simp only [Act.put, List.setIfInBounds_toArray, List.set_cons_zero, List.set_cons_succ]))
              (refine Rg.tk (i := 11) (d := 87) (v := ?_) rfl rfl (by kernel_rfl) (by kernel_rfl) (by kernel_rfl) (fun _ _ _ h => h) (by rfl) ?_ (by assumption) ?_; rotate_left; (focus (intro w0 hSw; (try dsimp only at hSw); go_simp; (try with_reducible rfl))); (try simp only [Act.put, List.setIfInBounds_toArray, List.set_cons_zero, List.set_cons_succ]))
              (refine Rg.tk (i := 12) (d := 88) (v := ?_) rfl rfl (by kernel_rfl) (by kernel_rfl) (by kernel_rfl) (fun _ _ _ h => h) (by rfl) ?_ (by assumption) ?_; rotate_left; (focus (intro w0 hSw; (try dsimp only at hSw); go_simp; (try with_reducible rfl))); (try simp only [Act.put, List.setIfInBounds_toArray, List.set_cons_zero, List.set_cons_succ]))
              (refine Rg.tk (i := 13) (d := 89) (v := ?_) rfl rfl (by kernel_rfl) (by kernel_rfl) (by kernel_rfl) (fun _ _ _ h => h) (by rfl) ?_ (by assumption) ?_; rotate_left; (focus (intro w0 hSw; (try dsimp only at hSw); go_simp; (try with_reducible rfl))); (try simp only [Act.put, List.setIfInBounds_toArray, List.set_cons_zero, List.set_cons_succ]))
              (refine wpAnyH_ready (rs := [14]) (by kernel_rfl) (by simp) ?_; refine AllReadyH.cons (o := _) rfl (fun K hK => ?_) AllReadyH.nil; go_simp)
              have HSF := hide ((unhide HSc).wl' hlen ((wl + (r2 : Int)) % 8))
              clear hHeld
              refine hK.out _ _ trivial (fun hHeld => ?_)
              clear hK K
              (try simp only [Act.put, List.setIfInBounds_toArray, List.set_cons_zero, List.set_cons_succ])
              refine wpAnyH_done (by kernel_rfl) (NoPanic.normal ?_) _
              clear hHeld cW fW cS fS
              have HJ' := hide (unhide HFIN (sy + (r1 : Int) * 10) ((wl + (r2 : Int)) % 8) (by omega) (by omega) (by omega) (by omega))
              have HL' := hide (unhide HLL ⟨ad, hd + 20, sy + (r1 : Int) * 10, ci, co, (wl + (r2 : Int)) % 8⟩)
              generalize ls'.set j ⟨ad, hd + 20, sy + (r1 : Int) * 10, ci, co, (wl + (r2 : Int)) % 8⟩ = ls'' at *
              go_wp2_with fail
              go_roundw
              case rel => exact ⟨j + 1, ls'', by omega, by go_num, unhide HL', HJ', HSF⟩
              case measure => simp [intOf]; omega
            · skip
              go_simp
              refine (Go.Proofs.Ytpknahhdapmcoac.At.choice a bs cap j 3 _ (by omega) (by omega) (by omega) hbm (reads_under (unhide HR) (unhide BU))).mono ?_
              rintro e u1 ⟨r2, rfl, hr2, qr2, hqr2⟩
              have bu1 : Below U.heap.size U u1 := by rw [hqr2]; exact below_dN _
              have HSc := hide ((unhide HSU).below bu1)
              have hri2 : (r2 : Int) ≤ 2 := by omega
              clear bu1 hqr2
              obtain ⟨cc, ff⟩ := (unhide HSc).cell' hlen
              clear cW
              have cW := cc.2.2.2.2.2
              have fW := ff 5 (by omega)
              clear cc ff
              dsimp only at cW
              clear hHeld
              refine hK.out _ _ trivial (fun hHeld => ?_)
              clear hK K
              (try simp only [Act.put, List.setIfInBounds_toArray, List.set_cons_zero, List.set_cons_succ])
              (refine wpAnyH_ready (rs := [6]) (by kernel_rfl) (by simp) ?_; refine AllReadyH.cons (o := _) rfl (fun K hK => ?_) AllReadyH.nil; go_simp)
              clear hHeld
              refine hK.out _ _ trivial (fun hHeld => ?_)
              clear hK K
              (try simp only [Act.put, List.setIfInBounds_toArray, List.set_cons_zero, List.set_cons_succ])
              have wr3 : IntKind.i64.wrap (wl + (r2 : Int)) = wl + (r2 : Int) := by rw [IntKind.wrap_i64]; omega
              have e8 : (wl + (r2 : Int)).tmod 8 = (wl + (r2 : Int)) % 8 := Int.tmod_eq_emod_of_nonneg (by omega)
              (refine Rg.tk (i := 10) (d := 86) (v := ?_) rfl rfl (by kernel_rfl) (by kernel_rfl) (by kernel_rfl) (fun _ _ _ h => h) (by rfl) ?_ (by assumption) ?_; rotate_left; (focus (intro w0 hSw; (try dsimp only at hSw); go_simp; (try with_reducible rfl))); (try simp only [Act.put, List.setIfInBounds_toArray, List.set_cons_zero, List.set_cons_succ]))
              (refine Rg.tk (i := 11) (d := 87) (v := ?_) rfl rfl (by kernel_rfl) (by kernel_rfl) (by kernel_rfl) (fun _ _ _ h => h) (by rfl) ?_ (by assumption) ?_; rotate_left; (focus (intro w0 hSw; (try dsimp only at hSw); go_simp; (try with_reducible rfl))); (try simp only [Act.put, List.setIfInBounds_toArray, List.set_cons_zero, List.set_cons_succ]))
              (refine Rg.tk (i := 12) (d := 88) (v := ?_) rfl rfl (by kernel_rfl) (by kernel_rfl) (by kernel_rfl) (fun _ _ _ h => h) (by rfl) ?_ (by assumption) ?_; rotate_left; (focus (intro w0 hSw; (try dsimp only at hSw); go_simp; (try with_reducible rfl))); (try simp only [Act.put, List.setIfInBounds_toArray, List.set_cons_zero, List.set_cons_succ]))
              (refine Rg.tk (i := 13) (d := 89) (v := ?_) rfl rfl (by kernel_rfl) (by kernel_rfl) (by kernel_rfl) (fun _ _ _ h => h) (by rfl) ?_ (by assumption) ?_; rotate_left; (focus (intro w0 hSw; (try dsimp only at hSw); go_simp; (try with_reducible rfl))); (try simp only [Act.put, List.setIfInBounds_toArray, List.set_cons_zero, List.set_cons_succ]))
              (refine wpAnyH_ready (rs := [14]) (by kernel_rfl) (by simp) ?_; refine AllReadyH.cons (o := _) rfl (fun K hK => ?_) AllReadyH.nil; go_simp)
              have HSF := hide ((unhide HSc).wl' hlen ((wl + (r2 : Int)) % 8))
              clear hHeld
              refine hK.out _ _ trivial (fun hHeld => ?_)
              clear hK K
              (try simp only [Act.put, List.setIfInBounds_toArray, List.set_cons_zero, List.set_cons_succ])
              refine wpAnyH_done (by kernel_rfl) (NoPanic.normal ?_) _
              clear hHeld cW fW cS fS
              have HJ' := hide (unhide HFIN (sy + (r1 : Int) * 10) ((wl + (r2 : Int)) % 8) (by omega) (by omega) (by omega) (by omega))
              have HL' := hide (unhide HLL ⟨ad, hd + 20, sy + (r1 : Int) * 10, ci, co, (wl + (r2 : Int)) % 8⟩)
              generalize ls'.set j ⟨ad, hd + 20, sy + (r1 : Int) * 10, ci, co, (wl + (r2 : Int)) % 8⟩ = ls'' at *
              go_wp2_with fail
              go_roundw
              case rel => exact ⟨j + 1, ls'', by omega, by go_num, unhide HL', HJ', HSF⟩
              case measure => simp [intOf]; omega
          · skip
            go_simp
            refine (Go.Proofs.Ytpknahhdapmcoac.At.choice a' bs' cap' j 3 _ (by omega) (by omega) (by omega) hbm' (reads_under (unhide HR') (unhide BV))).mono ?_
            rintro e v1 ⟨r1, rfl, hr1, qr1, hqr1⟩
            have bv1 : Below V.heap.size V v1 := by rw [hqr1]; exact below_dN _
            have HSa := hide ((unhide HSV).below bv1)
            have hri1 : (r1 : Int) ≤ 2 := by omega
            clear bv1 hqr1
            obtain ⟨cc, ff⟩ := (unhide HSa).cell' hlen
            clear cS
            have cS := cc.2.2.1
            have fS := ff 2 (by omega)
            clear cc ff
            dsimp only at cS
            clear hHeld
            refine hK.out _ _ trivial (fun hHeld => ?_)
            clear hK K
            (try simp only [Act.put, List.setIfInBounds_toArray, List.set_cons_zero, List.set_cons_succ])
            have wr1 : IntKind.i64.wrap ((r1 : Int) * 10) = (r1 : Int) * 10 := by rw [IntKind.wrap_i64]; omega
            (refine Rg.tk (i := 8) (d := 72) (v := ?_) rfl rfl (by kernel_rfl) (by kernel_rfl) (by kernel_rfl) (fun _ _ _ h => h) (by rfl) ?_ (by assumption) ?_; rotate_left; (focus (intro w0 hSw; (try dsimp only at hSw); go_simp; (try with_reducible rfl))); (try simp only [Act.put, List.setIfInBounds_toArray, List.set_cons_zero, List.set_cons_succ]))
            (refine wpAnyH_ready (rs := [4]) (by kernel_rfl) (by simp) ?_; refine AllReadyH.cons (o := _) rfl (fun K hK => ?_) AllReadyH.nil; go_simp)
            clear hHeld
            refine hK.out _ _ trivial (fun hHeld => ?_)
            clear hK K
            (try simp only [Act.put, List.setIfInBounds_toArray, List.set_cons_zero, List.set_cons_succ])
            have wr2 : IntKind.i64.wrap (sy + (r1 : Int) * 10) = sy + (r1 : Int) * 10 := by rw [IntKind.wrap_i64]; omega
            (refine Rg.tk (i := 9) (d := 73) (v := ?_) rfl rfl (by kernel_rfl) (by kernel_rfl) (by kernel_rfl) (fun _ _ _ h => h) (by rfl) ?_ (by assumption) ?_; rotate_left; (focus (intro w0 hSw; (try dsimp only at hSw); go_simp; (try with_reducible rfl))); (try simp only [Act.put, List.setIfInBounds_toArray, List.set_cons_zero, List.set_cons_succ]))
            (refine Rg.tk (i := 10) (d := 74) (v := ?_) rfl rfl (by kernel_rfl) (by kernel_rfl) (by kernel_rfl) (fun _ _ _ h => h) (by rfl) ?_ (by assumption) ?_; rotate_left; (focus (intro w0 hSw; (try dsimp only at hSw); go_simp; (try with_reducible rfl))); (try simp only [Act.put, List.setIfInBounds_toArray, List.set_cons_zero, List.set_cons_succ]))
            (refine Rg.tk (i := 11) (d := 75) (v := ?_) rfl rfl (by kernel_rfl) (by kernel_rfl) (by kernel_rfl) (fun _ _ _ h => h) (by rfl) ?_ (by assumption) ?_; rotate_left; (focus (intro w0 hSw; (try dsimp only at hSw); go_simp; (try with_reducible rfl))); (try simp only [Act.put, List.setIfInBounds_toArray, List.set_cons_zero, List.set_cons_succ]))
            (refine wpAnyH_ready (rs := [12]) (by kernel_rfl) (by simp) ?_; refine AllReadyH.cons (o := _) rfl (fun K hK => ?_) AllReadyH.nil; go_simp)
            have HSb := hide ((unhide HSa).sy' hlen (sy + (r1 : Int) * 10))
            clear hHeld
            refine hK.out _ _ trivial (fun hHeld => ?_)
            clear hK K
            (try simp only [Act.put, List.setIfInBounds_toArray, List.set_cons_zero, List.set_cons_succ])
            refine wpAnyH_done (by kernel_rfl) (NoPanic.normal ?_) _
            clear hHeld
            have HSU := hide (unhide HSb).drew
            go_wp2_with fail
            refine wp_region_noPanic ?_
            refine wp_region_held_drew (S := fun _ => True) (by kernel_rfl) trivial (fun hHeld => ?_)
            generalize hU : (v1.setCell ⟨gl, j * 6 + 2, none⟩ (.int .i64 (sy + (r1 : Int) * 10))).drew = U at *
            clear hU HSb
            have BU : Hid (Below w.heap.size w U) := hide (unhide HSU).bel
            obtain ⟨cc, ff⟩ := (unhide HSU).cell' hlen
            have cW := cc.2.2.2.2.2
            clear cc ff
            dsimp only at cW
            (refine Rg.tk (i := 0) (d := 76) (v := ?_) rfl rfl (by kernel_rfl) (by kernel_rfl) (by kernel_rfl) (fun _ _ _ h => h) (by rfl) ?_ (by assumption) ?_; rotate_left; (focus (intro w0 hSw; (try dsimp only at hSw); go_simp; (try with_reducible rfl))); (try simp only [Act.put, List.setIfInBounds_toArray, List.set_cons_zero, List.set_cons_succ]))
            (refine Rg.tk (i := 1) (d := 77) (v := ?_) rfl rfl (by kernel_rfl) (by kernel_rfl) (by kernel_rfl) (fun _ _ _ h => h) (by rfl) ?_ (by assumption) ?_; rotate_left; (focus (intro w0 hSw; (try dsimp only at hSw); go_simp; (try with_reducible rfl))); (try simp only [Act.put, List.setIfInBounds_toArray, List.set_cons_zero, List.set_cons_succ]))
            (refine Rg.tk (i := 2) (d := 78) (v := ?_) rfl rfl (by kernel_rfl) (by kernel_rfl) (by kernel_rfl) (fun _ _ _ h => h) (by rfl) ?_ (by assumption) ?_; rotate_left; (focus (intro w0 hSw; (try dsimp only at hSw); go_simp; (try with_reducible rfl))); (try simp only [Act.put, List.setIfInBounds_toArray, List.set_cons_zero, List.set_cons_succ]))
            (refine Rg.tk (i := 3) (d := 79) (v := ?_) rfl rfl (by kernel_rfl) (by kernel_rfl) (by kernel_rfl) (fun _ _ _ h => h) (by rfl) ?_ (by assumption) ?_; rotate_left; (focus (intro w0 hSw; (try dsimp only at hSw); go_simp; (try with_reducible rfl))); (try simp only [Act.put, List.setIfInBounds_toArray, List.set_cons_zero, List.set_cons_succ]))
            (refine Rg.tk (i := 4) (d := 80) (v := ?_) rfl rfl (by kernel_rfl) (by kernel_rfl) (by kernel_rfl) (fun _ _ _ h => h) (by rfl) ?_ (by assumption) ?_; rotate_left; (focus (intro w0 hSw; (try dsimp only at hSw); go_simp; (try with_reducible rfl))); (try simp only [Act.put, List.setIfInBounds_toArray, List.set_cons_zero, List.set_cons_succ]))
            (refine Rg.tk (i := 5) (d := 81) (v := ?_) rfl rfl (by kernel_rfl) (by kernel_rfl) (by kernel_rfl) (fun _ _ _ h => h) (by rfl) ?_ (by assumption) ?_; rotate_left; (focus (intro w0 hSw; (try dsimp only at hSw); go_simp; (try with_reducible rfl))); (try simp only [Act.put, List.setIfInBounds_toArray, List.set_cons_zero, List.set_cons_succ]))
            (refine Rg.tk (i := 7) (d := 83) (v := ?_) rfl rfl (by kernel_rfl) (by kernel_rfl) (by kernel_rfl) (fun _ _ _ h => h) (by rfl) ?_ (by assumption) ?_; rotate_left; (focus (intro w0 hSw; (try dsimp only at hSw); go_simp; (try with_reducible rfl))); (try simp only [Act.put, List.setIfInBounds_toArray, List.set_cons_zero, List.set_cons_succ]))
            (refine Rg.tk (i := 8) (d := 84) (v := ?_) rfl rfl (by kernel_rfl) (by kernel_rfl) (by kernel_rfl) (fun _ _ _ h => h) (by rfl) ?_ (by assumption) ?_; rotate_left; (focus (intro w0 hSw; (try dsimp only at hSw); go_simp; (try with_reducible rfl))); (try simp only [Act.put, List.setIfInBounds_toArray, List.set_cons_zero, List.set_cons_succ]))
            (refine wpAnyH_ready (rs := [6, 9]) (by kernel_rfl) (by simp) ?_; refine AllReadyH.cons (o := _) rfl (fun K hK => ?_) (AllReadyH.cons (o := _) rfl (fun K hK => ?_) (AllReadyH.nil)))
            · skip
              go_simp
              clear hHeld
              refine hK.out _ _ trivial (fun hHeld => ?_)
              clear hK K
              (try simp only [Act.put, List.setIfInBounds_toArray, List.set_cons_zero, List.set_cons_succ])
              (refine wpAnyH_ready (rs := [9]) (by kernel_rfl) (by simp) ?_; refine AllReadyH.cons (o := _) rfl (fun K hK => ?_) AllReadyH.nil; go_simp)
              refine (Go.Proofs.Ytpknahhdapmcoac.At.choice a bs cap j 3 _ (by omega) (by omega) (by omega) hbm (reads_under (unhide HR) (unhide BU))).mono ?_
              rintro e u1 ⟨r2, rfl, hr2, qr2, hqr2⟩
              have bu1 : Below U.heap.size U u1 := by rw [hqr2]; exact below_dN _
              have HSc := hide ((unhide HSU).below bu1)
              have hri2 : (r2 : Int) ≤ 2 := by omega
              clear bu1 hqr2
              obtain ⟨cc, ff⟩ := (unhide HSc).cell' hlen
              clear cW
              have cW := cc.2.2.2.2.2
              have fW := ff 5 (by omega)
              clear cc ff
              dsimp only at cW
              clear hHeld
              refine hK.out _ _ trivial (fun hHeld => ?_)
              clear hK K
              (try simp only [Act.put, List.setIfInBounds_toArray, List.set_cons_zero, List.set_cons_succ])
              have wr3 : IntKind.i64.wrap (wl + (r2 : Int)) = wl + (r2 : Int) := by rw [IntKind.wrap_i64]; omega
              have e8 : (wl + (r2 : Int)).tmod 8 = (wl + (r2 : Int)) % 8 := Int.tmod_eq_emod_of_nonneg (by omega)
              (refine Rg.tk (i := 10) (d := 86) (v := ?_) rfl rfl (by kernel_rfl) (by kernel_rfl) (by kernel_rfl) (fun _ _ _ h => h) (by rfl) ?_ (by assumption) ?_; rotate_left; (focus (intro w0 hSw; (try dsimp only at hSw); go_simp; (try with_reducible rfl))); (try simp only [Act.put, List.setIfInBounds_toArray, List.set_cons_zero, List.set_cons_succ]))
              (refine Rg.tk (i := 11) (d := 87) (v := ?_) rfl rfl (by kernel_rfl) (by kernel_rfl) (by kernel_rfl) (fun _ _ _ h => h) (by rfl) ?_ (by assumption) ?_; rotate_left; (focus (intro w0 hSw; (try dsimp only at hSw); go_simp; (try with_reducible rfl))); (try simp only [Act.put, List.setIfInBounds_toArray, List.set_cons_zero, List.set_cons_succ]))
              (refine Rg.tk (i := 12) (d := 88) (v := ?_) rfl rfl (by kernel_rfl) (by kernel_rfl) (by kernel_rfl) (fun _ _ _ h => h) (by rfl) ?_ (by assumption) ?_; rotate_left; (focus (intro w0 hSw; (try dsimp only at hSw); go_simp; (try with_reducible rfl))); (try simp only [Act.put, List.setIfInBounds_toArray, List.set_cons_zero, List.set_cons_succ]))
              (refine Rg.tk (i := 13) (d := 89) (v := ?_) rfl rfl (by kernel_rfl) (by kernel_rfl) (by kernel_rfl) (fun _ _ _ h => h) (by rfl) ?_ (by assumption) ?_; rotate_left; (focus (intro w0 hSw; (try dsimp only at hSw); go_simp; (try with_reducible rfl))); (try simp only [Act.put, List.setIfInBounds_toArray, List.set_cons_zero, List.set_cons_succ]))
              (refine wpAnyH_ready (rs := [14]) (by kernel_rfl) (by simp) ?_; refine AllReadyH.cons (o := _) rfl (fun K hK => ?_) AllReadyH.nil; go_simp)
              have HSF := hide ((unhide HSc).wl' hlen ((wl + (r2 : Int)) % 8))
              clear hHeld
              refine hK.out _ _ trivial (fun hHeld => ?_)
              clear hK K
              (try simp only [Act.put, List.setIfInBounds_toArray, List.set_cons_zero, List.set_cons_succ])
              refine wpAnyH_done (by kernel_rfl) (NoPanic.normal ?_) _
              clear hHeld cW fW cS fS
              have HJ' := hide (unhide HFIN (sy + (r1 : Int) * 10) ((wl + (r2 : Int)) % 8) (by omega) (by omega) (by omega) (by omega))
              have HL' := hide (unhide HLL ⟨ad, hd + 20, sy + (r1 : Int) * 10, ci, co, (wl + (r2 : Int)) % 8⟩)
              generalize ls'.set j ⟨ad, hd + 20, sy + (r1 : Int) * 10, ci, co, (wl + (r2 : Int)) % 8⟩ = ls'' at *
              go_wp2_with fail
              go_roundw
              case rel => exact ⟨j + 1, ls'', by omega, by go_num, unhide HL', HJ', HSF⟩
              case measure => simp [intOf]; omega
            · skip
              go_simp
              refine (Go.Proofs.Ytpknahhdapmcoac.At.choice a bs cap j 3 _ (by omega) (by omega) (by omega) hbm (reads_under (unhide HR) (unhide BU))).mono ?_
              rintro e u1 ⟨r2, rfl, hr2, qr2, hqr2⟩
              have bu1 : Below U.heap.size U u1 := by rw [hqr2]; exact below_dN _
              have HSc := hide ((unhide HSU).below bu1)
              have hri2 : (r2 : Int) ≤ 2 := by omega
              clear bu1 hqr2
              obtain ⟨cc, ff⟩ := (unhide HSc).cell' hlen
              clear cW
              have cW := cc.2.2.2.2.2
              have fW := ff 5 (by omega)
              clear cc ff
              dsimp only at cW
              clear hHeld
              refine hK.out _ _ trivial (fun hHeld => ?_)
              clear hK K
              (try simp only [Act.put, List.setIfInBounds_toArray, List.set_cons_zero, List.set_cons_succ])
              (refine wpAnyH_ready (rs := [6]) (by kernel_rfl) (by simp) ?_; refine AllReadyH.cons (o := _) rfl (fun K hK => ?_) AllReadyH.nil; go_simp)
              clear hHeld
              refine hK.out _ _ trivial (fun hHeld => ?_)
              clear hK K
              (try simp only [Act.put, List.setIfInBounds_toArray, List.set_cons_zero, List.set_cons_succ])
              have wr3 : IntKind.i64.wrap (wl + (r2 : Int)) = wl + (r2 : Int) := by rw [IntKind.wrap_i64]; omega
              have e8 : (wl + (r2 : Int)).tmod 8 = (wl + (r2 : Int)) % 8 := Int.tmod_eq_emod_of_nonneg (by omega)
              (refine Rg.tk (i := 10) (d := 86) (v := ?_) rfl rfl (by kernel_rfl) (by kernel_rfl) (by kernel_rfl) (fun _ _ _ h => h) (by rfl) ?_ (by assumption) ?_; rotate_left; (focus (intro w0 hSw; (try dsimp only at hSw); go_simp; (try with_reducible rfl))); (try simp only [Act.put, List.setIfInBounds_toArray, List.set_cons_zero, List.set_cons_succ]))
              (refine Rg.tk (i := 11) (d := 87) (v := ?_) rfl rfl (by kernel_rfl) (by kernel_rfl) (by kernel_rfl) (fun _ _ _ h => h) (by rfl) ?_ (by assumption) ?_; rotate_left; (focus (intro w0 hSw; (try dsimp only at hSw); go_simp; (try with_reducible rfl))); (try simp only [Act.put, List.setIfInBounds_toArray, List.set_cons_zero, List.set_cons_succ]))
              (refine Rg.tk (i := 12) (d := 88) (v := ?_) rfl rfl (by kernel_rfl) (by kernel_rfl) (by kernel_rfl) (fun _ _ _ h => h) (by rfl) ?_ (by assumption) ?_; rotate_left; (focus (intro w0 hSw; (try dsimp only at hSw); go_simp; (try with_reducible rfl))); (try simp only [Act.put, List.setIfInBounds_toArray, List.set_cons_zero, List.set_cons_succ]))
              (refine Rg.tk (i := 13) (d := 89) (v := ?_) rfl rfl (by kernel_rfl) (by kernel_rfl) (by kernel_rfl) (fun _ _ _ h => h) (by rfl) ?_ (by assumption) ?_; rotate_left; (focus (intro w0 hSw; (try dsimp only at hSw); go_simp; (try with_reducible rfl))); (try simp only [Act.put, List.setIfInBounds_toArray, List.set_cons_zero, List.set_cons_succ]))
              (refine wpAnyH_ready (rs := [14]) (by kernel_rfl) (by simp) ?_; refine AllReadyH.cons (o := _) rfl (fun K hK => ?_) AllReadyH.nil; go_simp)
              have HSF := hide ((unhide HSc).wl' hlen ((wl + (r2 : Int)) % 8))
              clear hHeld
              refine hK.out _ _ trivial (fun hHeld => ?_)
              clear hK K
              (try simp only [Act.put, List.setIfInBounds_toArray, List.set_cons_zero, List.set_cons_succ])
              refine wpAnyH_done (by kernel_rfl) (NoPanic.normal ?_) _
              clear hHeld cW fW cS fS
              have HJ' := hide (unhide HFIN (sy + (r1 : Int) * 10) ((wl + (r2 : Int)) % 8) (by omega) (by omega) (by omega) (by omega))
              have HL' := hide (unhide HLL ⟨ad, hd + 20, sy + (r1 : Int) * 10, ci, co, (wl + (r2 : Int)) % 8⟩)
              generalize ls'.set j ⟨ad, hd + 20, sy + (r1 : Int) * 10, ci, co, (wl + (r2 : Int)) % 8⟩ = ls'' at *
              go_wp2_with fail
              go_roundw
              case rel => exact ⟨j + 1, ls'', by omega, by go_num, unhide HL', HJ', HSF⟩
              case measure => simp [intOf]; omega
        · obtain rfl : nl = j := by omega
          have HLB : Hid (Ln.linksB ls' = true) := hide (unhide hsj).1
          clear hsj
          have hn62 : n ≤ 62 := hl62
          have HRr := hide (reads_under (unhide HR') (unhide hst).bel)
          go_wp2_with fail
          refine (Go.Proofs.Ytpknahhdapmcoac.At.choice a' bs' cap' 0 8 _ (by omega) (by omega) (by omega) hbm' (unhide HRr)).mono ?_
          rintro e v1 ⟨km, rfl, hkm, q1, hq1⟩
          have bv1 : Below wr.heap.size wr v1 := by rw [hq1]; exact below_dN _
          have S1 := hide ((unhide hst).below bv1)
          clear hq1 bv1
          have HR1 := hide (reads_under (unhide HR') (unhide S1).bel)
          go_wp2_with fail
          refine (Go.Proofs.Ytpknahhdapmcoac.At.choice a' bs' cap' 1 12 _ (by omega) (by omega) (by omega) hbm' (unhide HR1)).mono ?_
          rintro e v2 ⟨kn, rfl, hkn, q2, hq2⟩
          have bv2 : Below v1.heap.size v1 v2 := by rw [hq2]; exact below_dN _
          have S2 := hide ((unhide S1).below bv2)
          clear bv2 hq2 S1 hst HR1
          obtain ⟨me, hme⟩ : ∃ me : Int, 1 + (km : Int) = me := ⟨_, rfl⟩
          obtain ⟨now, hnow⟩ : ∃ now : Int, (kn : Int) = now := ⟨_, rfl⟩
          have HME := hide hme
          have HNW := hide hnow
          clear hme hnow
          have T2 := hide (unhide S2).two.rm
          have K2 := hide (unhide S2).lks.rm
          have B2 := hide (unhide S2).bel
          clear S2
          have HCT : Hid (codeTL ms' ls' = 0) := hide (codeTL_zero (by rw [unhide HLN]; omega) (by rw [unhide HLM]; omega) (by rw [unhide HTW, unhide HLB]; rfl))
          have HSA : Hid (strictA ms' ls' me now = strN (condS ms' ls' me now) 8) := hide (by unfold strictA; rw [if_pos (unhide HCT)])
          have HSE : Hid (Ln.codeL ls' = 0) := hide (Ln.code_zero (unhide HLB))
          have HSY : Hid (Ln.symA ls' now = Ln.symN now ls' ls'.length) := hide (by unfold Ln.symA; rw [if_pos (unhide HSE)])
          have hml : ms'.length ≤ 1048576 := by rw [unhide HLN]; omega
          have hll : ls'.length ≤ 1048576 := by rw [unhide HLM]; omega
          have hll8 : ls'.length ≤ 8 := by rw [unhide HLM]; omega
          have hsl := Ln.symN_len now ls' ls'.length
          have hzl := strN_len (condS ms' ls' me now) 8
          go_wp2_with fail
          rw [unhide HME, unhide HNW]
          rw [← unhide HLN, ← unhide HLM]
          refine (implStrict _ ms' c _ ls' cl me now _ hml hll (unhide T2) (unhide K2)).mono ?_
          rintro e v3 ⟨v, rfl, b3, lx⟩
          rw [unhide HCT]
          rw [unhide HSA] at lx
          obtain ⟨xa, xc, rfl, hlx⟩ := lx
          have X3 := hide hlx.rm
          have T3 := hide ((unhide T2).below b3)
          have K3 := hide ((unhide K2).below b3)
          have B3 := hide ((unhide B2).trans (b3.mono (unhide B2).size))
          clear hlx b3 T2 K2 B2
          go_wp2_with fail
          refine (specStrict _ _ ms' c _ ls' cl me now _ hml hll (unhide T3) (unhide K3)).mono ?_
          rintro e v4 ⟨v, rfl, b4, lx⟩
          rw [unhide HCT]
          rw [unhide HSA] at lx
          obtain ⟨ya, yc, rfl, hlx⟩ := lx
          have Y4 := hide hlx.rm
          have X4 := hide ((unhide X3).below b4)
          have T4 := hide ((unhide T3).below b4)
          have K4 := hide ((unhide K3).below b4)
          have B4 := hide ((unhide B3).trans (b4.mono (unhide B3).size))
          clear hlx b4 T3 K3 B3 X3
          go_wp2_with fail
          refine (Ln.implSym _ ls' cl now _ hll (unhide K4)).mono ?_
          rintro e v5 ⟨v, rfl, b5, lx⟩
          rw [unhide HSE]
          rw [unhide HSY] at lx
          obtain ⟨sa, sc, rfl, hlx⟩ := lx
          have N5 := hide hlx.rm
          have Y5 := hide ((unhide Y4).below b5)
          have X5 := hide ((unhide X4).below b5)
          have T5 := hide ((unhide T4).below b5)
          have K5 := hide ((unhide K4).below b5)
          have B5 := hide ((unhide B4).trans (b5.mono (unhide B4).size))
          clear hlx b5 T4 K4 B4 X4 Y4
          have HZO : Hid (∀ z, z ∈ strN (condS ms' ls' me now) 8 → (1 ≤ z ∧ z ≤ 8) ∧ z ≠ me ∧ (∀ y ∈ Ln.symN now ls' ls'.length, y ≠ z) ∧ 0 < (viaL (findT ms') ls' z now ls'.length).length) := hide (fun z hz => strict_ok hz)
          generalize strN (condS ms' ls' me now) 8 = zs at *
          generalize Ln.symN now ls' ls'.length = ys at *
          go_wp2_with fail
          refine (In.sameS _ _ zs _ _ _ (by omega) (unhide X5) (unhide Y5)).mono ?_
          rintro e v6 ⟨rfl, b6⟩
          have N6 := hide ((unhide N5).below b6)
          have X6 := hide ((unhide X5).below b6)
          have T6 := hide ((unhide T5).below b6)
          have K6 := hide ((unhide K5).below b6)
          have B6 := hide ((unhide B5).trans (b6.mono (unhide B5).size))
          clear b6 T5 K5 B5 X5 Y5 N5
          generalize hNZ : zs.length = nz at *
          have HNZ := hide hNZ
          generalize hNY : ys.length = ny at *
          have HNY := hide hNY
          clear hNZ hNY
          go_wp2_with fail
          go_loopw [17] (fun i wr => ∃ t : Nat, t ≤ nz ∧ i = .int .i64 (t : Int) ∧ Hid (Below v6.heap.size v6 wr)) (fun i _ => nz - (intOf i).toNat)
          case atStart => exact ⟨0, by omega, rfl, hide (Below.refl _ _)⟩
          case round =>
            obtain ⟨t, ht, rfl, hbl⟩ := hrel
            by_cases hlt2 : (t : Int) < (nz : Int)
            · have k0 : (0 : Int) ≤ (t : Int) := by omega
              have hlen : t < zs.length := by rw [unhide HNZ]; omega
              rcases (unhide X6).below (unhide hbl) with e0 | ⟨gz, oz, rfl, hc⟩
              · exfalso; rw [e0] at hlen; simp at hlen
              have cz := hc t hlen
              have HCZ : Hid (∀ w', Below wr.heap.size wr w' → w'.cell? ⟨gz, oz + t, none⟩ = some (.int .i64 (zs.getD t 0))) := hide (fun w' hb => (hb.cell (p := ⟨gz, oz + t, none⟩) (World.block_lt_of_cell? _ _ cz)).trans cz)
              obtain ⟨z1, z2, z3, z4⟩ := unhide HZO _ (zs_mem hlen)
              clear hc
              generalize zs.getD t 0 = z at *
              have HZ3 := hide z3
              have HZ4 := hide z4
              clear z3 z4
              have hwz : (Lit.int .i64 z).wf = true := WalkArith.wf_i64 ⟨by omega, by omega⟩
              have hzm : (z == me) = false := by simpa using z2
              have Tr := hide ((unhide T6).below (unhide hbl))
              have Kr := hide ((unhide K6).below (unhide hbl))
              have Nr := hide ((unhide N6).below (unhide hbl))
              have HVA : Hid (viaA ms' ls' z now = viaL (findT ms') ls' z now ls'.length) := hide (by unfold viaA; rw [if_pos (unhide HCT)])
              have hbs := (unhide hbl).size
              go_wp2_with fail
              refine (implVia _ ms' c _ ls' cl z now hwz _ hml hll (unhide Tr) (unhide Kr)).mono ?_
              rintro e u1 ⟨v, rfl, bu1, lx⟩
              rw [unhide HCT]
              rw [unhide HVA] at lx
              obtain ⟨va, vc, rfl, hlx⟩ := lx
              have V1 := hide hlx.rm
              have N1 := hide ((unhide Nr).below bu1)
              have K1 := hide ((unhide Kr).below bu1)
              have BB1 := hide ((unhide hbl).trans (bu1.mono hbs))
              have HVO : Hid (∀ y, y ∈ viaL (findT ms') ls' z now ls'.length → (1 ≤ y ∧ y ≤ 8) ∧ Ln.lkE ls' y = 0 ∧ 0 < (Ln.lkA ls' y).wl ∧ Ln.statusV (Ln.lkA ls' y) now = 2) := hide (fun y hy => via_ok (unhide HLB) hy)
              have hvl := viaL_len (findT ms') ls' z now ls'.length
              clear cz
              have cz := unhide HCZ u1 bu1
              have HCZ1 : Hid (∀ w', Below u1.heap.size u1 w' → w'.cell? ⟨gz, oz + t, none⟩ = some (.int .i64 z)) := hide (fun w' hb => (hb.cell (p := ⟨gz, oz + t, none⟩) (World.block_lt_of_cell? _ _ cz)).trans cz)
              clear bu1 hlx HVA
              generalize viaL (findT ms') ls' z now ls'.length = vs at *
              obtain ⟨nv, hnv⟩ : ∃ nv, vs.length = nv := ⟨_, rfl⟩
              have hnv0 := unhide HZ4
              rw [hnv] at hvl hnv0 ⊢
              have HNV := hide hnv
              clear hnv
              have hq0 : ((nv : Int) == 0) = false := by simp; omega
              go_wp2_with fail
              clear cz
              go_loopw [20] (fun i wr2 => ∃ k : Nat, k ≤ ny ∧ i = .int .i64 (k : Int) ∧ Hid (Below u1.heap.size u1 wr2)) (fun i _ => ny - (intOf i).toNat)
              case atStart => exact ⟨0, by omega, rfl, hide (Below.refl _ _)⟩
              case round =>
                obtain ⟨k, hk, rfl, hb2⟩ := hrel
                by_cases hlt3 : (k : Int) < (ny : Int)
                · have k1 : (0 : Int) ≤ (k : Int) := by omega
                  have hlen2 : k < ys.length := by rw [unhide HNY]; omega
                  rcases (unhide N1).below (unhide hb2) with e0 | ⟨gy, oy, rfl, hc⟩
                  · exfalso; rw [e0] at hlen2; simp at hlen2
                  have cy := hc k hlen2
                  have hyz := unhide HZ3 _ (zs_mem hlen2)
                  clear hc
                  generalize ys.getD k 0 = y at *
                  have hyb : (y == z) = false := by simpa using hyz
                  have cz := unhide HCZ1 _ (unhide hb2)
                  have HDN : Hid (∀ q, Below u1.heap.size u1 (wr.drewN q)) := hide (fun q => below_dn (unhide hb2) q)
                  go_wp2_with fail
                  go_quiet (fail)
                  clear cy cz
                  go_wp2_with fail
                  go_roundw
                  case rel => exact ⟨k + 1, by omega, by go_num, hide (unhide HDN _)⟩
                  case measure => simp [intOf]; omega
                · have hk' : k = ny := by omega
                  clear hlt3
                  have hnlt : ¬ (k : Int) < (ny : Int) := by omega
                  have Kq := hide ((unhide K1).below (unhide hb2))
                  have Vq := hide ((unhide V1).below (unhide hb2))
                  have BBq := hide ((unhide BB1).trans ((unhide hb2).mono (unhide BB1).size))
                  go_wp2_with fail
                  go_loopw [21] (fun i wr3 => ∃ k : Nat, k ≤ nv ∧ i = .int .i64 (k : Int) ∧ Hid (Below wr.heap.size wr wr3)) (fun i _ => nv - (intOf i).toNat)
                  case atStart => exact ⟨0, by omega, rfl, hide (Below.refl _ _)⟩
                  case round =>
                    obtain ⟨p, hp, rfl, hb3⟩ := hrel
                    by_cases hlt4 : (p : Int) < (nv : Int)
                    · have p1 : (0 : Int) ≤ (p : Int) := by omega
                      have hlen3 : p < vs.length := by rw [unhide HNV]; omega
                      rcases (unhide Vq).below (unhide hb3) with e0 | ⟨gv, ov, rfl, hc⟩
                      · exfalso; rw [e0] at hlen3; simp at hlen3
                      have cv := hc p hlen3
                      obtain ⟨y1, y2, y3, y4⟩ := unhide HVO _ (zs_mem hlen3)
                      clear hc
                      generalize vs.getD p 0 = y at *
                      have hwy : (Lit.int .i64 y).wf = true := WalkArith.wf_i64 ⟨by omega, by omega⟩
                      have HY2 := hide y2
                      have HY4 := hide y4
                      clear y2 y4
                      have hbs3 := (unhide hb3).size
                      go_wp2_with fail
                      refine (Ln.implFind _ ls' cl y hwy _ hll ((unhide Kq).below (unhide hb3))).mono ?_
                      rintro e x1 ⟨rfl, bx1⟩
                      rw [unhide HY2]
                      obtain ⟨F, hF⟩ : ∃ F, Ln.lkA ls' y = F := ⟨_, rfl⟩
                      rw [hF] at y3 HY4 ⊢
                      clear hF cv
                      obtain ⟨ad, hd, sy, ci, co, wl⟩ := F
                      dsimp only at y3
                      have hwl : (wl == 0) = false := by simp; omega
                      unfold Lk.R.value
                      dsimp only
                      have BX := hide (((unhide hb3).trans (bx1.mono hbs3)).alloc (Nat.le_trans hbs3 bx1.size) (.cells #[.int .i64 ad, .int .i64 hd, .int .i64 sy, .int .i64 ci, .int .i64 co, .int .i64 wl] 30))
                      clear bx1
                      go_wp2_with fail
                      refine (Ln.implStatus ad hd sy ci co wl now _).mono ?_
                      rintro e x2 ⟨rfl, bx2⟩
                      rw [unhide HY4]
                      have BX2 := hide ((unhide BX).trans (bx2.mono (unhide BX).size))
                      clear bx2
                      go_wp2_with fail
                      go_roundw
                      case rel => exact ⟨p + 1, by omega, by go_num, BX2⟩
                      case measure => simp [intOf]; omega
                    · have HF3 := hide ((unhide BBq).trans ((unhide hb3).mono (unhide BBq).size))
                      go_wp2_with fail
                      go_roundw
                      case rel => exact ⟨t + 1, by omega, by go_num, HF3⟩
                      case measure => simp [intOf]; omega
            · have HF := hide ((unhide B6).trans ((unhide hbl).mono (unhide B6).size))
              go_wp2_with fail
              go_ret
              exact ⟨rfl, unhide HF⟩

set_option maxRecDepth 100000 in
theorem lifted (os : Os) (started : os.Started) (H : Type) (enc : TypeId × Value → H) :
    ReturnsInHanded {} Try.checked os 3 .any (Rows.fnStrictSpec.pre6 enc Try.prog Try.f3 Rows.fnStrictRow.domain false) (Rows.fnStrictSpec.post enc Try.prog Try.f3 false true false false) := by
  refine returnsInHanded_of_change (C := Try.checked) own started (by kernel_rfl) Try.func3
    (ChangeSpec.witness6 (enc := enc) (C := Try.checked) false ⟨#[], #[.slice none 0 0, .slice none 0 0], []⟩ 8 (by kernel_rfl) (by kernel_rfl) (by kernel_rfl) (by kernel_rfl)) ?_
  intro W base args ds gs before hval0 hW hcnd _
  have hval : ∀ (j : Nat) t v, Try.f3.params[j]? = some t → args[j]? = some v → Value.okWide Try.prog W .any base t v := hval0
  have hW' := hW
  obtain ⟨p, q, hA0, hV, rfl, hfz, hnd⟩ := hW
  have hA : DataW.TrodAll enc Try.prog W 0 (fun _ => true) true Try.f3.params.toList args.toList ds p := hA0
  rw [Try.params3] at hA hval
  obtain ⟨v0, vs0, d0, ds0, p0, q0, hargs0, rfl, rfl, h0, r0⟩ := trodAll_cons hA
  obtain ⟨v1, vs1, d1, ds1, p1, q1, hargs1, rfl, rfl, h1, r1⟩ := trodAll_cons r0
  obtain ⟨rfl, rfl, rfl⟩ := trodAll_nil r1
  obtain rfl : args = #[v0, v1] := by cases args; simp_all
  obtain ⟨rfl, rfl⟩ := trodVars_none hV
  have k0 := h0
  have lt0 : ∀ x ∈ p0, x.block < W.heap.size := by obtain ⟨m, hm⟩ := k0; exact DataW.trod_lt m _ _ _ hm
  have k1 := h1
  have lt1 : ∀ x ∈ p1, x.block < W.heap.size := by obtain ⟨m, hm⟩ := k1; exact DataW.trod_lt m _ _ _ hm
  obtain ⟨a0, len0, cap0, rfl⟩ := okWide_slice Try.underlying22 (hval 0 22 v0 rfl rfl)
  obtain ⟨bs0, hlen0, hmx0, hrd0⟩ := Op.open_bytes h0
  subst hlen0
  obtain ⟨a1, len1, cap1, rfl⟩ := okWide_slice Try.underlying22 (hval 1 22 v1 rfl rfl)
  obtain ⟨bs1, hlen1, hmx1, hrd1⟩ := Op.open_bytes h1
  subst hlen1
  clear hA0 hval0
  refine (walk a0 bs0 cap0 hmx0 a1 bs1 cap1 hmx1 W hrd0 hrd1).mono fun e W' ⟨he, bel⟩ => ?_
  subst he
  exact ⟨_, rfl, _, _, _, [], _, [], hW', trodAll_mk1 (shut_bool Try.underlying4 _), (trodAll_cons_mk (Below.trod laidOut (by kernel_rfl) (of_decide_eq_true (by kernel_rfl)) k0 bel lt0) (trodAll_cons_mk (Below.trod laidOut (by kernel_rfl) (of_decide_eq_true (by kernel_rfl)) k1 bel lt1) trodAll_mk0)), rfl, bel.frame _, fun h => by cases h⟩

theorem over : Rows.fnStrictRow.holds Try.pinned (OpenSpec.ofChange Rows.fnStrictSpec) :=
  OpenClaim.holds_of_wide 3 Try.f3 rfl rfl rfl rfl rfl rfl rfl ⟨rfl, rfl, rfl, rfl, rfl⟩ rfl rfl rfl rfl rfl (by kernel_rfl) Try.func3 (by kernel_rfl)
    (of_decide_eq_true (by kernel_rfl)) (by unfold Func.isWrapper; first | (rw [if_pos (by decide +kernel)]; kernel_rfl) | (rw [if_neg (by decide +kernel)]; exact ⟨rfl, rfl⟩))
    (fun os started H enc _ => lifted os started H enc)
end Go.Proofs.Ytpknahhdapmcoac.fnStrict
namespace Go.Proofs.Ytpknahhdapmcoac
/-- For all slices of bytes, laws.FnStrict returns true. -/
theorem fnStrict_holds : Rows.FnStrictSaid := fnStrict.over
end Go.Proofs.Ytpknahhdapmcoac
