/-
  The model's contract: a list of numbers in order.
-/
import Derived.Test.YtpknahhdapmcoaoMprB
import Derived.Test.YtpknahhdapmcoaoRg
namespace Go.Proofs.Ytpknahhdapmcoao
open Go.ChangeShapes Go.WideShapes Go.ChangeAt Go.RowKit
set_option linter.unusedVariables false
set_option linter.unusedSimpArgs false
attribute [local go_sem ↓] Go.wp_at_zero Go.wp_at_succ
namespace Mr
open W1 Tu St Tw
/-- append to a row of one's own, inside a region that draws its order. -/
theorem wp_apI {o : Oper} {a : Act} {K : Act → World → Prop} {Q : Exit → Act → World → Prop} {w : World} {base d : Nat} {v : Value} {xs : List Int} (hown : w.ownsRow base 3 1 v xs.length (In.flat xs)) (g off m c : Nat) (zs : List Int) (hm : zs.length = m) (hr : In.RM w (some ⟨g, off, none⟩) zs) (hlen : xs.length + zs.length ≤ 4194304) (hbase : base ≤ w.heap.size)
    (s x : Operand) (ho : o.op = .call { callee := .builtin .append, args := #[s, x], argTypes := #[26, 26] }) (hd : o.dst = some d) (hs : a.eval s = v) (hx : a.eval x = .slice (some ⟨g, off, none⟩) m c)
    (h : ∀ v' w', w'.ownsRow base 3 1 v' (xs ++ zs).length (In.flat (xs ++ zs)) → w.grownBy w' v.ownBlock → K (a.put (some d) v') w') : o.wp Try.prog a w K Q := by
  subst hm
  obtain ⟨i0, hi, hz0, hz1, hz2⟩ := In.infoI
  refine wp_append_own w s x _ ho base 3 i0 _ 1 8 Try.underlying26 hi hz0 hz1 hz2 rfl (by decide) v xs.length (In.flat xs) hs hown ⟨g, off, none⟩ zs.length c (In.flat zs) hx (In.flat_len zs) hr.cells (fun u hu => In.flat_one_cell hu) (by unfold maxLen; omega) (by omega) hbase (fun v' w' h1 h2 _ => ?_)
  rw [hd]
  refine h v' w' ?_ h2
  rw [List.length_append, In.flat_append]; exact h1
theorem rmI_grown {w w' : World} {b : Nat} {row : Option Nat} {zs : List Int} (h : In.RM w (some ⟨b, 0, none⟩) zs) (hg : w.grownBy w' row) (hne : some b ≠ row) : In.RM w' (some ⟨b, 0, none⟩) zs := by
  rcases h with h | ⟨g, off, e, hc⟩
  · exact .inl h
  · cases e
    exact .inr ⟨_, _, rfl, fun i hi => hg.cell (hc i hi) hne⟩
theorem rmI_take {w : World} {g off : Nat} {zs : List Int} (h : In.RM w (some ⟨g, off, none⟩) zs) (n : Nat) : In.RM w (some ⟨g, off, none⟩) (zs.take n) := by
  refine .inr ⟨g, off, rfl, fun i hi => ?_⟩
  have hl : i < n ∧ i < zs.length := by simp at hi; omega
  have := h.at hl.2
  rw [List.getD_eq_getElem?_getD, List.getElem?_take_of_lt hl.1, ← List.getD_eq_getElem?_getD]; exact this
theorem rmI_drop {w : World} {g off : Nat} {zs : List Int} (h : In.RM w (some ⟨g, off, none⟩) zs) (n : Nat) : In.RM w (some ⟨g, off + n, none⟩) (zs.drop n) := by
  refine .inr ⟨g, off + n, rfl, fun i hi => ?_⟩
  have hl : n + i < zs.length := by simp at hi; omega
  have := h.at hl
  rw [List.getD_eq_getElem?_getD, List.getElem?_drop, ← List.getD_eq_getElem?_getD, Nat.add_assoc]; exact this
theorem own_base {w : World} {b b' : Nat} {v : Value} {n : Nat} {xs : List Value} (h : w.ownsRow b 3 1 v n xs) (hle : b' ≤ b) : w.ownsRow b' 3 1 v n xs := by
  obtain ⟨h1, h2 | ⟨g, c, cur, e, hb, h3⟩⟩ := h
  · exact ⟨h1, .inl h2⟩
  · exact ⟨h1, .inr ⟨g, c, cur, e, Nat.le_trans hle hb, h3⟩⟩
theorem own_form {w : World} {b : Nat} {v : Value} {n : Nat} {xs : List Value} (h : w.ownsRow b 3 1 v n xs) (hn : 0 < n) : ∃ g c, v = .slice (some ⟨g, 0, none⟩) n c ∧ n ≤ c ∧ c ≤ maxLen := by
  obtain ⟨h1, ⟨_, h2⟩ | ⟨g, c, cur, e, hb, h3, h4, h5, _⟩⟩ := h
  · omega
  · exact ⟨g, c, e, h4, h5⟩
set_option maxRecDepth 100000 in
set_option maxHeartbeats 8000000 in
theorem l08Sorted (a : Option Addr) (L : List Int) (cap : Nat) (w : World) (hL : L.length ≤ 64) (hr : In.RM w a L) :
    Calls Try.prog 71 #[.slice a L.length cap] w fun e w' => ∃ v, e = .returned v ∧ Below w.heap.size w w' ∧ In.LstV w' v (sortV L) w.heap.size w'.heap.size := by
  have HR := hide hr
  clear hr
  generalize hN : L.length = n at *
  have HN := hide hN
  clear hN
  have P0 := hide ((Below.refl w.heap.size w).alloc (Nat.le_refl _) (.cells #[] 3))
  have O1 : Hid ((w.alloc (.cells #[] 3)).ownsRow w.heap.size 3 1 (.slice (some ⟨w.heap.size, 0, none⟩) 0 0) 0 (In.flat (sortV (L.take 0)))) := hide (In.own_empty w w.heap.size (Nat.le_refl _))
  go_enter Try.func71, Try.ntmps71
  go_wp2_with fail
  go_loopw [3, 4] (fun v i wo => ∃ j : Nat, j ≤ n ∧ i = .int .i64 j ∧ ∃ g c : Nat, v = .slice (some ⟨g, 0, none⟩) j c ∧ j ≤ c ∧ Hid (c ≤ maxLen) ∧ Hid (wo.ownsRow w.heap.size 3 1 (.slice (some ⟨g, 0, none⟩) j c) j (In.flat (sortV (L.take j)))) ∧ Hid (Below w.heap.size w wo)) (fun _ i _ => n - (intOf i).toNat)
  case atStart => exact ⟨0, by omega, rfl, w.heap.size, 0, rfl, by omega, hide (Nat.zero_le _), O1, P0⟩
  case round =>
    rename World => wo
    obtain ⟨j, hj, rfl, g, c, rfl, hjc, hcm, how, hbl⟩ := hrel
    have hbs := (unhide hbl).size
    by_cases hlt : (j : Int) < (n : Int)
    · have k0 : (0 : Int) ≤ (j : Int) := by omega
      have hlen : j < L.length := by rw [unhide HN]; omega
      have HSL := hide (sort_len L j (by omega))
      have HSS := hide (sort_step hlen)
      have HLr := hide ((unhide HR).below (unhide hbl))
      rcases unhide HLr with e0 | ⟨gl, ol, rfl, hc⟩
      · exfalso; rw [e0] at hlen; simp at hlen
      clear hc
      have HX : Hid (∀ W : World, In.RM W (some ⟨gl, ol, none⟩) L → W.cell? ⟨gl, ol + j, none⟩ = some (.int .i64 (L.getD j 0))) := hide (fun W h => h.at hlen)
      have HU := hide (In.rm_of (n := j) (by rw [unhide HSL]; exact In.upto_own (unhide HSL).symm (unhide how)))
      have hcm' := unhide hcm
      unfold maxLen at hcm'
      generalize L.getD j 0 = x at *
      generalize sortV (L.take j) = SS at *
      go_wp2_with fail
      go_loopw [5] (fun k w6 => ∃ t : Nat, t ≤ j ∧ k = .int .i64 t ∧ Hid (∀ i, t ≤ i → i < j → x < SS.getD i 0) ∧ Hid (Below wo.heap.size wo w6)) (fun k _ => (intOf k).toNat)
      case atStart => exact ⟨j, Nat.le_refl _, rfl, hide (fun i h1 h2 => absurd h1 (by omega)), hide (Below.refl _ _)⟩
      case round =>
        rename World => w6
        obtain ⟨t, ht, rfl, hup, hb6⟩ := hrel
        have HL6 := hide ((unhide HLr).below (unhide hb6))
        have HU6 := hide ((unhide HU).below (unhide hb6))
        have HB6 := hide ((unhide hbl).trans ((unhide hb6).mono hbs))
        have hs6 := (unhide HB6).size
        rcases t with _ | t
        · have HT : Hid (SS.length - tailN SS x = 0) := hide (tail_of (Nat.zero_le _) (fun i _ h2 => unhide hup i (Nat.zero_le _) (by rw [← unhide HSL]; exact h2)) (fun h => absurd h (by omega)))
          go_wp2_with fail
          refine wp_region_noPanic ?_
          refine wp_region_held_drew (S := fun w' => w'.cell? ⟨gl, ol + j, none⟩ = some (.int .i64 x)) (by kernel_rfl) (unhide HX _ ((unhide HL6).below ((Below.refl _ _).drew))) (fun hHeld => ?_)
          (refine Rg.tk (i := 0) (d := 15) (v := ?_) rfl rfl (by kernel_rfl) (by kernel_rfl) (by kernel_rfl) (fun _ _ _ h => h) (by rfl) ?_ (by assumption) ?_; rotate_left; (focus (intro w0 hSw; (try dsimp only at hSw); go_simp; (try with_reducible rfl))); (try simp only [Act.put, List.setIfInBounds_toArray, List.set_cons_zero, List.set_cons_succ]))
          (refine Rg.tk (i := 1) (d := 16) (v := ?_) rfl rfl (by kernel_rfl) (by kernel_rfl) (by kernel_rfl) (fun _ _ _ h => h) (by rfl) ?_ (by assumption) ?_; rotate_left; (focus (intro w0 hSw; (try dsimp only at hSw); go_simp; (try with_reducible rfl))); (try simp only [Act.put, List.setIfInBounds_toArray, List.set_cons_zero, List.set_cons_succ]))
          (refine Rg.tk (i := 2) (d := 17) (v := ?_) rfl rfl (by kernel_rfl) (by kernel_rfl) (by kernel_rfl) (fun _ _ _ h => h) (by rfl) ?_ (by assumption) ?_; rotate_left; (focus (intro w0 hSw; (try dsimp only at hSw); go_simp; (try with_reducible rfl))); (try simp only [Act.put, List.setIfInBounds_toArray, List.set_cons_zero, List.set_cons_succ]))
          (refine Rg.sk (i := 3) (d := 18) rfl rfl (by kernel_rfl) (by kernel_rfl) (by kernel_rfl) (fun _ _ _ h => h) (by first | kernel_rfl | rfl) (by assumption) ?_; (try simp only [Act.put, List.setIfInBounds_toArray, List.set_cons_zero, List.set_cons_succ]))
          (refine Rg.sk (i := 4) (d := 19) rfl rfl (by kernel_rfl) (by kernel_rfl) (by kernel_rfl) (fun _ _ _ h => h) (by first | kernel_rfl | rfl) (by assumption) ?_; (try simp only [Act.put, List.setIfInBounds_toArray, List.set_cons_zero, List.set_cons_succ]))
          (refine Rg.sk (i := 5) (d := 20) rfl rfl (by kernel_rfl) (by kernel_rfl) (by kernel_rfl) (fun _ _ _ h => h) (by first | kernel_rfl | rfl) (by assumption) ?_; (try simp only [Act.put, List.setIfInBounds_toArray, List.set_cons_zero, List.set_cons_succ]))
          (refine Rg.sk (i := 6) (d := 21) rfl rfl (by kernel_rfl) (by kernel_rfl) (by kernel_rfl) (fun _ _ _ h => h) (by first | kernel_rfl | rfl) (by assumption) ?_; (try simp only [Act.put, List.setIfInBounds_toArray, List.set_cons_zero, List.set_cons_succ]))
          (refine Rg.sk (i := 7) (d := 22) rfl rfl (by kernel_rfl) (by kernel_rfl) (by kernel_rfl) (fun _ _ _ h => h) (by first | kernel_rfl | rfl) (by assumption) ?_; (try simp only [Act.put, List.setIfInBounds_toArray, List.set_cons_zero, List.set_cons_succ]))
          (refine Rg.sk (i := 8) (d := 23) rfl rfl (by kernel_rfl) (by kernel_rfl) (by kernel_rfl) (fun _ _ _ h => h) (by first | kernel_rfl | rfl) (by assumption) ?_; (try simp only [Act.put, List.setIfInBounds_toArray, List.set_cons_zero, List.set_cons_succ]))
          (refine Rg.sk (i := 9) (d := 24) rfl rfl (by kernel_rfl) (by kernel_rfl) (by kernel_rfl) (fun _ _ _ h => h) (by first | kernel_rfl | rfl) (by assumption) ?_; (try simp only [Act.put, List.setIfInBounds_toArray, List.set_cons_zero, List.set_cons_succ]))
          (refine Rg.sk (i := 10) (d := 25) rfl rfl (by kernel_rfl) (by kernel_rfl) (by kernel_rfl) (fun _ _ _ h => h) (by first | kernel_rfl | rfl) (by assumption) ?_; (try simp only [Act.put, List.setIfInBounds_toArray, List.set_cons_zero, List.set_cons_succ]))
          (refine Rg.sk (i := 11) (d := 26) rfl rfl (by kernel_rfl) (by kernel_rfl) (by kernel_rfl) (fun _ _ _ h => h) (by first | kernel_rfl | rfl) (by assumption) ?_; (try simp only [Act.put, List.setIfInBounds_toArray, List.set_cons_zero, List.set_cons_succ]))
          (refine Rg.sk (i := 12) (d := 27) rfl rfl (by kernel_rfl) (by kernel_rfl) (by kernel_rfl) (fun _ _ _ h => h) (by first | kernel_rfl | rfl) (by assumption) ?_; (try simp only [Act.put, List.setIfInBounds_toArray, List.set_cons_zero, List.set_cons_succ]))
          (refine Rg.tk (i := 13) (d := 28) (v := ?_) rfl rfl (by kernel_rfl) (by kernel_rfl) (by kernel_rfl) (fun _ _ _ h => h) (by rfl) ?_ (by assumption) ?_; rotate_left; (focus (intro w0 hSw; (try dsimp only at hSw); go_simp; (try with_reducible rfl))); (try simp only [Act.put, List.setIfInBounds_toArray, List.set_cons_zero, List.set_cons_succ]))
          refine wpAnyH_done (by kernel_rfl) (NoPanic.normal ?_) _
          clear hHeld
          have HE1 : Hid (sortV (L.take (j + 1)) = (([] ++ SS.take 0) ++ [x]) ++ SS.drop 0) := hide (by rw [unhide HSS]; unfold insV; rw [unhide HT, List.nil_append])
          have HSL1 : Hid ((sortV (L.take (j + 1))).length = j + 1) := hide (sort_len L (j + 1) (by rw [unhide HN]; omega))
          have p1 : (0 : Int) ≤ (c : Int) := by omega
          have p2 : (0 : Int) ≤ (j : Int) := by omega
          have p0 : (0 : Int) ≤ (0 : Int) := by omega
          have c1 : (j : Int) ≤ (c : Int) := by omega
          have lt1 : Hid ((SS.take 0).length = 0) := hide (by rw [List.length_take, unhide HSL]; omega)
          have ld1 : Hid ((SS.drop 0).length = j - 0) := hide (by rw [List.length_drop, unhide HSL])
          have HD : Hid (∀ W, In.RM W (some ⟨g, 0, none⟩) SS → In.RM W (some ⟨g, if c = 0 then 0 else 0, none⟩) (SS.drop 0)) := hide (fun W h => by
            split
            · exact .inl (List.drop_eq_nil_of_le (by rw [unhide HSL]; omega))
            · have := rmI_drop h 0; rw [Nat.zero_add] at this; exact this)
          have HV : Hid (Below w6.heap.size w6 w6.drew.drew) := hide ((Below.refl _ _).drew.drew)
          by_cases hcp : c = 0
          · rw [if_pos hcp] at HD
            rw [show j - 0 = 0 by omega] at ld1
            subst hcp
            go_wp2_with fail
            refine wp_region_noPanic ?_
            refine wp_region_held_drew (S := fun w' => w'.cell? ⟨gl, ol + j, none⟩ = some (.int .i64 x)) (by kernel_rfl) (unhide HX _ ((unhide HL6).below (unhide HV))) (fun hHeld => ?_)
            (refine Rg.tk (i := 1) (d := 32) (v := ?_) rfl rfl (by kernel_rfl) (by kernel_rfl) (by kernel_rfl) (fun _ _ _ h => h) (by rfl) ?_ (by assumption) ?_; rotate_left; (focus (intro w0 hSw; (try dsimp only at hSw); go_simp; (try with_reducible rfl))); (try simp only [Act.put, List.setIfInBounds_toArray, List.set_cons_zero, List.set_cons_succ]))
            (refine Rg.tk (i := 2) (d := 33) (v := ?_) rfl rfl (by kernel_rfl) (by kernel_rfl) (by kernel_rfl) (fun _ _ _ h => h) (by rfl) ?_ (by assumption) ?_; rotate_left; (focus (intro w0 hSw; (try dsimp only at hSw); go_simp; (try with_reducible rfl))); (try simp only [Act.put, List.setIfInBounds_toArray, List.set_cons_zero, List.set_cons_succ]))
            (refine Rg.tk (i := 3) (d := 34) (v := ?_) rfl rfl (by kernel_rfl) (by kernel_rfl) (by kernel_rfl) (fun _ _ _ h => h) (by rfl) ?_ (by assumption) ?_; rotate_left; (focus (intro w0 hSw; (try dsimp only at hSw); go_simp; (try with_reducible rfl))); (try simp only [Act.put, List.setIfInBounds_toArray, List.set_cons_zero, List.set_cons_succ]))
            (refine Rg.tk (i := 5) (d := 36) (v := ?_) rfl rfl (by kernel_rfl) (by kernel_rfl) (by kernel_rfl) (fun _ _ _ h => h) (by rfl) ?_ (by assumption) ?_; rotate_left; (focus (intro w0 hSw; (try dsimp only at hSw); go_simp; (try with_reducible rfl))); (try simp only [Act.put, List.setIfInBounds_toArray, List.set_cons_zero, List.set_cons_succ]))
            (refine Rg.tk (i := 6) (d := 37) (v := ?_) rfl rfl (by kernel_rfl) (by kernel_rfl) (by kernel_rfl) (fun _ _ _ h => h) (by rfl) ?_ (by assumption) ?_; rotate_left; (focus (intro w0 hSw; (try dsimp only at hSw); go_simp; (try with_reducible rfl))); (try simp only [Act.put, List.setIfInBounds_toArray, List.set_cons_zero, List.set_cons_succ]))
            (refine Rg.tk (i := 7) (d := 38) (v := ?_) rfl rfl (by kernel_rfl) (by kernel_rfl) (by kernel_rfl) (fun _ _ _ h => h) (by rfl) ?_ (by assumption) ?_; rotate_left; (focus (intro w0 hSw; (try dsimp only at hSw); go_simp; (try with_reducible rfl))); (try simp only [Act.put, List.setIfInBounds_toArray, List.set_cons_zero, List.set_cons_succ]))
            (refine Rg.tk (i := 8) (d := 39) (v := ?_) rfl rfl (by kernel_rfl) (by kernel_rfl) (by kernel_rfl) (fun _ _ _ h => h) (by rfl) ?_ (by assumption) ?_; rotate_left; (focus (intro w0 hSw; (try dsimp only at hSw); go_simp; (try with_reducible rfl))); (try simp only [Act.put, List.setIfInBounds_toArray, List.set_cons_zero, List.set_cons_succ]))
            (refine Rg.tk (i := 11) (d := 42) (v := ?_) rfl rfl (by kernel_rfl) (by kernel_rfl) (by kernel_rfl) (fun _ _ _ h => h) (by rfl) ?_ (by assumption) ?_; rotate_left; (focus (intro w0 hSw; (try dsimp only at hSw); go_simp; (try with_reducible rfl))); (try simp only [Act.put, List.setIfInBounds_toArray, List.set_cons_zero, List.set_cons_succ]))
            (refine Rg.tk (i := 12) (d := 43) (v := ?_) rfl rfl (by kernel_rfl) (by kernel_rfl) (by kernel_rfl) (fun _ _ _ h => h) (by rfl) ?_ (by assumption) ?_; rotate_left; (focus (intro w0 hSw; (try dsimp only at hSw); go_simp; (try with_reducible rfl))); (try simp only [Act.put, List.setIfInBounds_toArray, List.set_cons_zero, List.set_cons_succ]))
            (refine Rg.tk (i := 13) (d := 44) (v := ?_) rfl rfl (by kernel_rfl) (by kernel_rfl) (by kernel_rfl) (fun _ _ _ h => h) (by rfl) ?_ (by assumption) ?_; rotate_left; (focus (intro w0 hSw; (try dsimp only at hSw); go_simp; (try with_reducible rfl))); (try simp only [Act.put, List.setIfInBounds_toArray, List.set_cons_zero, List.set_cons_succ]))
            generalize hV : w6.drew.drew = V at *
            clear hV
            have hVs := (unhide HV).size
            (refine wpAnyH_ready (rs := [0, 9]) (by kernel_rfl) (by simp) ?_; refine AllReadyH.cons (o := _) rfl (fun K hK => ?_) (AllReadyH.cons (o := _) rfl (fun K hK => ?_) AllReadyH.nil))
            · go_simp
              have HV1 := hide ((unhide HV).alloc (unhide HV).size (.cells #[] 3))
              have O0 := hide (In.own_empty V w6.heap.size hVs)
              refine hK.out _ _ (unhide HX _ ((unhide HL6).below (unhide HV1))) (fun hHeld => ?_)
              clear hK K
              (try simp only [Act.put, List.setIfInBounds_toArray, List.set_cons_zero, List.set_cons_succ])
              (refine wpAnyH_ready (rs := [4, 9]) (by kernel_rfl) (by simp) ?_; refine AllReadyH.cons (o := _) rfl (fun K hK => ?_) (AllReadyH.cons (o := _) rfl (fun K hK => ?_) AllReadyH.nil))
              · rw [if_pos (by rfl)]
                refine wp_apI (unhide O0) g 0 0 0 (SS.take 0) (unhide lt1) (rmI_take ((unhide HU6).below (unhide HV1)) 0) (by rw [unhide lt1]; simp <;> omega) (unhide HV1).size _ _ rfl rfl rfl rfl ?_
                intro v4 w4 o4 g4
                have O4 := hide o4
                have HV4 := hide (In.below_own (unhide HV1) (unhide O0) g4 (Nat.le_refl _) (unhide HV1).size)
                clear o4 g4
                refine hK.out _ _ (unhide HX _ ((unhide HL6).below (unhide HV4))) (fun hHeld => ?_)
                clear hK K
                (try simp only [Act.put, List.setIfInBounds_toArray, List.set_cons_zero, List.set_cons_succ])
                (refine wpAnyH_ready (rs := [9]) (by kernel_rfl) (by simp) ?_; refine AllReadyH.cons (o := _) rfl (fun K hK => ?_) AllReadyH.nil; go_simp)
                have HV6 := hide ((unhide HV4).alloc (unhide HV4).size (.cells #[.int .i64 x] 3))
                have O6 := hide ((unhide O4).alloc (.cells #[.int .i64 x] 3))
                have RX := hide (In.rm_new w4 x)
                refine hK.out _ _ (unhide HX _ ((unhide HL6).below (unhide HV6))) (fun hHeld => ?_)
                clear hK K
                (try simp only [Act.put, List.setIfInBounds_toArray, List.set_cons_zero, List.set_cons_succ])
                (refine wpAnyH_ready (rs := [10]) (by kernel_rfl) (by simp) ?_; refine AllReadyH.cons (o := _) rfl (fun K hK => ?_) AllReadyH.nil; rw [if_pos (by rfl)])
                refine wp_apI (unhide O6) _ 0 1 1 [x] rfl (unhide RX) (by simp only [List.nil_append, List.length_cons, List.length_nil]; rw [unhide lt1]; omega) (unhide HV6).size _ _ rfl rfl rfl rfl ?_
                intro v7 w7 o7 g7
                have O7 := hide o7
                have HV7 := hide (In.below_own (unhide HV6) (unhide O6) g7 (Nat.le_refl _) (unhide HV6).size)
                clear o7 g7
                refine hK.out _ _ (unhide HX _ ((unhide HL6).below (unhide HV7))) (fun hHeld => ?_)
                clear hK K
                (try simp only [Act.put, List.setIfInBounds_toArray, List.set_cons_zero, List.set_cons_succ])
                (refine wpAnyH_ready (rs := [14]) (by kernel_rfl) (by simp) ?_; refine AllReadyH.cons (o := _) rfl (fun K hK => ?_) AllReadyH.nil; rw [if_pos (by rfl)])
                refine wp_apI (unhide O7) g _ _ _ (SS.drop _) (unhide ld1) (unhide HD _ ((unhide HU6).below (unhide HV7))) (by simp only [List.nil_append, List.length_append, List.length_cons, List.length_nil]; rw [unhide ld1, unhide lt1]; omega) (unhide HV7).size _ _ rfl rfl rfl rfl ?_
                intro v8 w8 o8 g8
                have HV8 := hide (In.below_own (unhide HV7) (unhide O7) g8 (Nat.le_refl _) (unhide HV7).size)
                rw [← unhide HE1, unhide HSL1] at o8
                obtain ⟨g9, c9, rfl, hc9, hm9⟩ := own_form o8 (by omega)
                have HO9 := hide (own_base (b' := w.heap.size) o8 hs6)
                have HM9 := hide hm9
                clear o8 g8 hm9
                refine hK.out _ _ (unhide HX _ ((unhide HL6).below (unhide HV8))) (fun hHeld => ?_)
                clear hK K
                (try simp only [Act.put, List.setIfInBounds_toArray, List.set_cons_zero, List.set_cons_succ])
                (refine Rg.tk (i := 15) (d := 3) (v := ?_) rfl rfl (by kernel_rfl) (by kernel_rfl) (by kernel_rfl) (fun _ _ _ h => h) (by rfl) ?_ (by assumption) ?_; rotate_left; (focus (intro w0 hSw; (try dsimp only at hSw); go_simp; (try with_reducible rfl))); (try simp only [Act.put, List.setIfInBounds_toArray, List.set_cons_zero, List.set_cons_succ]))
                refine wpAnyH_done (by kernel_rfl) (NoPanic.normal ?_) _
                have HBF := hide ((unhide HB6).trans ((unhide HV8).mono hs6))
                clear hHeld
                go_wp2_with fail
                go_roundw
                case rel => exact ⟨j + 1, by omega, by go_num, g9, c9, rfl, hc9, HM9, HO9, HBF⟩
                case measure => simp [intOf]; omega
              · go_simp
                have HV5 := hide ((unhide HV1).alloc (unhide HV1).size (.cells #[.int .i64 x] 3))
                have O5 := hide ((unhide O0).alloc (.cells #[.int .i64 x] 3))
                have RX0 := In.rm_new (V.alloc (.cells #[] 3)) x
                simp only [World.size_alloc] at RX0
                have RX5 := hide RX0
                clear RX0
                refine hK.out _ _ (unhide HX _ ((unhide HL6).below (unhide HV5))) (fun hHeld => ?_)
                clear hK K
                (try simp only [Act.put, List.setIfInBounds_toArray, List.set_cons_zero, List.set_cons_succ])
                (refine wpAnyH_ready (rs := [4]) (by kernel_rfl) (by simp) ?_; refine AllReadyH.cons (o := _) rfl (fun K hK => ?_) AllReadyH.nil; rw [if_pos (by rfl)])
                refine wp_apI (unhide O5) g 0 0 0 (SS.take 0) (unhide lt1) (rmI_take ((unhide HU6).below (unhide HV5)) 0) (by rw [unhide lt1]; simp <;> omega) (unhide HV5).size _ _ rfl rfl rfl rfl ?_
                intro v4 w4 o4 g4
                have O6 := hide o4
                have HV6 := hide (In.below_own (unhide HV5) (unhide O5) g4 (Nat.le_refl _) (unhide HV5).size)
                have RX := hide (rmI_grown (unhide RX5) g4 (by simp [Value.ownBlock]))
                clear o4 g4
                refine hK.out _ _ (unhide HX _ ((unhide HL6).below (unhide HV6))) (fun hHeld => ?_)
                clear hK K
                (try simp only [Act.put, List.setIfInBounds_toArray, List.set_cons_zero, List.set_cons_succ])
                (refine wpAnyH_ready (rs := [10]) (by kernel_rfl) (by simp) ?_; refine AllReadyH.cons (o := _) rfl (fun K hK => ?_) AllReadyH.nil; rw [if_pos (by rfl)])
                refine wp_apI (unhide O6) _ 0 1 1 [x] rfl (unhide RX) (by simp only [List.nil_append, List.length_cons, List.length_nil]; rw [unhide lt1]; omega) (unhide HV6).size _ _ rfl rfl rfl rfl ?_
                intro v7 w7 o7 g7
                have O7 := hide o7
                have HV7 := hide (In.below_own (unhide HV6) (unhide O6) g7 (Nat.le_refl _) (unhide HV6).size)
                clear o7 g7
                refine hK.out _ _ (unhide HX _ ((unhide HL6).below (unhide HV7))) (fun hHeld => ?_)
                clear hK K
                (try simp only [Act.put, List.setIfInBounds_toArray, List.set_cons_zero, List.set_cons_succ])
                (refine wpAnyH_ready (rs := [14]) (by kernel_rfl) (by simp) ?_; refine AllReadyH.cons (o := _) rfl (fun K hK => ?_) AllReadyH.nil; rw [if_pos (by rfl)])
                refine wp_apI (unhide O7) g _ _ _ (SS.drop _) (unhide ld1) (unhide HD _ ((unhide HU6).below (unhide HV7))) (by simp only [List.nil_append, List.length_append, List.length_cons, List.length_nil]; rw [unhide ld1, unhide lt1]; omega) (unhide HV7).size _ _ rfl rfl rfl rfl ?_
                intro v8 w8 o8 g8
                have HV8 := hide (In.below_own (unhide HV7) (unhide O7) g8 (Nat.le_refl _) (unhide HV7).size)
                rw [← unhide HE1, unhide HSL1] at o8
                obtain ⟨g9, c9, rfl, hc9, hm9⟩ := own_form o8 (by omega)
                have HO9 := hide (own_base (b' := w.heap.size) o8 hs6)
                have HM9 := hide hm9
                clear o8 g8 hm9
                refine hK.out _ _ (unhide HX _ ((unhide HL6).below (unhide HV8))) (fun hHeld => ?_)
                clear hK K
                (try simp only [Act.put, List.setIfInBounds_toArray, List.set_cons_zero, List.set_cons_succ])
                (refine Rg.tk (i := 15) (d := 3) (v := ?_) rfl rfl (by kernel_rfl) (by kernel_rfl) (by kernel_rfl) (fun _ _ _ h => h) (by rfl) ?_ (by assumption) ?_; rotate_left; (focus (intro w0 hSw; (try dsimp only at hSw); go_simp; (try with_reducible rfl))); (try simp only [Act.put, List.setIfInBounds_toArray, List.set_cons_zero, List.set_cons_succ]))
                refine wpAnyH_done (by kernel_rfl) (NoPanic.normal ?_) _
                have HBF := hide ((unhide HB6).trans ((unhide HV8).mono hs6))
                clear hHeld
                go_wp2_with fail
                go_roundw
                case rel => exact ⟨j + 1, by omega, by go_num, g9, c9, rfl, hc9, HM9, HO9, HBF⟩
                case measure => simp [intOf]; omega
            · go_simp
              have HV1 := hide ((unhide HV).alloc (unhide HV).size (.cells #[.int .i64 x] 3))
              have RX1 := hide (In.rm_new V x)
              refine hK.out _ _ (unhide HX _ ((unhide HL6).below (unhide HV1))) (fun hHeld => ?_)
              clear hK K
              (try simp only [Act.put, List.setIfInBounds_toArray, List.set_cons_zero, List.set_cons_succ])
              (refine wpAnyH_ready (rs := [0]) (by kernel_rfl) (by simp) ?_; refine AllReadyH.cons (o := _) rfl (fun K hK => ?_) AllReadyH.nil; go_simp)
              have HV5 := hide ((unhide HV1).alloc (unhide HV1).size (.cells #[] 3))
              have O50 := In.own_empty (V.alloc (.cells #[.int .i64 x] 3)) w6.heap.size (unhide HV1).size
              simp only [World.size_alloc] at O50
              have O5 := hide O50
              clear O50
              have RX5 := hide ((unhide RX1).below ((Below.refl _ _).alloc (Nat.le_refl _) (.cells #[] 3)))
              refine hK.out _ _ (unhide HX _ ((unhide HL6).below (unhide HV5))) (fun hHeld => ?_)
              clear hK K
              (try simp only [Act.put, List.setIfInBounds_toArray, List.set_cons_zero, List.set_cons_succ])
              (refine wpAnyH_ready (rs := [4]) (by kernel_rfl) (by simp) ?_; refine AllReadyH.cons (o := _) rfl (fun K hK => ?_) AllReadyH.nil; rw [if_pos (by rfl)])
              refine wp_apI (unhide O5) g 0 0 0 (SS.take 0) (unhide lt1) (rmI_take ((unhide HU6).below (unhide HV5)) 0) (by rw [unhide lt1]; simp <;> omega) (unhide HV5).size _ _ rfl rfl rfl rfl ?_
              intro v4 w4 o4 g4
              have O6 := hide o4
              have HV6 := hide (In.below_own (unhide HV5) (unhide O5) g4 (Nat.le_refl _) (unhide HV5).size)
              have RX := hide (rmI_grown (unhide RX5) g4 (by simp [Value.ownBlock]))
              clear o4 g4
              refine hK.out _ _ (unhide HX _ ((unhide HL6).below (unhide HV6))) (fun hHeld => ?_)
              clear hK K
              (try simp only [Act.put, List.setIfInBounds_toArray, List.set_cons_zero, List.set_cons_succ])
              (refine wpAnyH_ready (rs := [10]) (by kernel_rfl) (by simp) ?_; refine AllReadyH.cons (o := _) rfl (fun K hK => ?_) AllReadyH.nil; rw [if_pos (by rfl)])
              refine wp_apI (unhide O6) _ 0 1 1 [x] rfl (unhide RX) (by simp only [List.nil_append, List.length_cons, List.length_nil]; rw [unhide lt1]; omega) (unhide HV6).size _ _ rfl rfl rfl rfl ?_
              intro v7 w7 o7 g7
              have O7 := hide o7
              have HV7 := hide (In.below_own (unhide HV6) (unhide O6) g7 (Nat.le_refl _) (unhide HV6).size)
              clear o7 g7
              refine hK.out _ _ (unhide HX _ ((unhide HL6).below (unhide HV7))) (fun hHeld => ?_)
              clear hK K
              (try simp only [Act.put, List.setIfInBounds_toArray, List.set_cons_zero, List.set_cons_succ])
              (refine wpAnyH_ready (rs := [14]) (by kernel_rfl) (by simp) ?_; refine AllReadyH.cons (o := _) rfl (fun K hK => ?_) AllReadyH.nil; rw [if_pos (by rfl)])
              refine wp_apI (unhide O7) g _ _ _ (SS.drop _) (unhide ld1) (unhide HD _ ((unhide HU6).below (unhide HV7))) (by simp only [List.nil_append, List.length_append, List.length_cons, List.length_nil]; rw [unhide ld1, unhide lt1]; omega) (unhide HV7).size _ _ rfl rfl rfl rfl ?_
              intro v8 w8 o8 g8
              have HV8 := hide (In.below_own (unhide HV7) (unhide O7) g8 (Nat.le_refl _) (unhide HV7).size)
              rw [← unhide HE1, unhide HSL1] at o8
              obtain ⟨g9, c9, rfl, hc9, hm9⟩ := own_form o8 (by omega)
              have HO9 := hide (own_base (b' := w.heap.size) o8 hs6)
              have HM9 := hide hm9
              clear o8 g8 hm9
              refine hK.out _ _ (unhide HX _ ((unhide HL6).below (unhide HV8))) (fun hHeld => ?_)
              clear hK K
              (try simp only [Act.put, List.setIfInBounds_toArray, List.set_cons_zero, List.set_cons_succ])
              (refine Rg.tk (i := 15) (d := 3) (v := ?_) rfl rfl (by kernel_rfl) (by kernel_rfl) (by kernel_rfl) (fun _ _ _ h => h) (by rfl) ?_ (by assumption) ?_; rotate_left; (focus (intro w0 hSw; (try dsimp only at hSw); go_simp; (try with_reducible rfl))); (try simp only [Act.put, List.setIfInBounds_toArray, List.set_cons_zero, List.set_cons_succ]))
              refine wpAnyH_done (by kernel_rfl) (NoPanic.normal ?_) _
              have HBF := hide ((unhide HB6).trans ((unhide HV8).mono hs6))
              clear hHeld
              go_wp2_with fail
              go_roundw
              case rel => exact ⟨j + 1, by omega, by go_num, g9, c9, rfl, hc9, HM9, HO9, HBF⟩
              case measure => simp [intOf]; omega
          · rw [if_neg hcp] at HD
            go_wp2_with fail
            refine wp_region_noPanic ?_
            refine wp_region_held_drew (S := fun w' => w'.cell? ⟨gl, ol + j, none⟩ = some (.int .i64 x)) (by kernel_rfl) (unhide HX _ ((unhide HL6).below (unhide HV))) (fun hHeld => ?_)
            (refine Rg.tk (i := 1) (d := 32) (v := ?_) rfl rfl (by kernel_rfl) (by kernel_rfl) (by kernel_rfl) (fun _ _ _ h => h) (by rfl) ?_ (by assumption) ?_; rotate_left; (focus (intro w0 hSw; (try dsimp only at hSw); go_simp; (try with_reducible rfl))); (try simp only [Act.put, List.setIfInBounds_toArray, List.set_cons_zero, List.set_cons_succ]))
            (refine Rg.tk (i := 2) (d := 33) (v := ?_) rfl rfl (by kernel_rfl) (by kernel_rfl) (by kernel_rfl) (fun _ _ _ h => h) (by rfl) ?_ (by assumption) ?_; rotate_left; (focus (intro w0 hSw; (try dsimp only at hSw); go_simp; (try with_reducible rfl))); (try simp only [Act.put, List.setIfInBounds_toArray, List.set_cons_zero, List.set_cons_succ]))
            (refine Rg.tk (i := 3) (d := 34) (v := ?_) rfl rfl (by kernel_rfl) (by kernel_rfl) (by kernel_rfl) (fun _ _ _ h => h) (by rfl) ?_ (by assumption) ?_; rotate_left; (focus (intro w0 hSw; (try dsimp only at hSw); go_simp; (try with_reducible rfl))); (try simp only [Act.put, List.setIfInBounds_toArray, List.set_cons_zero, List.set_cons_succ]))
            (refine Rg.tk (i := 5) (d := 36) (v := ?_) rfl rfl (by kernel_rfl) (by kernel_rfl) (by kernel_rfl) (fun _ _ _ h => h) (by rfl) ?_ (by assumption) ?_; rotate_left; (focus (intro w0 hSw; (try dsimp only at hSw); go_simp; (try with_reducible rfl))); (try simp only [Act.put, List.setIfInBounds_toArray, List.set_cons_zero, List.set_cons_succ]))
            (refine Rg.tk (i := 6) (d := 37) (v := ?_) rfl rfl (by kernel_rfl) (by kernel_rfl) (by kernel_rfl) (fun _ _ _ h => h) (by rfl) ?_ (by assumption) ?_; rotate_left; (focus (intro w0 hSw; (try dsimp only at hSw); go_simp; (try with_reducible rfl))); (try simp only [Act.put, List.setIfInBounds_toArray, List.set_cons_zero, List.set_cons_succ]))
            (refine Rg.tk (i := 7) (d := 38) (v := ?_) rfl rfl (by kernel_rfl) (by kernel_rfl) (by kernel_rfl) (fun _ _ _ h => h) (by rfl) ?_ (by assumption) ?_; rotate_left; (focus (intro w0 hSw; (try dsimp only at hSw); go_simp; (try with_reducible rfl))); (try simp only [Act.put, List.setIfInBounds_toArray, List.set_cons_zero, List.set_cons_succ]))
            (refine Rg.tk (i := 8) (d := 39) (v := ?_) rfl rfl (by kernel_rfl) (by kernel_rfl) (by kernel_rfl) (fun _ _ _ h => h) (by rfl) ?_ (by assumption) ?_; rotate_left; (focus (intro w0 hSw; (try dsimp only at hSw); go_simp; (try with_reducible rfl))); (try simp only [Act.put, List.setIfInBounds_toArray, List.set_cons_zero, List.set_cons_succ]))
            (refine Rg.tk (i := 11) (d := 42) (v := ?_) rfl rfl (by kernel_rfl) (by kernel_rfl) (by kernel_rfl) (fun _ _ _ h => h) (by rfl) ?_ (by assumption) ?_; rotate_left; (focus (intro w0 hSw; (try dsimp only at hSw); go_simp; (try with_reducible rfl))); (try simp only [Act.put, List.setIfInBounds_toArray, List.set_cons_zero, List.set_cons_succ]))
            (refine Rg.tk (i := 12) (d := 43) (v := ?_) rfl rfl (by kernel_rfl) (by kernel_rfl) (by kernel_rfl) (fun _ _ _ h => h) (by rfl) ?_ (by assumption) ?_; rotate_left; (focus (intro w0 hSw; (try dsimp only at hSw); go_simp; (try with_reducible rfl))); (try simp only [Act.put, List.setIfInBounds_toArray, List.set_cons_zero, List.set_cons_succ]))
            (refine Rg.tk (i := 13) (d := 44) (v := ?_) rfl rfl (by kernel_rfl) (by kernel_rfl) (by kernel_rfl) (fun _ _ _ h => h) (by rfl) ?_ (by assumption) ?_; rotate_left; (focus (intro w0 hSw; (try dsimp only at hSw); go_simp; (try with_reducible rfl))); (try simp only [Act.put, List.setIfInBounds_toArray, List.set_cons_zero, List.set_cons_succ]))
            generalize hV : w6.drew.drew = V at *
            clear hV
            have hVs := (unhide HV).size
            (refine wpAnyH_ready (rs := [0, 9]) (by kernel_rfl) (by simp) ?_; refine AllReadyH.cons (o := _) rfl (fun K hK => ?_) (AllReadyH.cons (o := _) rfl (fun K hK => ?_) AllReadyH.nil))
            · go_simp
              have HV1 := hide ((unhide HV).alloc (unhide HV).size (.cells #[] 3))
              have O0 := hide (In.own_empty V w6.heap.size hVs)
              refine hK.out _ _ (unhide HX _ ((unhide HL6).below (unhide HV1))) (fun hHeld => ?_)
              clear hK K
              (try simp only [Act.put, List.setIfInBounds_toArray, List.set_cons_zero, List.set_cons_succ])
              (refine wpAnyH_ready (rs := [4, 9]) (by kernel_rfl) (by simp) ?_; refine AllReadyH.cons (o := _) rfl (fun K hK => ?_) (AllReadyH.cons (o := _) rfl (fun K hK => ?_) AllReadyH.nil))
              · rw [if_pos (by rfl)]
                refine wp_apI (unhide O0) g 0 0 c (SS.take 0) (unhide lt1) (rmI_take ((unhide HU6).below (unhide HV1)) 0) (by rw [unhide lt1]; simp <;> omega) (unhide HV1).size _ _ rfl rfl rfl rfl ?_
                intro v4 w4 o4 g4
                have O4 := hide o4
                have HV4 := hide (In.below_own (unhide HV1) (unhide O0) g4 (Nat.le_refl _) (unhide HV1).size)
                clear o4 g4
                refine hK.out _ _ (unhide HX _ ((unhide HL6).below (unhide HV4))) (fun hHeld => ?_)
                clear hK K
                (try simp only [Act.put, List.setIfInBounds_toArray, List.set_cons_zero, List.set_cons_succ])
                (refine wpAnyH_ready (rs := [9]) (by kernel_rfl) (by simp) ?_; refine AllReadyH.cons (o := _) rfl (fun K hK => ?_) AllReadyH.nil; go_simp)
                have HV6 := hide ((unhide HV4).alloc (unhide HV4).size (.cells #[.int .i64 x] 3))
                have O6 := hide ((unhide O4).alloc (.cells #[.int .i64 x] 3))
                have RX := hide (In.rm_new w4 x)
                refine hK.out _ _ (unhide HX _ ((unhide HL6).below (unhide HV6))) (fun hHeld => ?_)
                clear hK K
                (try simp only [Act.put, List.setIfInBounds_toArray, List.set_cons_zero, List.set_cons_succ])
                (refine wpAnyH_ready (rs := [10]) (by kernel_rfl) (by simp) ?_; refine AllReadyH.cons (o := _) rfl (fun K hK => ?_) AllReadyH.nil; rw [if_pos (by rfl)])
                refine wp_apI (unhide O6) _ 0 1 1 [x] rfl (unhide RX) (by simp only [List.nil_append, List.length_cons, List.length_nil]; rw [unhide lt1]; omega) (unhide HV6).size _ _ rfl rfl rfl rfl ?_
                intro v7 w7 o7 g7
                have O7 := hide o7
                have HV7 := hide (In.below_own (unhide HV6) (unhide O6) g7 (Nat.le_refl _) (unhide HV6).size)
                clear o7 g7
                refine hK.out _ _ (unhide HX _ ((unhide HL6).below (unhide HV7))) (fun hHeld => ?_)
                clear hK K
                (try simp only [Act.put, List.setIfInBounds_toArray, List.set_cons_zero, List.set_cons_succ])
                (refine wpAnyH_ready (rs := [14]) (by kernel_rfl) (by simp) ?_; refine AllReadyH.cons (o := _) rfl (fun K hK => ?_) AllReadyH.nil; rw [if_pos (by rfl)])
                refine wp_apI (unhide O7) g _ _ _ (SS.drop _) (unhide ld1) (unhide HD _ ((unhide HU6).below (unhide HV7))) (by simp only [List.nil_append, List.length_append, List.length_cons, List.length_nil]; rw [unhide ld1, unhide lt1]; omega) (unhide HV7).size _ _ rfl rfl rfl rfl ?_
                intro v8 w8 o8 g8
                have HV8 := hide (In.below_own (unhide HV7) (unhide O7) g8 (Nat.le_refl _) (unhide HV7).size)
                rw [← unhide HE1, unhide HSL1] at o8
                obtain ⟨g9, c9, rfl, hc9, hm9⟩ := own_form o8 (by omega)
                have HO9 := hide (own_base (b' := w.heap.size) o8 hs6)
                have HM9 := hide hm9
                clear o8 g8 hm9
                refine hK.out _ _ (unhide HX _ ((unhide HL6).below (unhide HV8))) (fun hHeld => ?_)
                clear hK K
                (try simp only [Act.put, List.setIfInBounds_toArray, List.set_cons_zero, List.set_cons_succ])
                (refine Rg.tk (i := 15) (d := 3) (v := ?_) rfl rfl (by kernel_rfl) (by kernel_rfl) (by kernel_rfl) (fun _ _ _ h => h) (by rfl) ?_ (by assumption) ?_; rotate_left; (focus (intro w0 hSw; (try dsimp only at hSw); go_simp; (try with_reducible rfl))); (try simp only [Act.put, List.setIfInBounds_toArray, List.set_cons_zero, List.set_cons_succ]))
                refine wpAnyH_done (by kernel_rfl) (NoPanic.normal ?_) _
                have HBF := hide ((unhide HB6).trans ((unhide HV8).mono hs6))
                clear hHeld
                go_wp2_with fail
                go_roundw
                case rel => exact ⟨j + 1, by omega, by go_num, g9, c9, rfl, hc9, HM9, HO9, HBF⟩
                case measure => simp [intOf]; omega
              · go_simp
                have HV5 := hide ((unhide HV1).alloc (unhide HV1).size (.cells #[.int .i64 x] 3))
                have O5 := hide ((unhide O0).alloc (.cells #[.int .i64 x] 3))
                have RX0 := In.rm_new (V.alloc (.cells #[] 3)) x
                simp only [World.size_alloc] at RX0
                have RX5 := hide RX0
                clear RX0
                refine hK.out _ _ (unhide HX _ ((unhide HL6).below (unhide HV5))) (fun hHeld => ?_)
                clear hK K
                (try simp only [Act.put, List.setIfInBounds_toArray, List.set_cons_zero, List.set_cons_succ])
                (refine wpAnyH_ready (rs := [4]) (by kernel_rfl) (by simp) ?_; refine AllReadyH.cons (o := _) rfl (fun K hK => ?_) AllReadyH.nil; rw [if_pos (by rfl)])
                refine wp_apI (unhide O5) g 0 0 c (SS.take 0) (unhide lt1) (rmI_take ((unhide HU6).below (unhide HV5)) 0) (by rw [unhide lt1]; simp <;> omega) (unhide HV5).size _ _ rfl rfl rfl rfl ?_
                intro v4 w4 o4 g4
                have O6 := hide o4
                have HV6 := hide (In.below_own (unhide HV5) (unhide O5) g4 (Nat.le_refl _) (unhide HV5).size)
                have RX := hide (rmI_grown (unhide RX5) g4 (by simp [Value.ownBlock]))
                clear o4 g4
                refine hK.out _ _ (unhide HX _ ((unhide HL6).below (unhide HV6))) (fun hHeld => ?_)
                clear hK K
                (try simp only [Act.put, List.setIfInBounds_toArray, List.set_cons_zero, List.set_cons_succ])
                (refine wpAnyH_ready (rs := [10]) (by kernel_rfl) (by simp) ?_; refine AllReadyH.cons (o := _) rfl (fun K hK => ?_) AllReadyH.nil; rw [if_pos (by rfl)])
                refine wp_apI (unhide O6) _ 0 1 1 [x] rfl (unhide RX) (by simp only [List.nil_append, List.length_cons, List.length_nil]; rw [unhide lt1]; omega) (unhide HV6).size _ _ rfl rfl rfl rfl ?_
                intro v7 w7 o7 g7
                have O7 := hide o7
                have HV7 := hide (In.below_own (unhide HV6) (unhide O6) g7 (Nat.le_refl _) (unhide HV6).size)
                clear o7 g7
                refine hK.out _ _ (unhide HX _ ((unhide HL6).below (unhide HV7))) (fun hHeld => ?_)
                clear hK K
                (try simp only [Act.put, List.setIfInBounds_toArray, List.set_cons_zero, List.set_cons_succ])
                (refine wpAnyH_ready (rs := [14]) (by kernel_rfl) (by simp) ?_; refine AllReadyH.cons (o := _) rfl (fun K hK => ?_) AllReadyH.nil; rw [if_pos (by rfl)])
                refine wp_apI (unhide O7) g _ _ _ (SS.drop _) (unhide ld1) (unhide HD _ ((unhide HU6).below (unhide HV7))) (by simp only [List.nil_append, List.length_append, List.length_cons, List.length_nil]; rw [unhide ld1, unhide lt1]; omega) (unhide HV7).size _ _ rfl rfl rfl rfl ?_
                intro v8 w8 o8 g8
                have HV8 := hide (In.below_own (unhide HV7) (unhide O7) g8 (Nat.le_refl _) (unhide HV7).size)
                rw [← unhide HE1, unhide HSL1] at o8
                obtain ⟨g9, c9, rfl, hc9, hm9⟩ := own_form o8 (by omega)
                have HO9 := hide (own_base (b' := w.heap.size) o8 hs6)
                have HM9 := hide hm9
                clear o8 g8 hm9
                refine hK.out _ _ (unhide HX _ ((unhide HL6).below (unhide HV8))) (fun hHeld => ?_)
                clear hK K
                (try simp only [Act.put, List.setIfInBounds_toArray, List.set_cons_zero, List.set_cons_succ])
                (refine Rg.tk (i := 15) (d := 3) (v := ?_) rfl rfl (by kernel_rfl) (by kernel_rfl) (by kernel_rfl) (fun _ _ _ h => h) (by rfl) ?_ (by assumption) ?_; rotate_left; (focus (intro w0 hSw; (try dsimp only at hSw); go_simp; (try with_reducible rfl))); (try simp only [Act.put, List.setIfInBounds_toArray, List.set_cons_zero, List.set_cons_succ]))
                refine wpAnyH_done (by kernel_rfl) (NoPanic.normal ?_) _
                have HBF := hide ((unhide HB6).trans ((unhide HV8).mono hs6))
                clear hHeld
                go_wp2_with fail
                go_roundw
                case rel => exact ⟨j + 1, by omega, by go_num, g9, c9, rfl, hc9, HM9, HO9, HBF⟩
                case measure => simp [intOf]; omega
            · go_simp
              have HV1 := hide ((unhide HV).alloc (unhide HV).size (.cells #[.int .i64 x] 3))
              have RX1 := hide (In.rm_new V x)
              refine hK.out _ _ (unhide HX _ ((unhide HL6).below (unhide HV1))) (fun hHeld => ?_)
              clear hK K
              (try simp only [Act.put, List.setIfInBounds_toArray, List.set_cons_zero, List.set_cons_succ])
              (refine wpAnyH_ready (rs := [0]) (by kernel_rfl) (by simp) ?_; refine AllReadyH.cons (o := _) rfl (fun K hK => ?_) AllReadyH.nil; go_simp)
              have HV5 := hide ((unhide HV1).alloc (unhide HV1).size (.cells #[] 3))
              have O50 := In.own_empty (V.alloc (.cells #[.int .i64 x] 3)) w6.heap.size (unhide HV1).size
              simp only [World.size_alloc] at O50
              have O5 := hide O50
              clear O50
              have RX5 := hide ((unhide RX1).below ((Below.refl _ _).alloc (Nat.le_refl _) (.cells #[] 3)))
              refine hK.out _ _ (unhide HX _ ((unhide HL6).below (unhide HV5))) (fun hHeld => ?_)
              clear hK K
              (try simp only [Act.put, List.setIfInBounds_toArray, List.set_cons_zero, List.set_cons_succ])
              (refine wpAnyH_ready (rs := [4]) (by kernel_rfl) (by simp) ?_; refine AllReadyH.cons (o := _) rfl (fun K hK => ?_) AllReadyH.nil; rw [if_pos (by rfl)])
              refine wp_apI (unhide O5) g 0 0 c (SS.take 0) (unhide lt1) (rmI_take ((unhide HU6).below (unhide HV5)) 0) (by rw [unhide lt1]; simp <;> omega) (unhide HV5).size _ _ rfl rfl rfl rfl ?_
              intro v4 w4 o4 g4
              have O6 := hide o4
              have HV6 := hide (In.below_own (unhide HV5) (unhide O5) g4 (Nat.le_refl _) (unhide HV5).size)
              have RX := hide (rmI_grown (unhide RX5) g4 (by simp [Value.ownBlock]))
              clear o4 g4
              refine hK.out _ _ (unhide HX _ ((unhide HL6).below (unhide HV6))) (fun hHeld => ?_)
              clear hK K
              (try simp only [Act.put, List.setIfInBounds_toArray, List.set_cons_zero, List.set_cons_succ])
              (refine wpAnyH_ready (rs := [10]) (by kernel_rfl) (by simp) ?_; refine AllReadyH.cons (o := _) rfl (fun K hK => ?_) AllReadyH.nil; rw [if_pos (by rfl)])
              refine wp_apI (unhide O6) _ 0 1 1 [x] rfl (unhide RX) (by simp only [List.nil_append, List.length_cons, List.length_nil]; rw [unhide lt1]; omega) (unhide HV6).size _ _ rfl rfl rfl rfl ?_
              intro v7 w7 o7 g7
              have O7 := hide o7
              have HV7 := hide (In.below_own (unhide HV6) (unhide O6) g7 (Nat.le_refl _) (unhide HV6).size)
              clear o7 g7
              refine hK.out _ _ (unhide HX _ ((unhide HL6).below (unhide HV7))) (fun hHeld => ?_)
              clear hK K
              (try simp only [Act.put, List.setIfInBounds_toArray, List.set_cons_zero, List.set_cons_succ])
              (refine wpAnyH_ready (rs := [14]) (by kernel_rfl) (by simp) ?_; refine AllReadyH.cons (o := _) rfl (fun K hK => ?_) AllReadyH.nil; rw [if_pos (by rfl)])
              refine wp_apI (unhide O7) g _ _ _ (SS.drop _) (unhide ld1) (unhide HD _ ((unhide HU6).below (unhide HV7))) (by simp only [List.nil_append, List.length_append, List.length_cons, List.length_nil]; rw [unhide ld1, unhide lt1]; omega) (unhide HV7).size _ _ rfl rfl rfl rfl ?_
              intro v8 w8 o8 g8
              have HV8 := hide (In.below_own (unhide HV7) (unhide O7) g8 (Nat.le_refl _) (unhide HV7).size)
              rw [← unhide HE1, unhide HSL1] at o8
              obtain ⟨g9, c9, rfl, hc9, hm9⟩ := own_form o8 (by omega)
              have HO9 := hide (own_base (b' := w.heap.size) o8 hs6)
              have HM9 := hide hm9
              clear o8 g8 hm9
              refine hK.out _ _ (unhide HX _ ((unhide HL6).below (unhide HV8))) (fun hHeld => ?_)
              clear hK K
              (try simp only [Act.put, List.setIfInBounds_toArray, List.set_cons_zero, List.set_cons_succ])
              (refine Rg.tk (i := 15) (d := 3) (v := ?_) rfl rfl (by kernel_rfl) (by kernel_rfl) (by kernel_rfl) (fun _ _ _ h => h) (by rfl) ?_ (by assumption) ?_; rotate_left; (focus (intro w0 hSw; (try dsimp only at hSw); go_simp; (try with_reducible rfl))); (try simp only [Act.put, List.setIfInBounds_toArray, List.set_cons_zero, List.set_cons_succ]))
              refine wpAnyH_done (by kernel_rfl) (NoPanic.normal ?_) _
              have HBF := hide ((unhide HB6).trans ((unhide HV8).mono hs6))
              clear hHeld
              go_wp2_with fail
              go_roundw
              case rel => exact ⟨j + 1, by omega, by go_num, g9, c9, rfl, hc9, HM9, HO9, HBF⟩
              case measure => simp [intOf]; omega
        · have hlt2 : t < j := by omega
          have ec : ((t + 1 : Nat) : Int) = (t : Int) + 1 := by omega
          rw [ec]
          have HY : Hid (∀ W : World, In.RM W (some ⟨g, 0, none⟩) SS → W.cell? ⟨g, t, none⟩ = some (.int .i64 (SS.getD t 0))) := hide (fun W h => by have := h.at (i := t) (by rw [unhide HSL]; exact hlt2); rw [Nat.zero_add] at this; exact this)
          have k1 : (0 : Int) ≤ (t : Int) := by omega
          have k2 : (0 : Int) < (t : Int) + 1 := by omega
          have k3 : (t : Int) < (j : Int) := by omega
          have HUP : Hid (x < SS.getD t 0 → ∀ i, t ≤ i → i < j → x < SS.getD i 0) := hide (fun h i h1 h2 => by
            by_cases e : i = t
            · subst e; exact h
            · exact unhide hup i (by omega) h2)
          have HTT : Hid (¬ x < SS.getD t 0 → SS.length - tailN SS x = t + 1) := hide (fun h => tail_of (by rw [unhide HSL]; omega) (fun i h1 h2 => unhide hup i h1 (by rw [← unhide HSL]; exact h2)) (fun _ => by rw [Nat.add_sub_cancel]; exact h))
          generalize SS.getD t 0 = y at *
          by_cases hxy : x < y
          · have HUQ := hide (unhide HUP hxy)
            go_wp2_with fail
            refine wp_region_noPanic ?_
            refine wp_region_held_drew (S := fun w' => w'.cell? ⟨g, t, none⟩ = some (.int .i64 y) ∧ w'.cell? ⟨gl, ol + j, none⟩ = some (.int .i64 x)) (by kernel_rfl) ⟨unhide HY _ ((unhide HU6).below ((Below.refl _ _).drew)), unhide HX _ ((unhide HL6).below ((Below.refl _ _).drew))⟩ (fun hHeld => ?_)
            (refine Rg.tk (i := 0) (d := 15) (v := ?_) rfl rfl (by kernel_rfl) (by kernel_rfl) (by kernel_rfl) (fun _ _ _ h => h) (by rfl) ?_ (by assumption) ?_; rotate_left; (focus (intro w0 hSw; (try dsimp only at hSw); go_simp; (try with_reducible rfl))); (try simp only [Act.put, List.setIfInBounds_toArray, List.set_cons_zero, List.set_cons_succ]))
            (refine Rg.tk (i := 1) (d := 16) (v := ?_) rfl rfl (by kernel_rfl) (by kernel_rfl) (by kernel_rfl) (fun _ _ _ h => h) (by rfl) ?_ (by assumption) ?_; rotate_left; (focus (intro w0 hSw; (try dsimp only at hSw); go_simp; (try with_reducible rfl))); (try simp only [Act.put, List.setIfInBounds_toArray, List.set_cons_zero, List.set_cons_succ]))
            (refine Rg.tk (i := 2) (d := 17) (v := ?_) rfl rfl (by kernel_rfl) (by kernel_rfl) (by kernel_rfl) (fun _ _ _ h => h) (by rfl) ?_ (by assumption) ?_; rotate_left; (focus (intro w0 hSw; (try dsimp only at hSw); go_simp; (try with_reducible rfl))); (try simp only [Act.put, List.setIfInBounds_toArray, List.set_cons_zero, List.set_cons_succ]))
            (refine Rg.tk (i := 3) (d := 18) (v := ?_) rfl rfl (by kernel_rfl) (by kernel_rfl) (by kernel_rfl) (fun _ _ _ h => h) (by rfl) ?_ (by assumption) ?_; rotate_left; (focus (intro w0 hSw; (try dsimp only at hSw); go_simp; (try with_reducible rfl))); (try simp only [Act.put, List.setIfInBounds_toArray, List.set_cons_zero, List.set_cons_succ]))
            (refine Rg.tk (i := 4) (d := 19) (v := ?_) rfl rfl (by kernel_rfl) (by kernel_rfl) (by kernel_rfl) (fun _ _ _ h => h) (by rfl) ?_ (by assumption) ?_; rotate_left; (focus (intro w0 hSw; (try dsimp only at hSw); go_simp; (try with_reducible rfl))); (try simp only [Act.put, List.setIfInBounds_toArray, List.set_cons_zero, List.set_cons_succ]))
            (refine Rg.tk (i := 5) (d := 20) (v := .int .i64 t) rfl rfl (by kernel_rfl) (by kernel_rfl) (by kernel_rfl) (fun _ _ _ h => h) (by rfl) ?_ (by assumption) ?_; (focus (intro w0 hSw; (try dsimp only at hSw); go_simp)); (try simp only [Act.put, List.setIfInBounds_toArray, List.set_cons_zero, List.set_cons_succ]))
            · exact IntWalk.i64_in _ (by omega)
            (refine Rg.tk (i := 6) (d := 21) (v := .pointer (some ⟨g, t, none⟩)) rfl rfl (by kernel_rfl) (by kernel_rfl) (by kernel_rfl) (fun _ _ _ h => h) (by rfl) ?_ (by assumption) ?_; (focus (intro w0 hSw; (try dsimp only at hSw); go_simp)); (try simp only [Act.put, List.setIfInBounds_toArray, List.set_cons_zero, List.set_cons_succ]))
            (refine Rg.tk (i := 7) (d := 22) (v := ?_) rfl rfl (by kernel_rfl) (by kernel_rfl) (by kernel_rfl) (fun _ _ _ h => h) (by rfl) ?_ (by assumption) ?_; rotate_left; (focus (intro w0 hSw; (try dsimp only at hSw); go_simp; (try with_reducible rfl))); (try simp only [Act.put, List.setIfInBounds_toArray, List.set_cons_zero, List.set_cons_succ]))
            (refine Rg.tk (i := 8) (d := 23) (v := ?_) rfl rfl (by kernel_rfl) (by kernel_rfl) (by kernel_rfl) (fun _ _ _ h => h) (by rfl) ?_ (by assumption) ?_; rotate_left; (focus (intro w0 hSw; (try dsimp only at hSw); go_simp; (try with_reducible rfl))); (try simp only [Act.put, List.setIfInBounds_toArray, List.set_cons_zero, List.set_cons_succ]))
            (refine Rg.tk (i := 9) (d := 24) (v := ?_) rfl rfl (by kernel_rfl) (by kernel_rfl) (by kernel_rfl) (fun _ _ _ h => h) (by rfl) ?_ (by assumption) ?_; rotate_left; (focus (intro w0 hSw; (try dsimp only at hSw); go_simp; (try with_reducible rfl))); (try simp only [Act.put, List.setIfInBounds_toArray, List.set_cons_zero, List.set_cons_succ]))
            (refine Rg.tk (i := 10) (d := 25) (v := ?_) rfl rfl (by kernel_rfl) (by kernel_rfl) (by kernel_rfl) (fun _ _ _ h => h) (by rfl) ?_ (by assumption) ?_; rotate_left; (focus (intro w0 hSw; (try dsimp only at hSw); go_simp; (try with_reducible rfl))); (try simp only [Act.put, List.setIfInBounds_toArray, List.set_cons_zero, List.set_cons_succ]))
            (refine Rg.tk (i := 11) (d := 26) (v := ?_) rfl rfl (by kernel_rfl) (by kernel_rfl) (by kernel_rfl) (fun _ _ _ h => h) (by rfl) ?_ (by assumption) ?_; rotate_left; (focus (intro w0 hSw; (try dsimp only at hSw); go_simp; (try with_reducible rfl))); (try simp only [Act.put, List.setIfInBounds_toArray, List.set_cons_zero, List.set_cons_succ]))
            (refine Rg.tk (i := 12) (d := 27) (v := ?_) rfl rfl (by kernel_rfl) (by kernel_rfl) (by kernel_rfl) (fun _ _ _ h => h) (by rfl) ?_ (by assumption) ?_; rotate_left; (focus (intro w0 hSw; (try dsimp only at hSw); go_simp; (try with_reducible rfl))); (try simp only [Act.put, List.setIfInBounds_toArray, List.set_cons_zero, List.set_cons_succ]))
            (refine Rg.tk (i := 13) (d := 28) (v := ?_) rfl rfl (by kernel_rfl) (by kernel_rfl) (by kernel_rfl) (fun _ _ _ h => h) (by rfl) ?_ (by assumption) ?_; rotate_left; (focus (intro w0 hSw; (try dsimp only at hSw); go_simp; (try with_reducible rfl))); (try simp only [Act.put, List.setIfInBounds_toArray, List.set_cons_zero, List.set_cons_succ]))
            refine wpAnyH_done (by kernel_rfl) (NoPanic.normal ?_) _
            clear hHeld
            have HB7 := hide ((unhide hb6).drew)
            go_wp2_with fail
            go_roundw
            case rel => exact ⟨t, by omega, by go_num, HUQ, HB7⟩
            case measure => simp [intOf] <;> omega
          · have HT := hide (unhide HTT hxy)
            go_wp2_with fail
            refine wp_region_noPanic ?_
            refine wp_region_held_drew (S := fun w' => w'.cell? ⟨g, t, none⟩ = some (.int .i64 y) ∧ w'.cell? ⟨gl, ol + j, none⟩ = some (.int .i64 x)) (by kernel_rfl) ⟨unhide HY _ ((unhide HU6).below ((Below.refl _ _).drew)), unhide HX _ ((unhide HL6).below ((Below.refl _ _).drew))⟩ (fun hHeld => ?_)
            (refine Rg.tk (i := 0) (d := 15) (v := ?_) rfl rfl (by kernel_rfl) (by kernel_rfl) (by kernel_rfl) (fun _ _ _ h => h) (by rfl) ?_ (by assumption) ?_; rotate_left; (focus (intro w0 hSw; (try dsimp only at hSw); go_simp; (try with_reducible rfl))); (try simp only [Act.put, List.setIfInBounds_toArray, List.set_cons_zero, List.set_cons_succ]))
            (refine Rg.tk (i := 1) (d := 16) (v := ?_) rfl rfl (by kernel_rfl) (by kernel_rfl) (by kernel_rfl) (fun _ _ _ h => h) (by rfl) ?_ (by assumption) ?_; rotate_left; (focus (intro w0 hSw; (try dsimp only at hSw); go_simp; (try with_reducible rfl))); (try simp only [Act.put, List.setIfInBounds_toArray, List.set_cons_zero, List.set_cons_succ]))
            (refine Rg.tk (i := 2) (d := 17) (v := ?_) rfl rfl (by kernel_rfl) (by kernel_rfl) (by kernel_rfl) (fun _ _ _ h => h) (by rfl) ?_ (by assumption) ?_; rotate_left; (focus (intro w0 hSw; (try dsimp only at hSw); go_simp; (try with_reducible rfl))); (try simp only [Act.put, List.setIfInBounds_toArray, List.set_cons_zero, List.set_cons_succ]))
            (refine Rg.tk (i := 3) (d := 18) (v := ?_) rfl rfl (by kernel_rfl) (by kernel_rfl) (by kernel_rfl) (fun _ _ _ h => h) (by rfl) ?_ (by assumption) ?_; rotate_left; (focus (intro w0 hSw; (try dsimp only at hSw); go_simp; (try with_reducible rfl))); (try simp only [Act.put, List.setIfInBounds_toArray, List.set_cons_zero, List.set_cons_succ]))
            (refine Rg.tk (i := 4) (d := 19) (v := ?_) rfl rfl (by kernel_rfl) (by kernel_rfl) (by kernel_rfl) (fun _ _ _ h => h) (by rfl) ?_ (by assumption) ?_; rotate_left; (focus (intro w0 hSw; (try dsimp only at hSw); go_simp; (try with_reducible rfl))); (try simp only [Act.put, List.setIfInBounds_toArray, List.set_cons_zero, List.set_cons_succ]))
            (refine Rg.tk (i := 5) (d := 20) (v := .int .i64 t) rfl rfl (by kernel_rfl) (by kernel_rfl) (by kernel_rfl) (fun _ _ _ h => h) (by rfl) ?_ (by assumption) ?_; (focus (intro w0 hSw; (try dsimp only at hSw); go_simp)); (try simp only [Act.put, List.setIfInBounds_toArray, List.set_cons_zero, List.set_cons_succ]))
            · exact IntWalk.i64_in _ (by omega)
            (refine Rg.tk (i := 6) (d := 21) (v := .pointer (some ⟨g, t, none⟩)) rfl rfl (by kernel_rfl) (by kernel_rfl) (by kernel_rfl) (fun _ _ _ h => h) (by rfl) ?_ (by assumption) ?_; (focus (intro w0 hSw; (try dsimp only at hSw); go_simp)); (try simp only [Act.put, List.setIfInBounds_toArray, List.set_cons_zero, List.set_cons_succ]))
            (refine Rg.tk (i := 7) (d := 22) (v := ?_) rfl rfl (by kernel_rfl) (by kernel_rfl) (by kernel_rfl) (fun _ _ _ h => h) (by rfl) ?_ (by assumption) ?_; rotate_left; (focus (intro w0 hSw; (try dsimp only at hSw); go_simp; (try with_reducible rfl))); (try simp only [Act.put, List.setIfInBounds_toArray, List.set_cons_zero, List.set_cons_succ]))
            (refine Rg.tk (i := 8) (d := 23) (v := ?_) rfl rfl (by kernel_rfl) (by kernel_rfl) (by kernel_rfl) (fun _ _ _ h => h) (by rfl) ?_ (by assumption) ?_; rotate_left; (focus (intro w0 hSw; (try dsimp only at hSw); go_simp; (try with_reducible rfl))); (try simp only [Act.put, List.setIfInBounds_toArray, List.set_cons_zero, List.set_cons_succ]))
            (refine Rg.tk (i := 9) (d := 24) (v := ?_) rfl rfl (by kernel_rfl) (by kernel_rfl) (by kernel_rfl) (fun _ _ _ h => h) (by rfl) ?_ (by assumption) ?_; rotate_left; (focus (intro w0 hSw; (try dsimp only at hSw); go_simp; (try with_reducible rfl))); (try simp only [Act.put, List.setIfInBounds_toArray, List.set_cons_zero, List.set_cons_succ]))
            (refine Rg.tk (i := 10) (d := 25) (v := ?_) rfl rfl (by kernel_rfl) (by kernel_rfl) (by kernel_rfl) (fun _ _ _ h => h) (by rfl) ?_ (by assumption) ?_; rotate_left; (focus (intro w0 hSw; (try dsimp only at hSw); go_simp; (try with_reducible rfl))); (try simp only [Act.put, List.setIfInBounds_toArray, List.set_cons_zero, List.set_cons_succ]))
            (refine Rg.tk (i := 11) (d := 26) (v := ?_) rfl rfl (by kernel_rfl) (by kernel_rfl) (by kernel_rfl) (fun _ _ _ h => h) (by rfl) ?_ (by assumption) ?_; rotate_left; (focus (intro w0 hSw; (try dsimp only at hSw); go_simp; (try with_reducible rfl))); (try simp only [Act.put, List.setIfInBounds_toArray, List.set_cons_zero, List.set_cons_succ]))
            (refine Rg.tk (i := 12) (d := 27) (v := .bool false) rfl rfl (by kernel_rfl) (by kernel_rfl) (by kernel_rfl) (fun _ _ _ h => h) (by rfl) ?_ (by assumption) ?_; (focus (intro w0 hSw; (try dsimp only at hSw); go_simp)); (try simp only [Act.put, List.setIfInBounds_toArray, List.set_cons_zero, List.set_cons_succ]))
            (refine Rg.tk (i := 13) (d := 28) (v := ?_) rfl rfl (by kernel_rfl) (by kernel_rfl) (by kernel_rfl) (fun _ _ _ h => h) (by rfl) ?_ (by assumption) ?_; rotate_left; (focus (intro w0 hSw; (try dsimp only at hSw); go_simp; (try with_reducible rfl))); (try simp only [Act.put, List.setIfInBounds_toArray, List.set_cons_zero, List.set_cons_succ]))
            refine wpAnyH_done (by kernel_rfl) (NoPanic.normal ?_) _
            clear hHeld hxy HUP HTT HY
            have HE1 : Hid (sortV (L.take (j + 1)) = (([] ++ SS.take (t + 1)) ++ [x]) ++ SS.drop (t + 1)) := hide (by rw [unhide HSS]; unfold insV; rw [unhide HT, List.nil_append])
            have HSL1 : Hid ((sortV (L.take (j + 1))).length = j + 1) := hide (sort_len L (j + 1) (by rw [unhide HN]; omega))
            have p1 : ((t : Int) + 1) ≤ (c : Int) := by omega
            have p2 : ((t : Int) + 1) ≤ (j : Int) := by omega
            have p0 : (0 : Int) ≤ ((t : Int) + 1) := by omega
            have c1 : (j : Int) ≤ (c : Int) := by omega
            have lt1 : Hid ((SS.take (t + 1)).length = (t + 1)) := hide (by rw [List.length_take, unhide HSL]; omega)
            have ld1 : Hid ((SS.drop (t + 1)).length = j - (t + 1)) := hide (by rw [List.length_drop, unhide HSL])
            have HD : Hid (∀ W, In.RM W (some ⟨g, 0, none⟩) SS → In.RM W (some ⟨g, if c = (t + 1) then 0 else (t + 1), none⟩) (SS.drop (t + 1))) := hide (fun W h => by
              split
              · exact .inl (List.drop_eq_nil_of_le (by rw [unhide HSL]; omega))
              · have := rmI_drop h (t + 1); rw [Nat.zero_add] at this; exact this)
            have HV : Hid (Below w6.heap.size w6 w6.drew.drew) := hide ((Below.refl _ _).drew.drew)
            by_cases hcp : c = (t + 1)
            · rw [if_pos hcp] at HD
              rw [show j - (t + 1) = 0 by omega] at ld1
              subst hcp
              go_wp2_with fail
              refine wp_region_noPanic ?_
              refine wp_region_held_drew (S := fun w' => w'.cell? ⟨gl, ol + j, none⟩ = some (.int .i64 x)) (by kernel_rfl) (unhide HX _ ((unhide HL6).below (unhide HV))) (fun hHeld => ?_)
              (refine Rg.tk (i := 1) (d := 32) (v := ?_) rfl rfl (by kernel_rfl) (by kernel_rfl) (by kernel_rfl) (fun _ _ _ h => h) (by rfl) ?_ (by assumption) ?_; rotate_left; (focus (intro w0 hSw; (try dsimp only at hSw); go_simp; (try with_reducible rfl))); (try simp only [Act.put, List.setIfInBounds_toArray, List.set_cons_zero, List.set_cons_succ]))
              (refine Rg.tk (i := 2) (d := 33) (v := ?_) rfl rfl (by kernel_rfl) (by kernel_rfl) (by kernel_rfl) (fun _ _ _ h => h) (by rfl) ?_ (by assumption) ?_; rotate_left; (focus (intro w0 hSw; (try dsimp only at hSw); go_simp; (try with_reducible rfl))); (try simp only [Act.put, List.setIfInBounds_toArray, List.set_cons_zero, List.set_cons_succ]))
              (refine Rg.tk (i := 3) (d := 34) (v := ?_) rfl rfl (by kernel_rfl) (by kernel_rfl) (by kernel_rfl) (fun _ _ _ h => h) (by rfl) ?_ (by assumption) ?_; rotate_left; (focus (intro w0 hSw; (try dsimp only at hSw); go_simp; (try with_reducible rfl))); (try simp only [Act.put, List.setIfInBounds_toArray, List.set_cons_zero, List.set_cons_succ]))
              (refine Rg.tk (i := 5) (d := 36) (v := ?_) rfl rfl (by kernel_rfl) (by kernel_rfl) (by kernel_rfl) (fun _ _ _ h => h) (by rfl) ?_ (by assumption) ?_; rotate_left; (focus (intro w0 hSw; (try dsimp only at hSw); go_simp; (try with_reducible rfl))); (try simp only [Act.put, List.setIfInBounds_toArray, List.set_cons_zero, List.set_cons_succ]))
              (refine Rg.tk (i := 6) (d := 37) (v := ?_) rfl rfl (by kernel_rfl) (by kernel_rfl) (by kernel_rfl) (fun _ _ _ h => h) (by rfl) ?_ (by assumption) ?_; rotate_left; (focus (intro w0 hSw; (try dsimp only at hSw); go_simp; (try with_reducible rfl))); (try simp only [Act.put, List.setIfInBounds_toArray, List.set_cons_zero, List.set_cons_succ]))
              (refine Rg.tk (i := 7) (d := 38) (v := ?_) rfl rfl (by kernel_rfl) (by kernel_rfl) (by kernel_rfl) (fun _ _ _ h => h) (by rfl) ?_ (by assumption) ?_; rotate_left; (focus (intro w0 hSw; (try dsimp only at hSw); go_simp; (try with_reducible rfl))); (try simp only [Act.put, List.setIfInBounds_toArray, List.set_cons_zero, List.set_cons_succ]))
              (refine Rg.tk (i := 8) (d := 39) (v := ?_) rfl rfl (by kernel_rfl) (by kernel_rfl) (by kernel_rfl) (fun _ _ _ h => h) (by rfl) ?_ (by assumption) ?_; rotate_left; (focus (intro w0 hSw; (try dsimp only at hSw); go_simp; (try with_reducible rfl))); (try simp only [Act.put, List.setIfInBounds_toArray, List.set_cons_zero, List.set_cons_succ]))
              (refine Rg.tk (i := 11) (d := 42) (v := ?_) rfl rfl (by kernel_rfl) (by kernel_rfl) (by kernel_rfl) (fun _ _ _ h => h) (by rfl) ?_ (by assumption) ?_; rotate_left; (focus (intro w0 hSw; (try dsimp only at hSw); go_simp; (try with_reducible rfl))); (try simp only [Act.put, List.setIfInBounds_toArray, List.set_cons_zero, List.set_cons_succ]))
              (refine Rg.tk (i := 12) (d := 43) (v := ?_) rfl rfl (by kernel_rfl) (by kernel_rfl) (by kernel_rfl) (fun _ _ _ h => h) (by rfl) ?_ (by assumption) ?_; rotate_left; (focus (intro w0 hSw; (try dsimp only at hSw); go_simp; (try with_reducible rfl))); (try simp only [Act.put, List.setIfInBounds_toArray, List.set_cons_zero, List.set_cons_succ]))
              (refine Rg.tk (i := 13) (d := 44) (v := ?_) rfl rfl (by kernel_rfl) (by kernel_rfl) (by kernel_rfl) (fun _ _ _ h => h) (by rfl) ?_ (by assumption) ?_; rotate_left; (focus (intro w0 hSw; (try dsimp only at hSw); go_simp; (try with_reducible rfl))); (try simp only [Act.put, List.setIfInBounds_toArray, List.set_cons_zero, List.set_cons_succ]))
              generalize hV : w6.drew.drew = V at *
              clear hV
              have hVs := (unhide HV).size
              (refine wpAnyH_ready (rs := [0, 9]) (by kernel_rfl) (by simp) ?_; refine AllReadyH.cons (o := _) rfl (fun K hK => ?_) (AllReadyH.cons (o := _) rfl (fun K hK => ?_) AllReadyH.nil))
              · go_simp
                have HV1 := hide ((unhide HV).alloc (unhide HV).size (.cells #[] 3))
                have O0 := hide (In.own_empty V w6.heap.size hVs)
                refine hK.out _ _ (unhide HX _ ((unhide HL6).below (unhide HV1))) (fun hHeld => ?_)
                clear hK K
                (try simp only [Act.put, List.setIfInBounds_toArray, List.set_cons_zero, List.set_cons_succ])
                (refine wpAnyH_ready (rs := [4, 9]) (by kernel_rfl) (by simp) ?_; refine AllReadyH.cons (o := _) rfl (fun K hK => ?_) (AllReadyH.cons (o := _) rfl (fun K hK => ?_) AllReadyH.nil))
                · rw [if_pos (by rfl)]
                  refine wp_apI (unhide O0) g 0 (t + 1) (t + 1) (SS.take (t + 1)) (unhide lt1) (rmI_take ((unhide HU6).below (unhide HV1)) (t + 1)) (by rw [unhide lt1]; simp <;> omega) (unhide HV1).size _ _ rfl rfl rfl rfl ?_
                  intro v4 w4 o4 g4
                  have O4 := hide o4
                  have HV4 := hide (In.below_own (unhide HV1) (unhide O0) g4 (Nat.le_refl _) (unhide HV1).size)
                  clear o4 g4
                  refine hK.out _ _ (unhide HX _ ((unhide HL6).below (unhide HV4))) (fun hHeld => ?_)
                  clear hK K
                  (try simp only [Act.put, List.setIfInBounds_toArray, List.set_cons_zero, List.set_cons_succ])
                  (refine wpAnyH_ready (rs := [9]) (by kernel_rfl) (by simp) ?_; refine AllReadyH.cons (o := _) rfl (fun K hK => ?_) AllReadyH.nil; go_simp)
                  have HV6 := hide ((unhide HV4).alloc (unhide HV4).size (.cells #[.int .i64 x] 3))
                  have O6 := hide ((unhide O4).alloc (.cells #[.int .i64 x] 3))
                  have RX := hide (In.rm_new w4 x)
                  refine hK.out _ _ (unhide HX _ ((unhide HL6).below (unhide HV6))) (fun hHeld => ?_)
                  clear hK K
                  (try simp only [Act.put, List.setIfInBounds_toArray, List.set_cons_zero, List.set_cons_succ])
                  (refine wpAnyH_ready (rs := [10]) (by kernel_rfl) (by simp) ?_; refine AllReadyH.cons (o := _) rfl (fun K hK => ?_) AllReadyH.nil; rw [if_pos (by rfl)])
                  refine wp_apI (unhide O6) _ 0 1 1 [x] rfl (unhide RX) (by simp only [List.nil_append, List.length_cons, List.length_nil]; rw [unhide lt1]; omega) (unhide HV6).size _ _ rfl rfl rfl rfl ?_
                  intro v7 w7 o7 g7
                  have O7 := hide o7
                  have HV7 := hide (In.below_own (unhide HV6) (unhide O6) g7 (Nat.le_refl _) (unhide HV6).size)
                  clear o7 g7
                  refine hK.out _ _ (unhide HX _ ((unhide HL6).below (unhide HV7))) (fun hHeld => ?_)
                  clear hK K
                  (try simp only [Act.put, List.setIfInBounds_toArray, List.set_cons_zero, List.set_cons_succ])
                  (refine wpAnyH_ready (rs := [14]) (by kernel_rfl) (by simp) ?_; refine AllReadyH.cons (o := _) rfl (fun K hK => ?_) AllReadyH.nil; rw [if_pos (by rfl)])
                  refine wp_apI (unhide O7) g _ _ _ (SS.drop _) (unhide ld1) (unhide HD _ ((unhide HU6).below (unhide HV7))) (by simp only [List.nil_append, List.length_append, List.length_cons, List.length_nil]; rw [unhide ld1, unhide lt1]; omega) (unhide HV7).size _ _ rfl rfl rfl rfl ?_
                  intro v8 w8 o8 g8
                  have HV8 := hide (In.below_own (unhide HV7) (unhide O7) g8 (Nat.le_refl _) (unhide HV7).size)
                  rw [← unhide HE1, unhide HSL1] at o8
                  obtain ⟨g9, c9, rfl, hc9, hm9⟩ := own_form o8 (by omega)
                  have HO9 := hide (own_base (b' := w.heap.size) o8 hs6)
                  have HM9 := hide hm9
                  clear o8 g8 hm9
                  refine hK.out _ _ (unhide HX _ ((unhide HL6).below (unhide HV8))) (fun hHeld => ?_)
                  clear hK K
                  (try simp only [Act.put, List.setIfInBounds_toArray, List.set_cons_zero, List.set_cons_succ])
                  (refine Rg.tk (i := 15) (d := 3) (v := ?_) rfl rfl (by kernel_rfl) (by kernel_rfl) (by kernel_rfl) (fun _ _ _ h => h) (by rfl) ?_ (by assumption) ?_; rotate_left; (focus (intro w0 hSw; (try dsimp only at hSw); go_simp; (try with_reducible rfl))); (try simp only [Act.put, List.setIfInBounds_toArray, List.set_cons_zero, List.set_cons_succ]))
                  refine wpAnyH_done (by kernel_rfl) (NoPanic.normal ?_) _
                  have HBF := hide ((unhide HB6).trans ((unhide HV8).mono hs6))
                  clear hHeld
                  go_wp2_with fail
                  go_roundw
                  case rel => exact ⟨j + 1, by omega, by go_num, g9, c9, rfl, hc9, HM9, HO9, HBF⟩
                  case measure => simp [intOf]; omega
                · go_simp
                  have HV5 := hide ((unhide HV1).alloc (unhide HV1).size (.cells #[.int .i64 x] 3))
                  have O5 := hide ((unhide O0).alloc (.cells #[.int .i64 x] 3))
                  have RX0 := In.rm_new (V.alloc (.cells #[] 3)) x
                  simp only [World.size_alloc] at RX0
                  have RX5 := hide RX0
                  clear RX0
                  refine hK.out _ _ (unhide HX _ ((unhide HL6).below (unhide HV5))) (fun hHeld => ?_)
                  clear hK K
                  (try simp only [Act.put, List.setIfInBounds_toArray, List.set_cons_zero, List.set_cons_succ])
                  (refine wpAnyH_ready (rs := [4]) (by kernel_rfl) (by simp) ?_; refine AllReadyH.cons (o := _) rfl (fun K hK => ?_) AllReadyH.nil; rw [if_pos (by rfl)])
                  refine wp_apI (unhide O5) g 0 (t + 1) (t + 1) (SS.take (t + 1)) (unhide lt1) (rmI_take ((unhide HU6).below (unhide HV5)) (t + 1)) (by rw [unhide lt1]; simp <;> omega) (unhide HV5).size _ _ rfl rfl rfl rfl ?_
                  intro v4 w4 o4 g4
                  have O6 := hide o4
                  have HV6 := hide (In.below_own (unhide HV5) (unhide O5) g4 (Nat.le_refl _) (unhide HV5).size)
                  have RX := hide (rmI_grown (unhide RX5) g4 (by simp [Value.ownBlock]))
                  clear o4 g4
                  refine hK.out _ _ (unhide HX _ ((unhide HL6).below (unhide HV6))) (fun hHeld => ?_)
                  clear hK K
                  (try simp only [Act.put, List.setIfInBounds_toArray, List.set_cons_zero, List.set_cons_succ])
                  (refine wpAnyH_ready (rs := [10]) (by kernel_rfl) (by simp) ?_; refine AllReadyH.cons (o := _) rfl (fun K hK => ?_) AllReadyH.nil; rw [if_pos (by rfl)])
                  refine wp_apI (unhide O6) _ 0 1 1 [x] rfl (unhide RX) (by simp only [List.nil_append, List.length_cons, List.length_nil]; rw [unhide lt1]; omega) (unhide HV6).size _ _ rfl rfl rfl rfl ?_
                  intro v7 w7 o7 g7
                  have O7 := hide o7
                  have HV7 := hide (In.below_own (unhide HV6) (unhide O6) g7 (Nat.le_refl _) (unhide HV6).size)
                  clear o7 g7
                  refine hK.out _ _ (unhide HX _ ((unhide HL6).below (unhide HV7))) (fun hHeld => ?_)
                  clear hK K
                  (try simp only [Act.put, List.setIfInBounds_toArray, List.set_cons_zero, List.set_cons_succ])
                  (refine wpAnyH_ready (rs := [14]) (by kernel_rfl) (by simp) ?_; refine AllReadyH.cons (o := _) rfl (fun K hK => ?_) AllReadyH.nil; rw [if_pos (by rfl)])
                  refine wp_apI (unhide O7) g _ _ _ (SS.drop _) (unhide ld1) (unhide HD _ ((unhide HU6).below (unhide HV7))) (by simp only [List.nil_append, List.length_append, List.length_cons, List.length_nil]; rw [unhide ld1, unhide lt1]; omega) (unhide HV7).size _ _ rfl rfl rfl rfl ?_
                  intro v8 w8 o8 g8
                  have HV8 := hide (In.below_own (unhide HV7) (unhide O7) g8 (Nat.le_refl _) (unhide HV7).size)
                  rw [← unhide HE1, unhide HSL1] at o8
                  obtain ⟨g9, c9, rfl, hc9, hm9⟩ := own_form o8 (by omega)
                  have HO9 := hide (own_base (b' := w.heap.size) o8 hs6)
                  have HM9 := hide hm9
                  clear o8 g8 hm9
                  refine hK.out _ _ (unhide HX _ ((unhide HL6).below (unhide HV8))) (fun hHeld => ?_)
                  clear hK K
                  (try simp only [Act.put, List.setIfInBounds_toArray, List.set_cons_zero, List.set_cons_succ])
                  (refine Rg.tk (i := 15) (d := 3) (v := ?_) rfl rfl (by kernel_rfl) (by kernel_rfl) (by kernel_rfl) (fun _ _ _ h => h) (by rfl) ?_ (by assumption) ?_; rotate_left; (focus (intro w0 hSw; (try dsimp only at hSw); go_simp; (try with_reducible rfl))); (try simp only [Act.put, List.setIfInBounds_toArray, List.set_cons_zero, List.set_cons_succ]))
                  refine wpAnyH_done (by kernel_rfl) (NoPanic.normal ?_) _
                  have HBF := hide ((unhide HB6).trans ((unhide HV8).mono hs6))
                  clear hHeld
                  go_wp2_with fail
                  go_roundw
                  case rel => exact ⟨j + 1, by omega, by go_num, g9, c9, rfl, hc9, HM9, HO9, HBF⟩
                  case measure => simp [intOf]; omega
              · go_simp
                have HV1 := hide ((unhide HV).alloc (unhide HV).size (.cells #[.int .i64 x] 3))
                have RX1 := hide (In.rm_new V x)
                refine hK.out _ _ (unhide HX _ ((unhide HL6).below (unhide HV1))) (fun hHeld => ?_)
                clear hK K
                (try simp only [Act.put, List.setIfInBounds_toArray, List.set_cons_zero, List.set_cons_succ])
                (refine wpAnyH_ready (rs := [0]) (by kernel_rfl) (by simp) ?_; refine AllReadyH.cons (o := _) rfl (fun K hK => ?_) AllReadyH.nil; go_simp)
                have HV5 := hide ((unhide HV1).alloc (unhide HV1).size (.cells #[] 3))
                have O50 := In.own_empty (V.alloc (.cells #[.int .i64 x] 3)) w6.heap.size (unhide HV1).size
                simp only [World.size_alloc] at O50
                have O5 := hide O50
                clear O50
                have RX5 := hide ((unhide RX1).below ((Below.refl _ _).alloc (Nat.le_refl _) (.cells #[] 3)))
                refine hK.out _ _ (unhide HX _ ((unhide HL6).below (unhide HV5))) (fun hHeld => ?_)
                clear hK K
                (try simp only [Act.put, List.setIfInBounds_toArray, List.set_cons_zero, List.set_cons_succ])
                (refine wpAnyH_ready (rs := [4]) (by kernel_rfl) (by simp) ?_; refine AllReadyH.cons (o := _) rfl (fun K hK => ?_) AllReadyH.nil; rw [if_pos (by rfl)])
                refine wp_apI (unhide O5) g 0 (t + 1) (t + 1) (SS.take (t + 1)) (unhide lt1) (rmI_take ((unhide HU6).below (unhide HV5)) (t + 1)) (by rw [unhide lt1]; simp <;> omega) (unhide HV5).size _ _ rfl rfl rfl rfl ?_
                intro v4 w4 o4 g4
                have O6 := hide o4
                have HV6 := hide (In.below_own (unhide HV5) (unhide O5) g4 (Nat.le_refl _) (unhide HV5).size)
                have RX := hide (rmI_grown (unhide RX5) g4 (by simp [Value.ownBlock]))
                clear o4 g4
                refine hK.out _ _ (unhide HX _ ((unhide HL6).below (unhide HV6))) (fun hHeld => ?_)
                clear hK K
                (try simp only [Act.put, List.setIfInBounds_toArray, List.set_cons_zero, List.set_cons_succ])
                (refine wpAnyH_ready (rs := [10]) (by kernel_rfl) (by simp) ?_; refine AllReadyH.cons (o := _) rfl (fun K hK => ?_) AllReadyH.nil; rw [if_pos (by rfl)])
                refine wp_apI (unhide O6) _ 0 1 1 [x] rfl (unhide RX) (by simp only [List.nil_append, List.length_cons, List.length_nil]; rw [unhide lt1]; omega) (unhide HV6).size _ _ rfl rfl rfl rfl ?_
                intro v7 w7 o7 g7
                have O7 := hide o7
                have HV7 := hide (In.below_own (unhide HV6) (unhide O6) g7 (Nat.le_refl _) (unhide HV6).size)
                clear o7 g7
                refine hK.out _ _ (unhide HX _ ((unhide HL6).below (unhide HV7))) (fun hHeld => ?_)
                clear hK K
                (try simp only [Act.put, List.setIfInBounds_toArray, List.set_cons_zero, List.set_cons_succ])
                (refine wpAnyH_ready (rs := [14]) (by kernel_rfl) (by simp) ?_; refine AllReadyH.cons (o := _) rfl (fun K hK => ?_) AllReadyH.nil; rw [if_pos (by rfl)])
                refine wp_apI (unhide O7) g _ _ _ (SS.drop _) (unhide ld1) (unhide HD _ ((unhide HU6).below (unhide HV7))) (by simp only [List.nil_append, List.length_append, List.length_cons, List.length_nil]; rw [unhide ld1, unhide lt1]; omega) (unhide HV7).size _ _ rfl rfl rfl rfl ?_
                intro v8 w8 o8 g8
                have HV8 := hide (In.below_own (unhide HV7) (unhide O7) g8 (Nat.le_refl _) (unhide HV7).size)
                rw [← unhide HE1, unhide HSL1] at o8
                obtain ⟨g9, c9, rfl, hc9, hm9⟩ := own_form o8 (by omega)
                have HO9 := hide (own_base (b' := w.heap.size) o8 hs6)
                have HM9 := hide hm9
                clear o8 g8 hm9
                refine hK.out _ _ (unhide HX _ ((unhide HL6).below (unhide HV8))) (fun hHeld => ?_)
                clear hK K
                (try simp only [Act.put, List.setIfInBounds_toArray, List.set_cons_zero, List.set_cons_succ])
                (refine Rg.tk (i := 15) (d := 3) (v := ?_) rfl rfl (by kernel_rfl) (by kernel_rfl) (by kernel_rfl) (fun _ _ _ h => h) (by rfl) ?_ (by assumption) ?_; rotate_left; (focus (intro w0 hSw; (try dsimp only at hSw); go_simp; (try with_reducible rfl))); (try simp only [Act.put, List.setIfInBounds_toArray, List.set_cons_zero, List.set_cons_succ]))
                refine wpAnyH_done (by kernel_rfl) (NoPanic.normal ?_) _
                have HBF := hide ((unhide HB6).trans ((unhide HV8).mono hs6))
                clear hHeld
                go_wp2_with fail
                go_roundw
                case rel => exact ⟨j + 1, by omega, by go_num, g9, c9, rfl, hc9, HM9, HO9, HBF⟩
                case measure => simp [intOf]; omega
            · rw [if_neg hcp] at HD
              go_wp2_with fail
              refine wp_region_noPanic ?_
              refine wp_region_held_drew (S := fun w' => w'.cell? ⟨gl, ol + j, none⟩ = some (.int .i64 x)) (by kernel_rfl) (unhide HX _ ((unhide HL6).below (unhide HV))) (fun hHeld => ?_)
              (refine Rg.tk (i := 1) (d := 32) (v := ?_) rfl rfl (by kernel_rfl) (by kernel_rfl) (by kernel_rfl) (fun _ _ _ h => h) (by rfl) ?_ (by assumption) ?_; rotate_left; (focus (intro w0 hSw; (try dsimp only at hSw); go_simp; (try with_reducible rfl))); (try simp only [Act.put, List.setIfInBounds_toArray, List.set_cons_zero, List.set_cons_succ]))
              (refine Rg.tk (i := 2) (d := 33) (v := ?_) rfl rfl (by kernel_rfl) (by kernel_rfl) (by kernel_rfl) (fun _ _ _ h => h) (by rfl) ?_ (by assumption) ?_; rotate_left; (focus (intro w0 hSw; (try dsimp only at hSw); go_simp; (try with_reducible rfl))); (try simp only [Act.put, List.setIfInBounds_toArray, List.set_cons_zero, List.set_cons_succ]))
              (refine Rg.tk (i := 3) (d := 34) (v := ?_) rfl rfl (by kernel_rfl) (by kernel_rfl) (by kernel_rfl) (fun _ _ _ h => h) (by rfl) ?_ (by assumption) ?_; rotate_left; (focus (intro w0 hSw; (try dsimp only at hSw); go_simp; (try with_reducible rfl))); (try simp only [Act.put, List.setIfInBounds_toArray, List.set_cons_zero, List.set_cons_succ]))
              (refine Rg.tk (i := 5) (d := 36) (v := ?_) rfl rfl (by kernel_rfl) (by kernel_rfl) (by kernel_rfl) (fun _ _ _ h => h) (by rfl) ?_ (by assumption) ?_; rotate_left; (focus (intro w0 hSw; (try dsimp only at hSw); go_simp; (try with_reducible rfl))); (try simp only [Act.put, List.setIfInBounds_toArray, List.set_cons_zero, List.set_cons_succ]))
              (refine Rg.tk (i := 6) (d := 37) (v := ?_) rfl rfl (by kernel_rfl) (by kernel_rfl) (by kernel_rfl) (fun _ _ _ h => h) (by rfl) ?_ (by assumption) ?_; rotate_left; (focus (intro w0 hSw; (try dsimp only at hSw); go_simp; (try with_reducible rfl))); (try simp only [Act.put, List.setIfInBounds_toArray, List.set_cons_zero, List.set_cons_succ]))
              (refine Rg.tk (i := 7) (d := 38) (v := ?_) rfl rfl (by kernel_rfl) (by kernel_rfl) (by kernel_rfl) (fun _ _ _ h => h) (by rfl) ?_ (by assumption) ?_; rotate_left; (focus (intro w0 hSw; (try dsimp only at hSw); go_simp; (try with_reducible rfl))); (try simp only [Act.put, List.setIfInBounds_toArray, List.set_cons_zero, List.set_cons_succ]))
              (refine Rg.tk (i := 8) (d := 39) (v := ?_) rfl rfl (by kernel_rfl) (by kernel_rfl) (by kernel_rfl) (fun _ _ _ h => h) (by rfl) ?_ (by assumption) ?_; rotate_left; (focus (intro w0 hSw; (try dsimp only at hSw); go_simp; (try with_reducible rfl))); (try simp only [Act.put, List.setIfInBounds_toArray, List.set_cons_zero, List.set_cons_succ]))
              (refine Rg.tk (i := 11) (d := 42) (v := ?_) rfl rfl (by kernel_rfl) (by kernel_rfl) (by kernel_rfl) (fun _ _ _ h => h) (by rfl) ?_ (by assumption) ?_; rotate_left; (focus (intro w0 hSw; (try dsimp only at hSw); go_simp; (try with_reducible rfl))); (try simp only [Act.put, List.setIfInBounds_toArray, List.set_cons_zero, List.set_cons_succ]))
              (refine Rg.tk (i := 12) (d := 43) (v := ?_) rfl rfl (by kernel_rfl) (by kernel_rfl) (by kernel_rfl) (fun _ _ _ h => h) (by rfl) ?_ (by assumption) ?_; rotate_left; (focus (intro w0 hSw; (try dsimp only at hSw); go_simp; (try with_reducible rfl))); (try simp only [Act.put, List.setIfInBounds_toArray, List.set_cons_zero, List.set_cons_succ]))
              (refine Rg.tk (i := 13) (d := 44) (v := ?_) rfl rfl (by kernel_rfl) (by kernel_rfl) (by kernel_rfl) (fun _ _ _ h => h) (by rfl) ?_ (by assumption) ?_; rotate_left; (focus (intro w0 hSw; (try dsimp only at hSw); go_simp; (try with_reducible rfl))); (try simp only [Act.put, List.setIfInBounds_toArray, List.set_cons_zero, List.set_cons_succ]))
              generalize hV : w6.drew.drew = V at *
              clear hV
              have hVs := (unhide HV).size
              (refine wpAnyH_ready (rs := [0, 9]) (by kernel_rfl) (by simp) ?_; refine AllReadyH.cons (o := _) rfl (fun K hK => ?_) (AllReadyH.cons (o := _) rfl (fun K hK => ?_) AllReadyH.nil))
              · go_simp
                have HV1 := hide ((unhide HV).alloc (unhide HV).size (.cells #[] 3))
                have O0 := hide (In.own_empty V w6.heap.size hVs)
                refine hK.out _ _ (unhide HX _ ((unhide HL6).below (unhide HV1))) (fun hHeld => ?_)
                clear hK K
                (try simp only [Act.put, List.setIfInBounds_toArray, List.set_cons_zero, List.set_cons_succ])
                (refine wpAnyH_ready (rs := [4, 9]) (by kernel_rfl) (by simp) ?_; refine AllReadyH.cons (o := _) rfl (fun K hK => ?_) (AllReadyH.cons (o := _) rfl (fun K hK => ?_) AllReadyH.nil))
                · rw [if_pos (by rfl)]
                  refine wp_apI (unhide O0) g 0 (t + 1) c (SS.take (t + 1)) (unhide lt1) (rmI_take ((unhide HU6).below (unhide HV1)) (t + 1)) (by rw [unhide lt1]; simp <;> omega) (unhide HV1).size _ _ rfl rfl rfl rfl ?_
                  intro v4 w4 o4 g4
                  have O4 := hide o4
                  have HV4 := hide (In.below_own (unhide HV1) (unhide O0) g4 (Nat.le_refl _) (unhide HV1).size)
                  clear o4 g4
                  refine hK.out _ _ (unhide HX _ ((unhide HL6).below (unhide HV4))) (fun hHeld => ?_)
                  clear hK K
                  (try simp only [Act.put, List.setIfInBounds_toArray, List.set_cons_zero, List.set_cons_succ])
                  (refine wpAnyH_ready (rs := [9]) (by kernel_rfl) (by simp) ?_; refine AllReadyH.cons (o := _) rfl (fun K hK => ?_) AllReadyH.nil; go_simp)
                  have HV6 := hide ((unhide HV4).alloc (unhide HV4).size (.cells #[.int .i64 x] 3))
                  have O6 := hide ((unhide O4).alloc (.cells #[.int .i64 x] 3))
                  have RX := hide (In.rm_new w4 x)
                  refine hK.out _ _ (unhide HX _ ((unhide HL6).below (unhide HV6))) (fun hHeld => ?_)
                  clear hK K
                  (try simp only [Act.put, List.setIfInBounds_toArray, List.set_cons_zero, List.set_cons_succ])
                  (refine wpAnyH_ready (rs := [10]) (by kernel_rfl) (by simp) ?_; refine AllReadyH.cons (o := _) rfl (fun K hK => ?_) AllReadyH.nil; rw [if_pos (by rfl)])
                  refine wp_apI (unhide O6) _ 0 1 1 [x] rfl (unhide RX) (by simp only [List.nil_append, List.length_cons, List.length_nil]; rw [unhide lt1]; omega) (unhide HV6).size _ _ rfl rfl rfl rfl ?_
                  intro v7 w7 o7 g7
                  have O7 := hide o7
                  have HV7 := hide (In.below_own (unhide HV6) (unhide O6) g7 (Nat.le_refl _) (unhide HV6).size)
                  clear o7 g7
                  refine hK.out _ _ (unhide HX _ ((unhide HL6).below (unhide HV7))) (fun hHeld => ?_)
                  clear hK K
                  (try simp only [Act.put, List.setIfInBounds_toArray, List.set_cons_zero, List.set_cons_succ])
                  (refine wpAnyH_ready (rs := [14]) (by kernel_rfl) (by simp) ?_; refine AllReadyH.cons (o := _) rfl (fun K hK => ?_) AllReadyH.nil; rw [if_pos (by rfl)])
                  refine wp_apI (unhide O7) g _ _ _ (SS.drop _) (unhide ld1) (unhide HD _ ((unhide HU6).below (unhide HV7))) (by simp only [List.nil_append, List.length_append, List.length_cons, List.length_nil]; rw [unhide ld1, unhide lt1]; omega) (unhide HV7).size _ _ rfl rfl rfl rfl ?_
                  intro v8 w8 o8 g8
                  have HV8 := hide (In.below_own (unhide HV7) (unhide O7) g8 (Nat.le_refl _) (unhide HV7).size)
                  rw [← unhide HE1, unhide HSL1] at o8
                  obtain ⟨g9, c9, rfl, hc9, hm9⟩ := own_form o8 (by omega)
                  have HO9 := hide (own_base (b' := w.heap.size) o8 hs6)
                  have HM9 := hide hm9
                  clear o8 g8 hm9
                  refine hK.out _ _ (unhide HX _ ((unhide HL6).below (unhide HV8))) (fun hHeld => ?_)
                  clear hK K
                  (try simp only [Act.put, List.setIfInBounds_toArray, List.set_cons_zero, List.set_cons_succ])
                  (refine Rg.tk (i := 15) (d := 3) (v := ?_) rfl rfl (by kernel_rfl) (by kernel_rfl) (by kernel_rfl) (fun _ _ _ h => h) (by rfl) ?_ (by assumption) ?_; rotate_left; (focus (intro w0 hSw; (try dsimp only at hSw); go_simp; (try with_reducible rfl))); (try simp only [Act.put, List.setIfInBounds_toArray, List.set_cons_zero, List.set_cons_succ]))
                  refine wpAnyH_done (by kernel_rfl) (NoPanic.normal ?_) _
                  have HBF := hide ((unhide HB6).trans ((unhide HV8).mono hs6))
                  clear hHeld
                  go_wp2_with fail
                  go_roundw
                  case rel => exact ⟨j + 1, by omega, by go_num, g9, c9, rfl, hc9, HM9, HO9, HBF⟩
                  case measure => simp [intOf]; omega
                · go_simp
                  have HV5 := hide ((unhide HV1).alloc (unhide HV1).size (.cells #[.int .i64 x] 3))
                  have O5 := hide ((unhide O0).alloc (.cells #[.int .i64 x] 3))
                  have RX0 := In.rm_new (V.alloc (.cells #[] 3)) x
                  simp only [World.size_alloc] at RX0
                  have RX5 := hide RX0
                  clear RX0
                  refine hK.out _ _ (unhide HX _ ((unhide HL6).below (unhide HV5))) (fun hHeld => ?_)
                  clear hK K
                  (try simp only [Act.put, List.setIfInBounds_toArray, List.set_cons_zero, List.set_cons_succ])
                  (refine wpAnyH_ready (rs := [4]) (by kernel_rfl) (by simp) ?_; refine AllReadyH.cons (o := _) rfl (fun K hK => ?_) AllReadyH.nil; rw [if_pos (by rfl)])
                  refine wp_apI (unhide O5) g 0 (t + 1) c (SS.take (t + 1)) (unhide lt1) (rmI_take ((unhide HU6).below (unhide HV5)) (t + 1)) (by rw [unhide lt1]; simp <;> omega) (unhide HV5).size _ _ rfl rfl rfl rfl ?_
                  intro v4 w4 o4 g4
                  have O6 := hide o4
                  have HV6 := hide (In.below_own (unhide HV5) (unhide O5) g4 (Nat.le_refl _) (unhide HV5).size)
                  have RX := hide (rmI_grown (unhide RX5) g4 (by simp [Value.ownBlock]))
                  clear o4 g4
                  refine hK.out _ _ (unhide HX _ ((unhide HL6).below (unhide HV6))) (fun hHeld => ?_)
                  clear hK K
                  (try simp only [Act.put, List.setIfInBounds_toArray, List.set_cons_zero, List.set_cons_succ])
                  (refine wpAnyH_ready (rs := [10]) (by kernel_rfl) (by simp) ?_; refine AllReadyH.cons (o := _) rfl (fun K hK => ?_) AllReadyH.nil; rw [if_pos (by rfl)])
                  refine wp_apI (unhide O6) _ 0 1 1 [x] rfl (unhide RX) (by simp only [List.nil_append, List.length_cons, List.length_nil]; rw [unhide lt1]; omega) (unhide HV6).size _ _ rfl rfl rfl rfl ?_
                  intro v7 w7 o7 g7
                  have O7 := hide o7
                  have HV7 := hide (In.below_own (unhide HV6) (unhide O6) g7 (Nat.le_refl _) (unhide HV6).size)
                  clear o7 g7
                  refine hK.out _ _ (unhide HX _ ((unhide HL6).below (unhide HV7))) (fun hHeld => ?_)
                  clear hK K
                  (try simp only [Act.put, List.setIfInBounds_toArray, List.set_cons_zero, List.set_cons_succ])
                  (refine wpAnyH_ready (rs := [14]) (by kernel_rfl) (by simp) ?_; refine AllReadyH.cons (o := _) rfl (fun K hK => ?_) AllReadyH.nil; rw [if_pos (by rfl)])
                  refine wp_apI (unhide O7) g _ _ _ (SS.drop _) (unhide ld1) (unhide HD _ ((unhide HU6).below (unhide HV7))) (by simp only [List.nil_append, List.length_append, List.length_cons, List.length_nil]; rw [unhide ld1, unhide lt1]; omega) (unhide HV7).size _ _ rfl rfl rfl rfl ?_
                  intro v8 w8 o8 g8
                  have HV8 := hide (In.below_own (unhide HV7) (unhide O7) g8 (Nat.le_refl _) (unhide HV7).size)
                  rw [← unhide HE1, unhide HSL1] at o8
                  obtain ⟨g9, c9, rfl, hc9, hm9⟩ := own_form o8 (by omega)
                  have HO9 := hide (own_base (b' := w.heap.size) o8 hs6)
                  have HM9 := hide hm9
                  clear o8 g8 hm9
                  refine hK.out _ _ (unhide HX _ ((unhide HL6).below (unhide HV8))) (fun hHeld => ?_)
                  clear hK K
                  (try simp only [Act.put, List.setIfInBounds_toArray, List.set_cons_zero, List.set_cons_succ])
                  (refine Rg.tk (i := 15) (d := 3) (v := ?_) rfl rfl (by kernel_rfl) (by kernel_rfl) (by kernel_rfl) (fun _ _ _ h => h) (by rfl) ?_ (by assumption) ?_; rotate_left; (focus (intro w0 hSw; (try dsimp only at hSw); go_simp; (try with_reducible rfl))); (try simp only [Act.put, List.setIfInBounds_toArray, List.set_cons_zero, List.set_cons_succ]))
                  refine wpAnyH_done (by kernel_rfl) (NoPanic.normal ?_) _
                  have HBF := hide ((unhide HB6).trans ((unhide HV8).mono hs6))
                  clear hHeld
                  go_wp2_with fail
                  go_roundw
                  case rel => exact ⟨j + 1, by omega, by go_num, g9, c9, rfl, hc9, HM9, HO9, HBF⟩
                  case measure => simp [intOf]; omega
              · go_simp
                have HV1 := hide ((unhide HV).alloc (unhide HV).size (.cells #[.int .i64 x] 3))
                have RX1 := hide (In.rm_new V x)
                refine hK.out _ _ (unhide HX _ ((unhide HL6).below (unhide HV1))) (fun hHeld => ?_)
                clear hK K
                (try simp only [Act.put, List.setIfInBounds_toArray, List.set_cons_zero, List.set_cons_succ])
                (refine wpAnyH_ready (rs := [0]) (by kernel_rfl) (by simp) ?_; refine AllReadyH.cons (o := _) rfl (fun K hK => ?_) AllReadyH.nil; go_simp)
                have HV5 := hide ((unhide HV1).alloc (unhide HV1).size (.cells #[] 3))
                have O50 := In.own_empty (V.alloc (.cells #[.int .i64 x] 3)) w6.heap.size (unhide HV1).size
                simp only [World.size_alloc] at O50
                have O5 := hide O50
                clear O50
                have RX5 := hide ((unhide RX1).below ((Below.refl _ _).alloc (Nat.le_refl _) (.cells #[] 3)))
                refine hK.out _ _ (unhide HX _ ((unhide HL6).below (unhide HV5))) (fun hHeld => ?_)
                clear hK K
                (try simp only [Act.put, List.setIfInBounds_toArray, List.set_cons_zero, List.set_cons_succ])
                (refine wpAnyH_ready (rs := [4]) (by kernel_rfl) (by simp) ?_; refine AllReadyH.cons (o := _) rfl (fun K hK => ?_) AllReadyH.nil; rw [if_pos (by rfl)])
                refine wp_apI (unhide O5) g 0 (t + 1) c (SS.take (t + 1)) (unhide lt1) (rmI_take ((unhide HU6).below (unhide HV5)) (t + 1)) (by rw [unhide lt1]; simp <;> omega) (unhide HV5).size _ _ rfl rfl rfl rfl ?_
                intro v4 w4 o4 g4
                have O6 := hide o4
                have HV6 := hide (In.below_own (unhide HV5) (unhide O5) g4 (Nat.le_refl _) (unhide HV5).size)
                have RX := hide (rmI_grown (unhide RX5) g4 (by simp [Value.ownBlock]))
                clear o4 g4
                refine hK.out _ _ (unhide HX _ ((unhide HL6).below (unhide HV6))) (fun hHeld => ?_)
                clear hK K
                (try simp only [Act.put, List.setIfInBounds_toArray, List.set_cons_zero, List.set_cons_succ])
                (refine wpAnyH_ready (rs := [10]) (by kernel_rfl) (by simp) ?_; refine AllReadyH.cons (o := _) rfl (fun K hK => ?_) AllReadyH.nil; rw [if_pos (by rfl)])
                refine wp_apI (unhide O6) _ 0 1 1 [x] rfl (unhide RX) (by simp only [List.nil_append, List.length_cons, List.length_nil]; rw [unhide lt1]; omega) (unhide HV6).size _ _ rfl rfl rfl rfl ?_
                intro v7 w7 o7 g7
                have O7 := hide o7
                have HV7 := hide (In.below_own (unhide HV6) (unhide O6) g7 (Nat.le_refl _) (unhide HV6).size)
                clear o7 g7
                refine hK.out _ _ (unhide HX _ ((unhide HL6).below (unhide HV7))) (fun hHeld => ?_)
                clear hK K
                (try simp only [Act.put, List.setIfInBounds_toArray, List.set_cons_zero, List.set_cons_succ])
                (refine wpAnyH_ready (rs := [14]) (by kernel_rfl) (by simp) ?_; refine AllReadyH.cons (o := _) rfl (fun K hK => ?_) AllReadyH.nil; rw [if_pos (by rfl)])
                refine wp_apI (unhide O7) g _ _ _ (SS.drop _) (unhide ld1) (unhide HD _ ((unhide HU6).below (unhide HV7))) (by simp only [List.nil_append, List.length_append, List.length_cons, List.length_nil]; rw [unhide ld1, unhide lt1]; omega) (unhide HV7).size _ _ rfl rfl rfl rfl ?_
                intro v8 w8 o8 g8
                have HV8 := hide (In.below_own (unhide HV7) (unhide O7) g8 (Nat.le_refl _) (unhide HV7).size)
                rw [← unhide HE1, unhide HSL1] at o8
                obtain ⟨g9, c9, rfl, hc9, hm9⟩ := own_form o8 (by omega)
                have HO9 := hide (own_base (b' := w.heap.size) o8 hs6)
                have HM9 := hide hm9
                clear o8 g8 hm9
                refine hK.out _ _ (unhide HX _ ((unhide HL6).below (unhide HV8))) (fun hHeld => ?_)
                clear hK K
                (try simp only [Act.put, List.setIfInBounds_toArray, List.set_cons_zero, List.set_cons_succ])
                (refine Rg.tk (i := 15) (d := 3) (v := ?_) rfl rfl (by kernel_rfl) (by kernel_rfl) (by kernel_rfl) (fun _ _ _ h => h) (by rfl) ?_ (by assumption) ?_; rotate_left; (focus (intro w0 hSw; (try dsimp only at hSw); go_simp; (try with_reducible rfl))); (try simp only [Act.put, List.setIfInBounds_toArray, List.set_cons_zero, List.set_cons_succ]))
                refine wpAnyH_done (by kernel_rfl) (NoPanic.normal ?_) _
                have HBF := hide ((unhide HB6).trans ((unhide HV8).mono hs6))
                clear hHeld
                go_wp2_with fail
                go_roundw
                case rel => exact ⟨j + 1, by omega, by go_num, g9, c9, rfl, hc9, HM9, HO9, HBF⟩
                case measure => simp [intOf]; omega
    · obtain rfl : j = n := by omega
      have HE : Hid (sortV (L.take j) = sortV L) := hide (by rw [← unhide HN, List.take_length])
      have HLs := hide (In.lst_own (by rw [sort_len L j (by rw [unhide HN]; exact Nat.le_refl _)]) (unhide how))
      rw [unhide HE] at HLs
      go_wp2_with fail
      go_ret
      exact ⟨_, rfl, unhide hbl, unhide HLs⟩
end Mr
end Go.Proofs.Ytpknahhdapmcoao
