/-
  The program's contracts: whom relays reach, whether they cover, who reaches one alone, who is always willing.
-/
import Derived.Test.YtpknahhdapmcoaoGrpB
import Derived.Test.YtpknahhdapmcoaoMprE
import Derived.Test.YtpknahhdapmcoaoRg
namespace Go.Proofs.Ytpknahhdapmcoao
open Go.ChangeShapes Go.WideShapes Go.ChangeAt Go.RowKit
set_option linter.unusedVariables false
set_option linter.unusedSimpArgs false
attribute [local go_sem ↓] Go.wp_at_zero Go.wp_at_succ
namespace Gp
open W1 Tu St Tw Mr Mt
theorem below_dN' (w : World) : ∀ q, Below w.heap.size w (w.drewN q) := fun q => ⟨rfl, rfl, rfl, Nat.le_refl _, fun _ _ => rfl⟩
/-- Those of the strict ones that one of some reaches. -/
def reB (S : List Int) (via : Int → List Int) (L : List Int) (z : Int) : Bool := L.any (fun a => rB S via a z)
theorem reB_step {S : List Int} {via : Int → List Int} {L : List Int} {j : Nat} (h : j < L.length) (z : Int) : reB S via (L.take (j + 1)) z = (reB S via (L.take j) z || rB S via (L.getD j 0) z) := by
  unfold reB; rw [zs_take h, List.any_append]; simp
set_option maxRecDepth 100000 in
set_option maxHeartbeats 4000000 in
theorem reachedBy (s : Nat) (V : Nat → Nat) (S : List Int) (via : Int → List Int) (c : Int → Bool) (w : World) :
    Calls Try.prog 41 #[GV s V (rN S via), .int .u16 (gN c)] w fun e w' => e = .returned (.int .u16 (gN (reB S via (strN c 8)))) ∧ Below w.heap.size w w' := by
  have hcl := gN_lt c
  have hsl := strN_len c 8
  have HLR := hide (fun z => (str_mem (c := c) (z := z)).1)
  have HLE : Hid (strN (hasB (gN c)) 8 = strN c 8) := hide (str_same (fun z h1 h2 => by
    rw [has_gN]; unfold inB; rw [decide_eq_true h1, decide_eq_true h2]; rfl))
  obtain ⟨L, hL⟩ : ∃ L, strN c 8 = L := ⟨_, rfl⟩
  rw [hL] at hsl HLE HLR ⊢
  clear hL
  generalize gN c = cn at *
  go_enter Try.func41, Try.ntmps41
  go_wp2_with (refine wpList_boxG _ rfl rfl rfl ?_; intro w1 ga1 b1 hs1; have HG1 := hide ga1; have HB1 := hide b1; clear ga1 b1)
  refine (addrs cn _ (by omega)).mono ?_
  rintro e w2 ⟨v2, rfl, b2, hl2⟩
  rw [unhide HLE] at hl2
  obtain ⟨a2, c2, rfl, l2⟩ := hl2
  have HG2 := hide ((unhide HG1).below b2)
  have HB2 := hide ((unhide HB1).trans (b2.mono (unhide HB1).size))
  have HL2 := hide l2.rm
  clear b2 l2
  generalize hn : L.length = n at *
  have HN := hide hn
  clear hn
  go_wp2_with fail
  go_loopw [5, 11] (fun g i wr => w2 = wr ∧ ∃ j : Nat, j ≤ n ∧ i = .int .i64 j ∧ ∃ x : Int, g = .int .u16 x ∧ Hid (x = gN (reB S via (L.take j)))) (fun _ i _ => n - (intOf i).toNat)
  case atStart => exact ⟨rfl, 0, by omega, rfl, 0, rfl, hide (by rw [gN_nil (c := reB S via (L.take 0)) (fun _ _ _ => rfl)]; rfl)⟩
  case round =>
    obtain ⟨rfl, j, hj, rfl, x, rfl, hx⟩ := hrel
    by_cases hlt : (j : Int) < (n : Int)
    · have k0 : (0 : Int) ≤ (j : Int) := by omega
      have hlen : j < L.length := by rw [unhide HN]; omega
      have hzr := unhide HLR _ (getD_mem hlen)
      have HT := hide (reB_step (S := S) (via := via) hlen)
      rcases unhide HL2 with e0 | ⟨gl, ol, rfl, hc⟩
      · exfalso; rw [e0] at hlen; simp at hlen
      have c0 := hc j hlen
      clear hc
      generalize L.getD j 0 = y at *
      obtain ⟨q, rfl⟩ : ∃ q : Nat, y = (q : Int) := ⟨y.toNat, by omega⟩
      have hq9 : q < 9 := by omega
      have q0 : (0 : Int) ≤ (q : Int) := by omega
      have q9 : (q : Int) < 9 := by omega
      have cr := ((unhide HG2).r hq9).1
      have HE : Hid (bits .or .u16 x (rN S via q : Int) = gN (reB S via (L.take (j + 1)))) := hide (by
        rw [unhide hx]; unfold rN; rw [or_int]; congr 1
        exact gN_congr (fun z _ _ => (unhide HT z).symm))
      clear hzr
      go_wp2_with fail
      go_roundw
      case rel => exact ⟨by first | trivial | rfl, j + 1, by omega, by go_num, _, rfl, HE⟩
      case measure => simp [intOf]; omega
    · obtain rfl : j = n := by omega
      have HE : Hid (x = gN (reB S via L)) := hide (by have := unhide hx; rw [← unhide HN, List.take_length] at this; exact this)
      go_wp2_with fail
      go_ret
      exact ⟨ret_int (unhide HE), unhide HB2⟩
/-- Whether those of a list cover. -/
def covB (S : List Int) (via : Int → List Int) (L : List Int) : Bool := gN (fun z => S.contains z && !reB S via L z) == 0
set_option maxRecDepth 100000 in
set_option maxHeartbeats 4000000 in
theorem isCovered (V : Nat → Nat) (S : List Int) (via : Int → List Int) (c : Int → Bool) (w : World) :
    Calls Try.prog 53 #[GV (gL S) V (rN S via), .int .u16 (gN c)] w fun e w' => e = .returned (.bool (covB S via (strN c 8))) ∧ Below w.heap.size w w' := by
  have e0 : covB S via (strN c 8) = (gN (fun z => S.contains z && !reB S via (strN c 8) z) == 0) := rfl
  rw [e0]
  clear e0
  have HNI : Hid (bits .andNot .u16 (gL S : Int) (gN (reB S via (strN c 8)) : Int) = (gN (fun z => S.contains z && !reB S via (strN c 8) z) : Int)) := hide (not_int _ _)
  have HRB := hide (fun W => reachedBy (gL S) V S via c W)
  generalize gN (fun z => S.contains z && !reB S via (strN c 8) z) = X at *
  generalize gN (reB S via (strN c 8)) = Y at *
  generalize gL S = s at *
  generalize gN c = cn at *
  generalize rN S via = rr at *
  go_enter Try.func53, Try.ntmps53
  go_wp2_with (refine wpList_boxG _ rfl rfl rfl ?_; intro w1 ga1 b1 hs1; have HG1 := hide ga1; have HB1 := hide b1; clear ga1 b1)
  refine wp_region_noPanic ?_
  refine wp_region_held_drew (S := fun w' => w'.cell? ⟨w.heap.size, 0, none⟩ = some (.int .u16 s) ∧ GA w' w.heap.size s V rr) (by kernel_rfl) ⟨(unhide HG1).s, (unhide HG1).below ((Below.refl _ _).drew)⟩ (fun hHeld => ?_)
  (refine Rg.tk (i := 0) (d := 5) (v := ?_) rfl rfl (by kernel_rfl) (by kernel_rfl) (by kernel_rfl) (fun _ _ _ h => h) (by rfl) ?_ (by assumption) ?_; rotate_left; (focus (intro w0 hSw; (try dsimp only at hSw); go_simp; (try with_reducible rfl))); (try simp only [Act.put, List.setIfInBounds_toArray, List.set_cons_zero, List.set_cons_succ]))
  (refine Rg.tk (i := 1) (d := 6) (v := ?_) rfl rfl (by kernel_rfl) (by kernel_rfl) (by kernel_rfl) (fun _ _ _ h => h) (by rfl) ?_ (by assumption) ?_; rotate_left; (focus (intro w0 hSw; (try dsimp only at hSw); go_simp; (try with_reducible rfl))); (try simp only [Act.put, List.setIfInBounds_toArray, List.set_cons_zero, List.set_cons_succ]))
  (refine Rg.tk (i := 2) (d := 7) (v := GV s V rr) rfl rfl (by kernel_rfl) (by kernel_rfl) (by kernel_rfl) (fun _ _ _ h => h) (by rfl) (fun w0 hSw => run_execG _ rfl rfl hSw.2) (by assumption) ?_; (try simp only [Act.put, List.setIfInBounds_toArray, List.set_cons_zero, List.set_cons_succ]))
  (refine Rg.tk (i := 3) (d := 8) (v := ?_) rfl rfl (by kernel_rfl) (by kernel_rfl) (by kernel_rfl) (fun _ _ _ h => h) (by rfl) ?_ (by assumption) ?_; rotate_left; (focus (intro w0 hSw; (try dsimp only at hSw); go_simp; (try with_reducible rfl))); (try simp only [Act.put, List.setIfInBounds_toArray, List.set_cons_zero, List.set_cons_succ]))
  (refine wpAnyH_ready (rs := [4]) (by kernel_rfl) (by simp) ?_; refine AllReadyH.cons (o := _) rfl (fun K hK => ?_) AllReadyH.nil; go_simp)
  refine (unhide HRB _).mono ?_
  rintro e w2 ⟨rfl, b2⟩
  have HG2 := hide (((unhide HG1).below ((Below.refl _ _).drew)).below b2)
  have HB2 := hide ((unhide HB1).trans (((Below.refl _ _).drew.trans b2).mono (unhide HB1).size))
  clear b2 hHeld
  refine hK.out _ _ ⟨(unhide HG2).s, unhide HG2⟩ (fun hHeld => ?_)
  clear hK K
  (try simp only [Act.put, List.setIfInBounds_toArray, List.set_cons_zero, List.set_cons_succ])
  (refine Rg.tk (i := 5) (d := 10) (v := ?_) rfl rfl (by kernel_rfl) (by kernel_rfl) (by kernel_rfl) (fun _ _ _ h => h) (by rfl) ?_ (by assumption) ?_; rotate_left; (focus (intro w0 hSw; (try dsimp only at hSw); go_simp; (try with_reducible rfl))); (try simp only [Act.put, List.setIfInBounds_toArray, List.set_cons_zero, List.set_cons_succ]))
  (refine Rg.tk (i := 6) (d := 11) (v := ?_) rfl rfl (by kernel_rfl) (by kernel_rfl) (by kernel_rfl) (fun _ _ _ h => h) (by rfl) ?_ (by assumption) ?_; rotate_left; (focus (intro w0 hSw; (try dsimp only at hSw); go_simp; (try with_reducible rfl))); (try simp only [Act.put, List.setIfInBounds_toArray, List.set_cons_zero, List.set_cons_succ]))
  (refine Rg.tk (i := 7) (d := 4) (v := ?_) rfl rfl (by kernel_rfl) (by kernel_rfl) (by kernel_rfl) (fun _ _ _ h => h) (by rfl) ?_ (by assumption) ?_; rotate_left; (focus (intro w0 hSw; (try dsimp only at hSw); go_simp; (try with_reducible rfl))); (try simp only [Act.put, List.setIfInBounds_toArray, List.set_cons_zero, List.set_cons_succ]))
  refine wpAnyH_done (by kernel_rfl) (NoPanic.normal ?_) _
  clear hHeld
  have HE : Hid ((bits .andNot .u16 (s : Int) (Y : Int) == 0) = (X == 0)) := hide (by
    rw [unhide HNI]
    by_cases h : X = 0
    · subst h; rfl
    · have h2 : ((X : Int) == 0) = false := by simp; omega
      rw [h2]; simp [h])
  go_wp2_with fail
  go_ret
  exact ⟨ret_bool (unhide HE), unhide HB2⟩
/-- Those that reach one of the strict ones alone. -/
def vB (S : List Int) (via : Int → List Int) (i : Nat) (a : Int) : Bool := S.contains (i : Int) && (via i).contains a
theorem vN_eq (S : List Int) (via : Int → List Int) (i : Nat) : vN S via i = gN (vB S via i) := by
  unfold vN
  cases h : S.contains (i : Int)
  · rw [if_neg (by simp)]; exact (gN_nil (fun z _ _ => by unfold vB; rw [h]; rfl)).symm
  · rw [if_pos rfl]; exact gN_congr (fun z _ _ => by unfold vB; rw [h]; rfl)
def lone (S : List Int) (via : Int → List Int) (i : Nat) : Bool := (strN (vB S via i) 8).length == 1
def oB (S : List Int) (via : Int → List Int) (n : Nat) (a : Int) : Bool := (List.range n).any (fun i => lone S via i && vB S via i a)
theorem oB_step (S : List Int) (via : Int → List Int) (n : Nat) (a : Int) : oB S via (n + 1) a = (oB S via n a || (lone S via n && vB S via n a)) := by
  unfold oB; rw [List.range_succ, List.any_append]; simp
def vC (V : Nat → Nat) : List Value := [.int .u16 (V 0), .int .u16 (V 1), .int .u16 (V 2), .int .u16 (V 3), .int .u16 (V 4), .int .u16 (V 5), .int .u16 (V 6), .int .u16 (V 7), .int .u16 (V 8)]
theorem vC_get (V : Nat → Nat) : ∀ i, i < 9 → (vC V)[i]? = some (.int .u16 (V i))
  | 0, _ | 1, _ | 2, _ | 3, _ | 4, _ | 5, _ | 6, _ | 7, _ | 8, _ => rfl
  | n + 9, h => by omega
theorem GA.vias {w : World} {b s : Nat} {V R : Nat → Nat} (h : GA w b s V R) : w.rangeAt b 1 (vC V) := fun j v hv => by
  have hj : j < 9 := (List.getElem?_eq_some_iff.1 hv).1
  rw [vC_get V j hj] at hv
  rw [(h.v hj).1]; exact hv
theorem infoA : Try.prog.underlying 60 = some (Try.prog.underlying 60).get! ∧ ((Try.prog.underlying 60).get!).isRow = true ∧ (Try.prog.info? 60).map (·.size) = some 9 := ⟨by kernel_rfl, by kernel_rfl, by kernel_rfl⟩
theorem idx_run (V : Nat → Nat) (W : World) : ∀ j : Nat, j < 9 → (Instr.index 60 (.agg (vC V).toArray) (.int .i64 (j : Int))).run Try.prog W = .ok (.int .u16 (V j)) W
  | 0, _ | 1, _ | 2, _ | 3, _ | 4, _ | 5, _ | 6, _ | 7, _ | 8, _ => by kernel_rfl
  | n + 9, h => by omega
set_option maxRecDepth 100000 in
set_option maxHeartbeats 4000000 in
theorem onlyOnes (s : Nat) (R : Nat → Nat) (S : List Int) (via : Int → List Int) (w : World) :
    Calls Try.prog 40 #[GV s (vN S via) R] w fun e w' => e = .returned (.int .u16 (gN (oB S via 9))) ∧ Below w.heap.size w w' := by
  have HVN : Hid (vN S via = fun i => gN (vB S via i)) := hide (by funext i; exact vN_eq S via i)
  rw [unhide HVN]
  have HIX : Hid (∀ (W : World) (j : Nat), j < 9 → (Instr.index 60 (.agg (vC (fun i => gN (vB S via i))).toArray) (.int .i64 (j : Int))).run Try.prog W = .ok (.int .u16 (gN (vB S via j))) W) := hide (fun W j hj => idx_run _ W j hj)
  clear HVN
  generalize hvc : (vC (fun i => gN (vB S via i))).toArray = arr at *
  have HVC := hide hvc
  clear hvc
  go_enter Try.func40, Try.ntmps40
  go_wp2_with (first | (refine wpList_boxG _ rfl rfl rfl ?_; intro w1 ga1 b1 hs1; have HG1 := hide ga1; have HB1 := hide b1; clear ga1 b1) | (refine wpList_load_mid rfl 60 _ rfl w.heap.size 1 rfl (vC (fun i => gN (vB S via i))) _ (unhide HG1).vias infoA.1 infoA.2.1 infoA.2.2 ?_; rw [unhide HVC]))
  go_loopw [3, 8] (fun g i wr => ∃ j : Nat, j ≤ 9 ∧ i = .int .i64 j ∧ (∃ x : Int, g = .int .u16 x ∧ Hid (x = gN (oB S via j))) ∧ Hid (Below w.heap.size w wr)) (fun _ i _ => 9 - (intOf i).toNat)
  case atStart => exact ⟨0, by omega, rfl, ⟨0, rfl, hide (by rw [gN_nil (c := oB S via 0) (fun _ _ _ => rfl)]; rfl)⟩, HB1⟩
  case round =>
    obtain ⟨j, hj, rfl, ⟨x, rfl, hx⟩, hbl⟩ := hrel
    by_cases hlt : (j : Int) < 9
    · have hix := unhide HIX wr j (by omega)
      have HST := hide (oB_step S via j)
      have HLN : Hid (lone S via j = ((strN (vB S via j) 8).length == 1)) := hide rfl
      go_wp2_with fail
      refine (count (vB S via j) _).mono ?_
      rintro e w2 ⟨rfl, q, rfl⟩
      have HB2 : Hid (Below w.heap.size w (wr.drewN q)) := hide ((unhide hbl).trans ((Below.refl _ _).trans (below_dN' wr q) |>.mono (unhide hbl).size))
      generalize hcn : (strN (vB S via j) 8).length = cn at *
      clear hcn
      have hci : ((cn : Int) == 1) = (cn == 1) := by
        by_cases h : cn = 1
        · subst h; rfl
        · have : ((cn : Int) == 1) = false := by simp; omega
          rw [this]; simp [h]
      cases hb : (cn == 1)
      · rw [hb] at hci HLN
        have HE : Hid (x = gN (oB S via (j + 1))) := hide (by
          rw [unhide hx]; congr 1
          exact gN_congr (fun z _ _ => by rw [unhide HST, unhide HLN]; simp))
        clear hb
        go_wp2_with fail
        go_roundw
        case rel => exact ⟨j + 1, by omega, by go_num, ⟨x, rfl, HE⟩, HB2⟩
        case measure => simp [intOf]; omega
      · rw [hb] at hci HLN
        have HE : Hid (bits .or .u16 x (gN (vB S via j) : Int) = gN (oB S via (j + 1))) := hide (by
          rw [unhide hx, or_int]; congr 1
          exact gN_congr (fun z _ _ => by rw [unhide HST, unhide HLN]; simp))
        clear hb
        go_wp2_with fail
        go_roundw
        case rel => exact ⟨j + 1, by omega, by go_num, ⟨_, rfl, HE⟩, HB2⟩
        case measure => simp [intOf]; omega
    · obtain rfl : j = 9 := by omega
      go_wp2_with fail
      go_ret
      exact ⟨ret_int (unhide hx), unhide hbl⟩
theorem gL_app (L : List Int) (a : Int) : bits .or .u16 (gL L : Int) (gL [a] : Int) = (gL (L ++ [a]) : Int) := by
  unfold gL; rw [or_int]; congr 1
  exact gN_congr (fun z _ _ => by rw [Bool.eq_iff_iff]; simp)
set_option maxRecDepth 100000 in
set_option maxHeartbeats 4000000 in
theorem alwaysWilling (a : Option Addr) (ls : List Lk.R) (cap : Nat) (now : Int) (w : World) (hl : ls.length ≤ 64) (hr : Lk.RM w a ls) :
    Calls Try.prog 39 #[.slice a ls.length cap, .int .i64 now] w fun e w' => e = .returned (.int .u16 (gL (alwV ls now ls.length))) ∧ Below w.heap.size w w' := by
  have HR := hide hr
  clear hr
  generalize hN : ls.length = n at *
  have HN := hide hN
  clear hN
  go_enter Try.func39, Try.ntmps39
  go_wp2_with fail
  go_loopw [5, 10] (fun g i wr => ∃ j : Nat, j ≤ n ∧ i = .int .i64 j ∧ (∃ x : Int, g = .int .u16 x ∧ Hid (x = gL (alwV ls now j))) ∧ Hid (Below w.heap.size w wr)) (fun _ i _ => n - (intOf i).toNat)
  case atStart => exact ⟨0, by omega, rfl, ⟨0, rfl, hide (by unfold gL; rw [gN_nil (c := fun z => (alwV ls now 0).contains z) (fun _ _ _ => rfl)]; rfl)⟩, hide (Below.refl _ _)⟩
  case round =>
    obtain ⟨j, hj, rfl, ⟨x, rfl, hx⟩, hbl⟩ := hrel
    by_cases hlt : (j : Int) < (n : Int)
    · have k0 : (0 : Int) ≤ (j : Int) := by omega
      have hlen : j < ls.length := by rw [unhide HN]; omega
      obtain ⟨g, off, rfl⟩ := (unhide HR).form (by omega)
      obtain ⟨c0, c1, c2, c3, c4, c5⟩ := ((unhide HR).below (unhide hbl)).at hlen
      have hbs := (unhide hbl).size
      have HY := hide (fun (h : alwB now (ls.getD j Lk.R.zero) = true) => alw_yes hlen h)
      have HZ := hide (fun (h : alwB now (ls.getD j Lk.R.zero) = false) => alw_no hlen h)
      generalize ls.getD j Lk.R.zero = m at *
      have HBA := hide ((unhide hbl).alloc hbs (.cells #[.int .i64 m.ad, .int .i64 m.hd, .int .i64 m.sy, .int .i64 m.ci, .int .i64 m.co, .int .i64 m.wl] 54))
      have HX := hide (Ln.bx_new wr m 54)
      have HVO : Hid (alwB now m = ((Ln.statusV m now == 2) && (m.wl == 7))) := hide rfl
      go_wp2_with fail
      generalize hW : wr.alloc (.cells #[.int .i64 m.ad, .int .i64 m.hd, .int .i64 m.sy, .int .i64 m.ci, .int .i64 m.co, .int .i64 m.wl] 54) = W0 at *
      clear hW
      refine (Ln.implStatus _ _ _ _ _ _ now _).mono ?_
      rintro e w2 ⟨rfl, b2⟩
      have HBL := hide ((unhide HBA).trans (b2.mono (unhide HBA).size))
      have HX2 := hide ((unhide HX).below b2)
      obtain ⟨d0, d1, d2, d3, d4, d5⟩ := unhide HX2
      clear b2 c0 c1 c2 c3 c4 c5
      have e2 : Ln.statusV ⟨m.ad, m.hd, m.sy, m.ci, m.co, m.wl⟩ now = Ln.statusV m now := rfl
      rw [e2]
      clear e2
      have hsw := (unhide HBL).size
      cases hs : (Ln.statusV m now == 2)
      · have HTF : Hid (x = gL (alwV ls now (j + 1))) := hide (by rw [unhide HZ (by rw [unhide HVO, hs]; rfl)]; exact unhide hx)
        clear HY HZ HVO
        generalize Ln.statusV m now = sv at *
        go_wp2_with fail
        go_roundw
        case rel => exact ⟨j + 1, by omega, by go_num, ⟨x, rfl, HTF⟩, HBL⟩
        case measure => simp [intOf]; omega
      cases hwl : (m.wl == 7)
      · have HTF : Hid (x = gL (alwV ls now (j + 1))) := hide (by rw [unhide HZ (by rw [unhide HVO, hs, hwl]; rfl)]; exact unhide hx)
        clear HY HZ HVO
        generalize Ln.statusV m now = sv at *
        go_wp2_with fail
        go_roundw
        case rel => exact ⟨j + 1, by omega, by go_num, ⟨x, rfl, HTF⟩, HBL⟩
        case measure => simp [intOf]; omega
      · have HTF : Hid (bits .or .u16 x (gL [m.ad] : Int) = gL (alwV ls now (j + 1))) := hide (by rw [unhide HY (by rw [unhide HVO, hs, hwl]; rfl), unhide hx]; exact gL_app _ _)
        clear HY HZ HVO
        generalize Ln.statusV m now = sv at *
        have HRN := hide (In.rm_new w2 m.ad)
        have HBN := hide ((unhide HBL).alloc hsw (.cells #[.int .i64 m.ad] 3))
        go_wp2_with fail
        refine (groupOf _ [m.ad] _ _ (by simp) (unhide HRN)).mono ?_
        rintro e w4 ⟨rfl, rfl⟩
        go_wp2_with fail
        go_roundw
        case rel => exact ⟨j + 1, by omega, by go_num, ⟨_, rfl, HTF⟩, HBN⟩
        case measure => simp [intOf]; omega
    · obtain rfl : j = n := by omega
      go_wp2_with fail
      go_ret
      exact ⟨ret_int (unhide hx), unhide hbl⟩
end Gp
end Go.Proofs.Ytpknahhdapmcoao
