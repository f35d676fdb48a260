/-
  The program's contract: Needless. The model's contract: Needless.
-/
import Derived.Test.YtpknahhdapmcoacMg3
import Derived.Test.YtpknahhdapmcoacMg1
namespace Go.Proofs.Ytpknahhdapmcoac
open Go.ChangeShapes Go.WideShapes Go.ChangeAt Go.RowKit
set_option linter.unusedVariables false
set_option linter.unusedSimpArgs false
attribute [local go_sem ↓] Go.wp_at_zero Go.wp_at_succ
namespace Gp
open W1 Tu St Tw Mr Mt
/-- Relays without which the others cover, among the first j places. -/
def rest (rs : List Int) (i : Nat) : List Int := rs.take i ++ rs.drop (i + 1)
def needB (via : Int → List Int) (S rs : List Int) (i : Nat) : Bool := (leftV via S (rest rs i)).length == 0
def needN (via : Int → List Int) (S rs : List Int) (j : Nat) : List Int := ((List.range j).filter (needB via S rs)).map (fun i => rs.getD i 0)
theorem need_yes {via : Int → List Int} {S rs : List Int} {j : Nat} (h : needB via S rs j = true) : needN via S rs (j + 1) = needN via S rs j ++ [rs.getD j 0] := by
  unfold needN; rw [List.range_succ, List.filter_append, List.filter_cons_of_pos h, List.map_append]; rfl
theorem need_no {via : Int → List Int} {S rs : List Int} {j : Nat} (h : needB via S rs j = false) : needN via S rs (j + 1) = needN via S rs j := by
  unfold needN; rw [List.range_succ, List.filter_append, List.filter_cons_of_neg (by rw [h]; simp)]; simp
theorem need_len (via : Int → List Int) (S rs : List Int) (j : Nat) : (needN via S rs j).length ≤ j := by
  unfold needN; rw [List.length_map]
  have := List.length_filter_le (needB via S rs) (List.range j)
  rw [List.length_range] at this; exact this
def needA (ms : List R) (ls : List Lk.R) (me now : Int) (rs : List Int) : List Int := if codeM ms ls rs = 0 then needN (viaF ms ls now) (strF ms ls me now) rs rs.length else []
theorem rest_has (rs : List Int) (i : Nat) (z : Int) : (rest rs i).contains z = ((rs.take i).contains z || (rs.drop (i + 1)).contains z) := by
  unfold rest; rw [Bool.eq_iff_iff]; simp
theorem gL_rest (rs : List Int) (i : Nat) : bits .or .u16 (gL (rs.take i) : Int) (gL (rs.drop (i + 1)) : Int) = (gL (rest rs i) : Int) := by
  unfold gL; rw [or_int]; congr 1
  exact gN_congr (fun z _ _ => (rest_has rs i z).symm)
def CapV (v : Value) : Prop := ∃ a n c, v = .slice a n c ∧ n ≤ c ∧ c ≤ maxLen
theorem cap_own {w : World} {base n : Nat} {v : Value} {xs : List Value} (h : w.ownsRow base 3 1 v n xs) : CapV v := by
  obtain ⟨h1, ⟨e, h2⟩ | ⟨g, c, cur, e, hb, h3, h4, h5, _⟩⟩ := h
  · exact ⟨_, _, _, e, Nat.le_refl _, Nat.zero_le _⟩
  · exact ⟨_, _, _, e, h4, h5⟩
theorem rm_take0 {w : World} {g off : Nat} {zs : List Int} (h : In.RM w (some ⟨g, off, none⟩) zs) (n : Nat) : In.RM w (some ⟨g, off, none⟩) (zs.take n) := rmI_take h n
set_option maxRecDepth 100000 in
set_option maxHeartbeats 8000000 in
theorem implNeedless (a : Option Addr) (ms : List R) (cap : Nat) (b : Option Addr) (ls : List Lk.R) (capl : Nat) (me now : Int) (b2 : Option Addr) (rs : List Int) (capr : Nat) (w : World) (hm : ms.length ≤ 1048576) (hl : ls.length ≤ 1048576) (hrl : rs.length ≤ 1048576) (hcap : rs.length ≤ capr) (hcm : capr ≤ maxLen) (hr : RM w a ms) (hr' : Lk.RM w b ls) (hrr : In.RM w b2 rs) :
    Calls Try.prog 21 #[.slice a ms.length cap, .slice b ls.length capl, .int .i64 me, .int .i64 now, .slice b2 rs.length capr] w fun e w' => ∃ v, e = .returned (.tuple #[v, .int .i64 (codeM ms ls rs)]) ∧ Below w.heap.size w w' ∧ In.LstV w' v (needA ms ls me now rs) w.heap.size w'.heap.size := by
  have HRC := hide (fun W h1 h2 => relaysCode a ms cap b ls capl b2 rs capr W hm hl hrl h1 h2)
  have HR := hide hr
  have HL := hide hr'
  have HRR := hide hrr
  clear hr hr' hrr
  by_cases hc : codeM ms ls rs = 0
  rotate_left
  · have h1 : needA ms ls me now rs = [] := by unfold needA; rw [if_neg hc]
    rw [h1]
    clear h1
    generalize hcd : codeM ms ls rs = cd at *
    clear hcd
    have q1 : (cd != 0) = true := by simpa using hc
    go_enter Try.func21, Try.ntmps21
    go_wp2_with fail
    refine (unhide HRC _ (unhide HR) (unhide HL)).mono ?_
    rintro e w1 ⟨rfl, b1⟩
    have HB1 := hide b1
    clear b1
    go_wp2_with fail
    go_ret2
    exact ⟨_, rfl, unhide HB1, In.lstV_nil _ _ _ _ _⟩
  have hr8 := (codeM_zero hc).2
  have HOK := hide (codeTL_ok (codeM_zero hc).1)
  have h1 : needA ms ls me now rs = needN (viaF ms ls now) (strF ms ls me now) rs rs.length := by unfold needA; rw [if_pos hc]
  have HLZ := hide (fun i => left_zero (S := strF ms ls me now) (via := viaF ms ls now) (c := fun z => (rest rs i).contains z) (rs := rest rs i) str_rng2 (fun z => via_rng (unhide HOK).2) (fun _ _ _ => rfl))
  rw [h1]
  rw [hc] at HRC ⊢
  clear hc h1
  have HGO := hide (fun W h1 h2 => groundOf a ms cap b ls capl me now W (unhide HOK) h1 h2)
  generalize strF ms ls me now = S at *
  generalize viaF ms ls now = via at *
  unfold maxLen at hcm
  go_enter Try.func21, Try.ntmps21
  go_wp2_with fail
  refine (unhide HRC _ (unhide HR) (unhide HL)).mono ?_
  rintro e w1 ⟨rfl, b1⟩
  have HB1 := hide b1
  have HR1 := hide ((unhide HR).below b1)
  have HL1 := hide ((unhide HL).below b1)
  have HRR1 := hide ((unhide HRR).below b1)
  clear b1
  go_wp2_with fail
  refine (unhide HGO _ (unhide HR1) (unhide HL1)).mono ?_
  rintro e w2 ⟨rfl, b2'⟩
  have HB2 := hide ((unhide HB1).trans (b2'.mono (unhide HB1).size))
  have HRR2 := hide ((unhide HRR1).below b2')
  clear b2'
  go_wp2_with (refine wpList_storeG _ _ rfl rfl rfl rfl (ga_new w2 0 (fun _ => 0) (fun _ => 0) 94).2 ?_; intro w5 ga5 hbb5 hsz5; have HG5 := hide ga5; have HB5 := hide (hbb5 _ _ ((unhide HB2).alloc (unhide HB2).size (.cells #[.int .u16 0, .int .u16 0, .int .u16 0, .int .u16 0, .int .u16 0, .int .u16 0, .int .u16 0, .int .u16 0, .int .u16 0, .int .u16 0, .int .u16 0, .int .u16 0, .int .u16 0, .int .u16 0, .int .u16 0, .int .u16 0, .int .u16 0, .int .u16 0, .int .u16 0] 94)) (unhide HB2).size); have HRR5 := hide ((unhide HRR2).below (hbb5 _ _ ((Below.refl w2.heap.size w2).alloc (Nat.le_refl _) (.cells #[.int .u16 0, .int .u16 0, .int .u16 0, .int .u16 0, .int .u16 0, .int .u16 0, .int .u16 0, .int .u16 0, .int .u16 0, .int .u16 0, .int .u16 0, .int .u16 0, .int .u16 0, .int .u16 0, .int .u16 0, .int .u16 0, .int .u16 0, .int .u16 0, .int .u16 0] 94)) (Nat.le_refl _))); clear ga5 hbb5 hsz5)
  have O0 : Hid (w5.ownsRow w5.heap.size 3 1 (.slice none 0 0) (needN via S rs 0).length (In.flat (needN via S rs 0))) := hide (In.own_nil w5 w5.heap.size)
  generalize hn : rs.length = n at *
  have HN := hide hn
  clear hn
  go_loopw [14, 32] (fun v i wr => ∃ j : Nat, j ≤ n ∧ i = .int .i64 j ∧ Hid (wr.ownsRow w5.heap.size 3 1 v (needN via S rs j).length (In.flat (needN via S rs j))) ∧ Hid (Below w5.heap.size w5 wr)) (fun _ i _ => n - (intOf i).toNat)
  case atStart => exact ⟨0, by omega, rfl, O0, hide (Below.refl _ _)⟩
  case round =>
    obtain ⟨j, hj, rfl, how, hbl⟩ := hrel
    have hbs := (unhide hbl).size
    have hfl := need_len via S rs j
    by_cases hlt : (j : Int) < (n : Int)
    · have k0 : (0 : Int) ≤ (j : Int) := by omega
      have k1 : (0 : Int) ≤ (j : Int) + 1 := by omega
      have k2 : (j : Int) ≤ (capr : Int) := by omega
      have k3 : (j : Int) + 1 ≤ (n : Int) := by omega
      have k4 : (n : Int) ≤ (capr : Int) := by omega
      have k5 : (j : Int) + 1 ≤ (capr : Int) := by omega
      have hlen : j < rs.length := by rw [unhide HN]; omega
      have HRRr := hide ((unhide HRR5).below (unhide hbl))
      have HGr := hide ((unhide HG5).below (unhide hbl))
      have HLJ := hide (unhide HLZ j)
      have HGL := hide (gL_rest rs j)
      have HNB : Hid (needB via S rs j = ((leftV via S (rest rs j)).length == 0)) := hide rfl
      have HY := hide (fun (h : needB via S rs j = true) => need_yes h)
      have HZ := hide (fun (h : needB via S rs j = false) => need_no h)
      have HGR : Hid (gL (rest rs j) = gN (fun z => (rest rs j).contains z)) := hide rfl
      have lt1 : (rs.take j).length = j := by rw [List.length_take]; omega
      have ld1 : (rs.drop (j + 1)).length = n - (j + 1) := by rw [List.length_drop, unhide HN]
      rcases unhide HRRr with e0 | ⟨g, off, rfl, hc⟩
      · exfalso; rw [e0] at hlen; simp at hlen
      have c0 := hc j hlen
      clear hc
      have HA1 : Hid (∀ W q, In.RM W (some ⟨g, off, none⟩) rs → Calls Try.prog 64 #[.slice (some ⟨g, off, none⟩) j q] W fun e w' => e = .returned (.int .u16 (gL (rs.take j))) ∧ w' = W) := hide (fun W q h => by
        have := groupOf (some ⟨g, off, none⟩) (rs.take j) q W (by rw [lt1]; omega) (rmI_take h j)
        rw [lt1] at this; exact this)
      have HA2 : Hid (∀ W q o, (o = off + (j + 1) ∨ n - (j + 1) = 0) → In.RM W (some ⟨g, off, none⟩) rs → Calls Try.prog 64 #[.slice (some ⟨g, o, none⟩) (n - (j + 1)) q] W fun e w' => e = .returned (.int .u16 (gL (rs.drop (j + 1)))) ∧ w' = W) := hide (fun W q o ho h => by
        have hrm : In.RM W (some ⟨g, o, none⟩) (rs.drop (j + 1)) := by
          rcases ho with rfl | h0
          · exact rmI_drop h (j + 1)
          · exact .inl (List.eq_nil_of_length_eq_zero (by rw [ld1]; exact h0))
        have := groupOf (some ⟨g, o, none⟩) (rs.drop (j + 1)) q W (by rw [ld1]; omega) hrm
        rw [ld1] at this; exact this)
      clear lt1 ld1
      generalize rs.getD j 0 = y at *
      by_cases hcp : capr = j + 1
      · have hnj : n - (j + 1) = 0 := by omega
        have HA20 := hide (fun W q h => unhide HA2 W q off (.inr hnj) h)
        rw [hnj] at HA20
        subst hcp
        have p1 : (j : Int) ≤ (j : Int) + 1 := by omega
        have p2 : (n : Int) ≤ (j : Int) + 1 := by omega
        go_wp2_with fail
        refine wp_region_noPanic ?_
        refine wp_region_held_drew (S := fun w' => True) (by kernel_rfl) trivial (fun hHeld => ?_)
        (refine Rg.tk (i := 0) (d := 37) (v := ?_) rfl rfl (by kernel_rfl) (by kernel_rfl) (by kernel_rfl) (fun _ _ _ h => h) (by rfl) ?_ (by assumption) ?_; rotate_left; (focus (intro w0 hSw; (try dsimp only at hSw); go_simp; (try with_reducible rfl))); (try simp only [Act.put, List.setIfInBounds_toArray, List.set_cons_zero, List.set_cons_succ]))
        (refine Rg.tk (i := 1) (d := 38) (v := ?_) rfl rfl (by kernel_rfl) (by kernel_rfl) (by kernel_rfl) (fun _ _ _ h => h) (by rfl) ?_ (by assumption) ?_; rotate_left; (focus (intro w0 hSw; (try dsimp only at hSw); go_simp; (try with_reducible rfl))); (try simp only [Act.put, List.setIfInBounds_toArray, List.set_cons_zero, List.set_cons_succ]))
        (refine Rg.tk (i := 2) (d := 39) (v := ?_) rfl rfl (by kernel_rfl) (by kernel_rfl) (by kernel_rfl) (fun _ _ _ h => h) (by rfl) ?_ (by assumption) ?_; rotate_left; (focus (intro w0 hSw; (try dsimp only at hSw); go_simp; (try with_reducible rfl))); (try simp only [Act.put, List.setIfInBounds_toArray, List.set_cons_zero, List.set_cons_succ]))
        (refine Rg.tk (i := 4) (d := 41) (v := ?_) rfl rfl (by kernel_rfl) (by kernel_rfl) (by kernel_rfl) (fun _ _ _ h => h) (by rfl) ?_ (by assumption) ?_; rotate_left; (focus (intro w0 hSw; (try dsimp only at hSw); go_simp; (try with_reducible rfl))); (try simp only [Act.put, List.setIfInBounds_toArray, List.set_cons_zero, List.set_cons_succ]))
        (refine Rg.tk (i := 5) (d := 42) (v := ?_) rfl rfl (by kernel_rfl) (by kernel_rfl) (by kernel_rfl) (fun _ _ _ h => h) (by rfl) ?_ (by assumption) ?_; rotate_left; (focus (intro w0 hSw; (try dsimp only at hSw); go_simp; (try with_reducible rfl))); (try simp only [Act.put, List.setIfInBounds_toArray, List.set_cons_zero, List.set_cons_succ]))
        (refine Rg.tk (i := 6) (d := 43) (v := .int .i64 ((j : Int) + 1)) rfl rfl (by kernel_rfl) (by kernel_rfl) (by kernel_rfl) (fun _ _ _ h => h) (by rfl) ?_ (by assumption) ?_; (focus (intro w0 hSw; (try dsimp only at hSw); go_simp)); (try simp only [Act.put, List.setIfInBounds_toArray, List.set_cons_zero, List.set_cons_succ]))
        · exact IntWalk.i64_in _ (by omega)
        (refine Rg.tk (i := 7) (d := 44) (v := ?_) rfl rfl (by kernel_rfl) (by kernel_rfl) (by kernel_rfl) (fun _ _ _ h => h) (by rfl) ?_ (by assumption) ?_; rotate_left; (focus (intro w0 hSw; (try dsimp only at hSw); go_simp; (try with_reducible rfl))); (try simp only [Act.put, List.setIfInBounds_toArray, List.set_cons_zero, List.set_cons_succ]))
        (refine wpAnyH_ready (rs := [3]) (by kernel_rfl) (by simp) ?_; refine AllReadyH.cons (o := _) rfl (fun K hK => ?_) AllReadyH.nil; go_simp)
        refine (unhide HA1 _ _ ((unhide HRRr).below ((Below.refl _ _).drew))).mono ?_
        rintro e w6 ⟨rfl, hw6⟩
        rw [hw6]
        clear hHeld hw6
        refine hK.out _ _ trivial (fun hHeld => ?_)
        clear hK K
        (try simp only [Act.put, List.setIfInBounds_toArray, List.set_cons_zero, List.set_cons_succ])
        (refine wpAnyH_ready (rs := [8]) (by kernel_rfl) (by simp) ?_; refine AllReadyH.cons (o := _) rfl (fun K hK => ?_) AllReadyH.nil; go_simp)
        refine (unhide HA20 _ _ ((unhide HRRr).below ((Below.refl _ _).drew))).mono ?_
        rintro e w7 ⟨rfl, hw7⟩
        rw [hw7]
        clear hHeld hw7
        refine hK.out _ _ trivial (fun hHeld => ?_)
        clear hK K
        (try simp only [Act.put, List.setIfInBounds_toArray, List.set_cons_zero, List.set_cons_succ])
        (refine Rg.tk (i := 9) (d := 46) (v := ?_) rfl rfl (by kernel_rfl) (by kernel_rfl) (by kernel_rfl) (fun _ _ _ h => h) (by rfl) ?_ (by assumption) ?_; rotate_left; (focus (intro w0 hSw; (try dsimp only at hSw); go_simp; (try with_reducible rfl))); (try simp only [Act.put, List.setIfInBounds_toArray, List.set_cons_zero, List.set_cons_succ]))
        (refine Rg.tk (i := 10) (d := 17) (v := ?_) rfl rfl (by kernel_rfl) (by kernel_rfl) (by kernel_rfl) (fun _ _ _ h => h) (by rfl) ?_ (by assumption) ?_; rotate_left; (focus (intro w0 hSw; (try dsimp only at hSw); go_simp; (try with_reducible rfl))); (try simp only [Act.put, List.setIfInBounds_toArray, List.set_cons_zero, List.set_cons_succ]))
        refine wpAnyH_done (by kernel_rfl) (NoPanic.normal ?_) _
        clear hHeld
        rw [unhide HGL, unhide HGR]
        have HGd := hide ((unhide HGr).below ((Below.refl _ _).drew))
        have HOd := hide (Ln.own_belowI (unhide how) ((Below.refl _ _).drew))
        have HBd := hide ((unhide hbl).drew)
        have HIC := hide (fun W => isCovered (vN S via) S via (fun z => (rest rs j).contains z) W)
        rw [unhide HLJ, ← unhide HNB] at HIC
        generalize gN (fun z => (rest rs j).contains z) = gr at *
        clear HRRr HA1 HA2 HA20 HLJ HGL HGR HNB HGr
        generalize hwd : wr.drew = wd at *
        clear hwd
        cases hnb : needB via S rs j
        · have HTF := hide (unhide HZ hnb)
          rw [hnb] at HIC
          clear HY HZ hnb
          go_wp2_with (refine wpList_loadG _ rfl rfl rfl (unhide HGd) ?_)
          refine (unhide HIC _).mono ?_
          rintro e w8 ⟨rfl, b8⟩
          have HO8 : Hid (w8.ownsRow w5.heap.size 3 1 u14 (needN via S rs (j + 1)).length (In.flat (needN via S rs (j + 1)))) := hide (by rw [unhide HTF]; exact Ln.own_belowI (unhide HOd) b8)
          have HB8 := hide ((unhide HBd).trans (b8.mono (unhide HBd).size))
          clear b8
          go_wp2_with fail
          go_roundw
          case rel => exact ⟨j + 1, by omega, by go_num, HO8, HB8⟩
          case measure => simp [intOf]; omega
        · have HTF := hide (unhide HY hnb)
          rw [hnb] at HIC
          clear HY HZ hnb
          go_wp2_with (refine wpList_loadG _ rfl rfl rfl (unhide HGd) ?_)
          refine (unhide HIC _).mono ?_
          rintro e w8 ⟨rfl, b8⟩
          have HO8 := hide (Ln.own_belowI (unhide HOd) b8)
          have HB8 := hide ((unhide HBd).trans (b8.mono (unhide HBd).size))
          have hs8 := (unhide HB8).size
          clear b8
          go_wp2_with (at_builtin; refine In.wpList_apS ((unhide HO8).alloc _) w8.heap.size 0 1 1 [y] rfl (In.rm_new w8 y) (by simp only [List.length_cons, List.length_nil]; omega) (by simp; omega) rfl _ _ rfl rfl rfl ?_; intro v' w' ho hg; have HO : Hid (w'.ownsRow w5.heap.size 3 1 v' (needN via S rs (j + 1)).length (In.flat (needN via S rs (j + 1)))) := hide (by rw [unhide HTF]; exact ho); have HB := hide (In.below_own ((unhide HB8).alloc hs8 _) ((unhide HO8).alloc _) hg (Nat.le_refl _) (by simp; omega)); clear ho hg)
          go_roundw
          case rel => exact ⟨j + 1, by omega, by go_num, HO, HB⟩
          case measure => simp [intOf]; omega
      · go_wp2_with fail
        refine wp_region_noPanic ?_
        refine wp_region_held_drew (S := fun w' => True) (by kernel_rfl) trivial (fun hHeld => ?_)
        (refine Rg.tk (i := 0) (d := 37) (v := ?_) rfl rfl (by kernel_rfl) (by kernel_rfl) (by kernel_rfl) (fun _ _ _ h => h) (by rfl) ?_ (by assumption) ?_; rotate_left; (focus (intro w0 hSw; (try dsimp only at hSw); go_simp; (try with_reducible rfl))); (try simp only [Act.put, List.setIfInBounds_toArray, List.set_cons_zero, List.set_cons_succ]))
        (refine Rg.tk (i := 1) (d := 38) (v := ?_) rfl rfl (by kernel_rfl) (by kernel_rfl) (by kernel_rfl) (fun _ _ _ h => h) (by rfl) ?_ (by assumption) ?_; rotate_left; (focus (intro w0 hSw; (try dsimp only at hSw); go_simp; (try with_reducible rfl))); (try simp only [Act.put, List.setIfInBounds_toArray, List.set_cons_zero, List.set_cons_succ]))
        (refine Rg.tk (i := 2) (d := 39) (v := ?_) rfl rfl (by kernel_rfl) (by kernel_rfl) (by kernel_rfl) (fun _ _ _ h => h) (by rfl) ?_ (by assumption) ?_; rotate_left; (focus (intro w0 hSw; (try dsimp only at hSw); go_simp; (try with_reducible rfl))); (try simp only [Act.put, List.setIfInBounds_toArray, List.set_cons_zero, List.set_cons_succ]))
        (refine Rg.tk (i := 4) (d := 41) (v := ?_) rfl rfl (by kernel_rfl) (by kernel_rfl) (by kernel_rfl) (fun _ _ _ h => h) (by rfl) ?_ (by assumption) ?_; rotate_left; (focus (intro w0 hSw; (try dsimp only at hSw); go_simp; (try with_reducible rfl))); (try simp only [Act.put, List.setIfInBounds_toArray, List.set_cons_zero, List.set_cons_succ]))
        (refine Rg.tk (i := 5) (d := 42) (v := ?_) rfl rfl (by kernel_rfl) (by kernel_rfl) (by kernel_rfl) (fun _ _ _ h => h) (by rfl) ?_ (by assumption) ?_; rotate_left; (focus (intro w0 hSw; (try dsimp only at hSw); go_simp; (try with_reducible rfl))); (try simp only [Act.put, List.setIfInBounds_toArray, List.set_cons_zero, List.set_cons_succ]))
        (refine Rg.tk (i := 6) (d := 43) (v := .int .i64 ((j : Int) + 1)) rfl rfl (by kernel_rfl) (by kernel_rfl) (by kernel_rfl) (fun _ _ _ h => h) (by rfl) ?_ (by assumption) ?_; (focus (intro w0 hSw; (try dsimp only at hSw); go_simp)); (try simp only [Act.put, List.setIfInBounds_toArray, List.set_cons_zero, List.set_cons_succ]))
        · exact IntWalk.i64_in _ (by omega)
        (refine Rg.tk (i := 7) (d := 44) (v := ?_) rfl rfl (by kernel_rfl) (by kernel_rfl) (by kernel_rfl) (fun _ _ _ h => h) (by rfl) ?_ (by assumption) ?_; rotate_left; (focus (intro w0 hSw; (try dsimp only at hSw); go_simp; (try with_reducible rfl))); (try simp only [Act.put, List.setIfInBounds_toArray, List.set_cons_zero, List.set_cons_succ]))
        (refine wpAnyH_ready (rs := [3]) (by kernel_rfl) (by simp) ?_; refine AllReadyH.cons (o := _) rfl (fun K hK => ?_) AllReadyH.nil; go_simp)
        refine (unhide HA1 _ _ ((unhide HRRr).below ((Below.refl _ _).drew))).mono ?_
        rintro e w6 ⟨rfl, hw6⟩
        rw [hw6]
        clear hHeld hw6
        refine hK.out _ _ trivial (fun hHeld => ?_)
        clear hK K
        (try simp only [Act.put, List.setIfInBounds_toArray, List.set_cons_zero, List.set_cons_succ])
        (refine wpAnyH_ready (rs := [8]) (by kernel_rfl) (by simp) ?_; refine AllReadyH.cons (o := _) rfl (fun K hK => ?_) AllReadyH.nil; go_simp)
        refine (unhide HA2 _ _ _ (.inl rfl) ((unhide HRRr).below ((Below.refl _ _).drew))).mono ?_
        rintro e w7 ⟨rfl, hw7⟩
        rw [hw7]
        clear hHeld hw7
        refine hK.out _ _ trivial (fun hHeld => ?_)
        clear hK K
        (try simp only [Act.put, List.setIfInBounds_toArray, List.set_cons_zero, List.set_cons_succ])
        (refine Rg.tk (i := 9) (d := 46) (v := ?_) rfl rfl (by kernel_rfl) (by kernel_rfl) (by kernel_rfl) (fun _ _ _ h => h) (by rfl) ?_ (by assumption) ?_; rotate_left; (focus (intro w0 hSw; (try dsimp only at hSw); go_simp; (try with_reducible rfl))); (try simp only [Act.put, List.setIfInBounds_toArray, List.set_cons_zero, List.set_cons_succ]))
        (refine Rg.tk (i := 10) (d := 17) (v := ?_) rfl rfl (by kernel_rfl) (by kernel_rfl) (by kernel_rfl) (fun _ _ _ h => h) (by rfl) ?_ (by assumption) ?_; rotate_left; (focus (intro w0 hSw; (try dsimp only at hSw); go_simp; (try with_reducible rfl))); (try simp only [Act.put, List.setIfInBounds_toArray, List.set_cons_zero, List.set_cons_succ]))
        refine wpAnyH_done (by kernel_rfl) (NoPanic.normal ?_) _
        clear hHeld
        rw [unhide HGL, unhide HGR]
        have HGd := hide ((unhide HGr).below ((Below.refl _ _).drew))
        have HOd := hide (Ln.own_belowI (unhide how) ((Below.refl _ _).drew))
        have HBd := hide ((unhide hbl).drew)
        have HIC := hide (fun W => isCovered (vN S via) S via (fun z => (rest rs j).contains z) W)
        rw [unhide HLJ, ← unhide HNB] at HIC
        generalize gN (fun z => (rest rs j).contains z) = gr at *
        clear HRRr HA1 HA2 HLJ HGL HGR HNB HGr
        generalize hwd : wr.drew = wd at *
        clear hwd
        cases hnb : needB via S rs j
        · have HTF := hide (unhide HZ hnb)
          rw [hnb] at HIC
          clear HY HZ hnb
          go_wp2_with (refine wpList_loadG _ rfl rfl rfl (unhide HGd) ?_)
          refine (unhide HIC _).mono ?_
          rintro e w8 ⟨rfl, b8⟩
          have HO8 : Hid (w8.ownsRow w5.heap.size 3 1 u14 (needN via S rs (j + 1)).length (In.flat (needN via S rs (j + 1)))) := hide (by rw [unhide HTF]; exact Ln.own_belowI (unhide HOd) b8)
          have HB8 := hide ((unhide HBd).trans (b8.mono (unhide HBd).size))
          clear b8
          go_wp2_with fail
          go_roundw
          case rel => exact ⟨j + 1, by omega, by go_num, HO8, HB8⟩
          case measure => simp [intOf]; omega
        · have HTF := hide (unhide HY hnb)
          rw [hnb] at HIC
          clear HY HZ hnb
          go_wp2_with (refine wpList_loadG _ rfl rfl rfl (unhide HGd) ?_)
          refine (unhide HIC _).mono ?_
          rintro e w8 ⟨rfl, b8⟩
          have HO8 := hide (Ln.own_belowI (unhide HOd) b8)
          have HB8 := hide ((unhide HBd).trans (b8.mono (unhide HBd).size))
          have hs8 := (unhide HB8).size
          clear b8
          go_wp2_with (at_builtin; refine In.wpList_apS ((unhide HO8).alloc _) w8.heap.size 0 1 1 [y] rfl (In.rm_new w8 y) (by simp only [List.length_cons, List.length_nil]; omega) (by simp; omega) rfl _ _ rfl rfl rfl ?_; intro v' w' ho hg; have HO : Hid (w'.ownsRow w5.heap.size 3 1 v' (needN via S rs (j + 1)).length (In.flat (needN via S rs (j + 1)))) := hide (by rw [unhide HTF]; exact ho); have HB := hide (In.below_own ((unhide HB8).alloc hs8 _) ((unhide HO8).alloc _) hg (Nat.le_refl _) (by simp; omega)); clear ho hg)
          go_roundw
          case rel => exact ⟨j + 1, by omega, by go_num, HO, HB⟩
          case measure => simp [intOf]; omega
    · obtain rfl : j = n := by omega
      have HLs := hide ((In.lst_own rfl (unhide how)).mono (lo' := w.heap.size) (unhide HB5).size (Nat.le_refl _))
      have HBf := hide ((unhide HB5).trans ((unhide hbl).mono (unhide HB5).size))
      go_wp2_with fail
      go_ret2
      exact ⟨_, rfl, unhide HBf, by rw [unhide HN]; exact unhide HLs⟩
end Gp
end Go.Proofs.Ytpknahhdapmcoac
namespace Go.Proofs.Ytpknahhdapmcoac
open Go.ChangeShapes Go.WideShapes Go.ChangeAt Go.RowKit
set_option linter.unusedVariables false
set_option linter.unusedSimpArgs false
attribute [local go_sem ↓] Go.wp_at_zero Go.wp_at_succ
namespace Gp
open W1 Tu St Tw Mr
theorem needA_len (ms : List R) (ls : List Lk.R) (me now : Int) (rs : List Int) : (needA ms ls me now rs).length ≤ rs.length := by
  unfold needA; split
  · exact need_len _ _ _ _
  · simp
end Gp
end Go.Proofs.Ytpknahhdapmcoac
