/-
  The program's contract: the ground that relays are chosen on.
-/
import Derived.Test.YtmelbilepfnmjapGrpV
import Derived.Test.YtmelbilepfnmjapTwoX
import Derived.Test.YtmelbilepfnmjapMprA
namespace Go.Proofs.Ytmelbilepfnmjap
open Go.ChangeShapes Go.WideShapes Go.ChangeAt Go.RowKit
set_option linter.unusedVariables false
set_option linter.unusedSimpArgs false
attribute [local go_sem ↓] Go.wp_at_zero Go.wp_at_succ
namespace Gp
open W1 Tu St Tw Mr Mt
/-- What a ground's fields are, behind the first j of the strict ones and k of those that reach the next. -/
def vN (S : List Int) (via : Int → List Int) (i : Nat) : Nat := if S.contains (i : Int) = true then gL (via i) else 0
def rB (S : List Int) (via : Int → List Int) (a : Int) (z : Int) : Bool := S.contains z && (via z).contains a
def rN (S : List Int) (via : Int → List Int) (i : Nat) : Nat := gN (rB S via i)
def rK (S : List Int) (via : Int → List Int) (z : Int) (vs : List Int) (i : Nat) : Nat := gN (fun y => rB S via i y || (y == z && vs.contains (i : Int)))
theorem vN_step {S : List Int} {via : Int → List Int} {j k : Nat} (h : j < S.length) (hk : S.getD j 0 = (k : Int)) : upd (vN (S.take j) via) k (gL (via k)) = vN (S.take (j + 1)) via := by
  funext i
  unfold upd vN
  rw [take_has h, hk]
  by_cases e : i = k
  · subst e; simp
  · have : ((i : Int) == (k : Int)) = false := by simp; omega
    rw [if_neg e, this, Bool.or_false]
theorem rK_start (S : List Int) (via : Int → List Int) (z : Int) : rK S via z [] = rN S via := by
  funext i; unfold rK rN; exact gN_congr (fun y _ _ => by simp)
theorem rK_end {S : List Int} {via : Int → List Int} {j : Nat} (h : j < S.length) : rK (S.take j) via (S.getD j 0) (via (S.getD j 0)) = rN (S.take (j + 1)) via := by
  funext i; unfold rK rN
  refine gN_congr (fun y _ _ => ?_)
  unfold rB
  rw [take_has h]
  by_cases e : y = S.getD j 0
  · rw [← e]; simp
  · have : (y == S.getD j 0) = false := by simpa using e
    rw [this]; simp
theorem rK_step {S : List Int} {via : Int → List Int} {z : Int} {vs : List Int} {t k : Nat} (h : t < vs.length) (hk : vs.getD t 0 = (k : Int)) : upd (rK S via z (vs.take t)) k (gN (fun y => (rB S via k y || (y == z && (vs.take t).contains (k : Int))) || y == z)) = rK S via z (vs.take (t + 1)) := by
  funext i
  unfold upd rK
  by_cases e : i = k
  · subst e
    rw [if_pos rfl]
    refine gN_congr (fun y _ _ => ?_)
    rw [take_has h, hk]
    cases rB S via (i : Int) y <;> cases (y == z) <;> cases (vs.take t).contains (i : Int) <;> simp
  · rw [if_neg e]
    refine gN_congr (fun y _ _ => ?_)
    have : ((i : Int) == (k : Int)) = false := by simp; omega
    rw [take_has h, hk, this, Bool.or_false]
theorem via_rng {ms : List R} {ls : List Lk.R} {now z : Int} (h : Ln.linksB ls = true) : ∀ a ∈ viaF ms ls now z, 1 ≤ a ∧ a ≤ 8 := by
  intro a ha
  unfold viaF viaL at ha
  rw [List.take_length, List.mem_map] at ha
  obtain ⟨m, hm, rfl⟩ := ha
  obtain ⟨i, hi, e⟩ := List.getElem_of_mem (List.mem_filter.1 hm).1
  have := Ln.ok_ad (Ri.all_ok h hi)
  rw [List.getD_eq_getElem?_getD, List.getElem?_eq_getElem hi, e] at this
  exact this
theorem str_rng2 {ms : List R} {ls : List Lk.R} {me now : Int} : ∀ z ∈ strF ms ls me now, 1 ≤ z ∧ z ≤ 8 := fun z hz => by
  have := str_mem.1 hz; exact ⟨this.1, this.2.1⟩
theorem there_below {w w' : World} {b o n : Nat} (h : w.there b o n) (hb : Below w.heap.size w w') (hg : b < w.heap.size) : w'.there b o n := fun j hj => ⟨by rw [hb.cell (p := ⟨b, o + j, none⟩) hg]; exact (h j hj).1, by rw [hb.frozen (p := ⟨b, o + j, none⟩) hg]; exact (h j hj).2⟩
theorem there_of {w w' : World} {b o n B : Nat} (h : w.there b o n) (hb : Below B w w') (hg : b < B) : w'.there b o n := fun j hj => ⟨by rw [hb.cell (p := ⟨b, o + j, none⟩) hg]; exact (h j hj).1, by rw [hb.frozen (p := ⟨b, o + j, none⟩) hg]; exact (h j hj).2⟩
theorem lst_set {W : World} {a : Option Addr} {zs : List Int} {lo hi G k : Nat} {v : Value} (h : In.Lst W a zs lo hi) (hG : G < lo) : In.Lst (W.setCell ⟨G, k, none⟩ v) a zs lo hi :=
  h.but (p := fun x => x ≠ G) (by simp [World.setCell]) (fun x _ hx => Below.heap_setCell _ _ _ _ hx) (fun x h1 _ => by omega)
set_option maxRecDepth 100000 in
set_option maxHeartbeats 8000000 in
theorem groundOf (a : Option Addr) (ms : List R) (cap : Nat) (b : Option Addr) (ls : List Lk.R) (capl : Nat) (me now : Int) (w : World) (hok : twoB ms = true ∧ Ln.linksB ls = true) (hr : RM w a ms) (hr' : Lk.RM w b ls) :
    Calls Try.prog 45 #[.slice a ms.length cap, .slice b ls.length capl, .int .i64 me, .int .i64 now] w fun e w' => e = .returned (GV (gL (strF ms ls me now)) (vN (strF ms ls me now) (viaF ms ls now)) (rN (strF ms ls me now) (viaF ms ls now))) ∧ Below w.heap.size w w' := by
  have HR := hide hr
  have HL := hide hr'
  have HOK := hide hok
  have h8 := Ln.links_len hok.2
  have HVR := hide (fun z => via_rng (ms := ms) (now := now) (z := z) hok.2)
  have HSR := hide (str_rng2 (ms := ms) (ls := ls) (me := me) (now := now))
  clear hr hr' hok
  obtain ⟨via, hv⟩ : ∃ via, viaF ms ls now = via := ⟨_, rfl⟩
  have HVL : Hid (∀ z, (via z).length ≤ ls.length) := hide (fun z => by rw [← hv]; exact via_len ms ls now z)
  have HV : Hid (∀ z, viaL (findT ms) ls z now ls.length = via z) := hide (fun z => by rw [← hv]; rfl)
  rw [hv] at HVR ⊢
  clear hv
  obtain ⟨S, hS⟩ : ∃ S, strF ms ls me now = S := ⟨_, rfl⟩
  have HS : Hid (strN (condS ms ls me now) 8 = S) := hide hS
  have hsl : S.length ≤ 8 := by rw [← hS]; exact str_len ms ls me now
  rw [hS] at HSR ⊢
  clear hS
  go_enter Try.func45, Try.ntmps45
  go_wp2_with fail
  have P0 := hide ((Below.refl w.heap.size w).alloc (Nat.le_refl _) (.cells #[.int .u16 0, .int .u16 0, .int .u16 0, .int .u16 0, .int .u16 0, .int .u16 0, .int .u16 0, .int .u16 0, .int .u16 0, .int .u16 0, .int .u16 0, .int .u16 0, .int .u16 0, .int .u16 0, .int .u16 0, .int .u16 0, .int .u16 0, .int .u16 0, .int .u16 0] 86))
  have F0 := hide (show (w.alloc (.cells #[.int .u16 0, .int .u16 0, .int .u16 0, .int .u16 0, .int .u16 0, .int .u16 0, .int .u16 0, .int .u16 0, .int .u16 0, .int .u16 0, .int .u16 0, .int .u16 0, .int .u16 0, .int .u16 0, .int .u16 0, .int .u16 0, .int .u16 0, .int .u16 0, .int .u16 0] 86)).there w.heap.size 0 19 from (ga_new w 0 (fun _ => 0) (fun _ => 0) 86).2)
  have hs0 : w.heap.size < (w.alloc (.cells #[.int .u16 0, .int .u16 0, .int .u16 0, .int .u16 0, .int .u16 0, .int .u16 0, .int .u16 0, .int .u16 0, .int .u16 0, .int .u16 0, .int .u16 0, .int .u16 0, .int .u16 0, .int .u16 0, .int .u16 0, .int .u16 0, .int .u16 0, .int .u16 0, .int .u16 0] 86)).heap.size := by simp
  have HR0 := hide ((unhide HR).below (unhide P0))
  have HL0 := hide ((unhide HL).below (unhide P0))
  generalize hw0 : w.alloc (.cells #[.int .u16 0, .int .u16 0, .int .u16 0, .int .u16 0, .int .u16 0, .int .u16 0, .int .u16 0, .int .u16 0, .int .u16 0, .int .u16 0, .int .u16 0, .int .u16 0, .int .u16 0, .int .u16 0, .int .u16 0, .int .u16 0, .int .u16 0, .int .u16 0, .int .u16 0] 86) = w0 at *
  clear hw0
  refine (tuplesByHop _ ms cap _ (unhide HOK).1 (unhide HR0)).mono ?_
  rintro e w2 ⟨bm, rfl, hbm, om2, b2⟩
  have HB2 := hide ((unhide P0).trans (b2.mono (unhide P0).size))
  have F2 := hide (there_below (unhide F0) b2 hs0)
  have HM2 := hide om2
  have HL2 := hide ((unhide HL0).below b2)
  have hs2 := Nat.lt_of_lt_of_le hs0 b2.size
  clear b2 om2
  go_wp2_with fail
  refine (strictOf bm ms.length ms _ ls capl me now _ (unhide HOK).2 (unhide HM2) (unhide HL2)).mono ?_
  rintro e w3 ⟨v3, rfl, b3, hl3⟩
  rw [unhide HS] at hl3
  obtain ⟨a3, c3, rfl, l3⟩ := hl3
  have HB3 := hide ((unhide HB2).trans (b3.mono (unhide HB2).size))
  have F3 := hide (there_below (unhide F2) b3 hs2)
  have HM3 := hide ((unhide HM2).below b3)
  have HL3 := hide ((unhide HL2).below b3)
  have HN3 := hide l3.rm
  have hs3 := Nat.lt_of_lt_of_le hs2 b3.size
  clear b3 l3
  go_wp2_with fail
  refine (groupOf a3 S c3 _ (by omega) (unhide HN3)).mono ?_
  rintro e w4 ⟨rfl, rfl⟩
  go_wp2_with (refine wpList_storeG _ _ rfl rfl (s := gL S) (V := fun _ => 0) (R := fun _ => 0) rfl rfl (ga_new w4 0 (fun _ => 0) (fun _ => 0) 86).2 ?_; intro w5 ga5 hbb5 hsz5; have HG5 := hide ga5; have HB5 := hide (hbb5 _ _ (Below.refl w4.heap.size w4 |>.alloc (Nat.le_refl _) (.cells #[.int .u16 0, .int .u16 0, .int .u16 0, .int .u16 0, .int .u16 0, .int .u16 0, .int .u16 0, .int .u16 0, .int .u16 0, .int .u16 0, .int .u16 0, .int .u16 0, .int .u16 0, .int .u16 0, .int .u16 0, .int .u16 0, .int .u16 0, .int .u16 0, .int .u16 0] 86)) (Nat.le_refl _)); clear ga5 hbb5 hsz5)
  generalize hn : S.length = n at *
  have HN := hide hn
  clear hn
  have G0 : Hid (GA w5 w4.heap.size (gL S) (vN (S.take 0) via) (rN (S.take 0) via)) := hide (by
    have e1 : vN (S.take 0) via = fun _ => 0 := by funext i; rfl
    have e2 : rN (S.take 0) via = fun _ => 0 := by funext i; exact gN_nil (fun _ _ _ => rfl)
    rw [e1, e2]; exact unhide HG5)
  clear HG5
  generalize hg : gL S = gs at *
  have HGS := hide hg
  clear hg
  obtain ⟨G, hG⟩ : ∃ G, w4.heap.size = G := ⟨_, rfl⟩
  rw [hG] at HB5 G0 hs3 ⊢
  have HGG := hide hG
  clear hG
  go_loopw [29] (fun i wo => ∃ j : Nat, j ≤ n ∧ i = .int .i64 j ∧ Hid (GA wo G gs (vN (S.take j) via) (rN (S.take j) via)) ∧ Hid (Below G w4 wo)) (fun i _ => n - (intOf i).toNat)
  case atStart => exact ⟨0, by omega, rfl, G0, HB5⟩
  case round =>
    rename World => wo
    obtain ⟨j, hj, rfl, hga, hbl⟩ := hrel
    have HBW : Hid (Below w4.heap.size w4 wo) := hide (by rw [unhide HGG]; exact unhide hbl)
    by_cases hlt : (j : Int) < (n : Int)
    · have k0 : (0 : Int) ≤ (j : Int) := by omega
      have hlen : j < S.length := by rw [unhide HN]; omega
      have HLr := hide ((unhide HL3).below (unhide HBW))
      have HMr := hide ((unhide HM3).below (unhide HBW))
      have hzr := unhide HSR _ (getD_mem hlen)
      have HVS := hide (fun (k : Nat) (hk : S.getD j 0 = (k : Int)) => vN_step (via := via) hlen hk)
      have HRE := hide (rK_end (via := via) hlen)
      rcases (unhide HN3).below (unhide HBW) with e0 | ⟨gl, ol, rfl, hc⟩
      · exfalso; rw [e0] at hlen; simp at hlen
      have c0 := hc j hlen
      clear hc
      generalize hz : S.getD j 0 = z at *
      obtain ⟨k, rfl⟩ : ∃ k : Nat, z = (k : Int) := ⟨z.toNat, by omega⟩
      have hk9 : k < 9 := by omega
      have HV1 := hide (unhide HVS k rfl)
      clear HVS hz
      have HWK : Hid ((Lit.int .i64 (k : Int)).wf = true) := hide (WalkArith.wf_i64 ⟨by omega, by omega⟩)
      go_wp2_with fail
      refine (viasOf bm ms.length _ _ ls capl (k : Int) now _ (unhide HWK) (unhide HOK).2 (unhide HMr) (unhide HLr)).mono ?_
      rintro e w5 ⟨v5, rfl, b5, hl5⟩
      rw [unhide HV] at hl5
      obtain ⟨a5, c5, rfl, l5⟩ := hl5
      have hvl := unhide HVL (k : Int)
      have HVA := hide (unhide HVR (k : Int))
      generalize hvs : via (k : Int) = vs at *
      have HVV := hide hvs
      clear hvs
      have HGb := hide ((unhide hga).below b5)
      have HB6 := hide ((unhide hbl).trans (b5.mono (Nat.le_of_lt (unhide hga).lt)))
      have hGo := (unhide hga).lt
      have HL5 := hide l5
      have HR5 := hide l5.rm
      clear b5 l5
      go_wp2_with fail
      refine (groupOf a5 vs c5 _ (by omega) (unhide HR5)).mono ?_
      rintro e w6 ⟨rfl, rfl⟩
      obtain ⟨cv, fv⟩ := (unhide HGb).v hk9
      have kk0 : (0 : Int) ≤ (k : Int) := by omega
      have kk9 : (k : Int) < 9 := by omega
      go_wp2_with fail
      have HG6 : Hid (GA (w6.setCell ⟨G, 1 + k, none⟩ (.int .u16 (gL vs))) G gs (vN (S.take (j + 1)) via) (rK (S.take j) via (k : Int) (vs.take 0))) := hide (by
        rw [List.take_zero, rK_start, ← unhide HV1]; exact (unhide HGb).setV hk9 (gL vs))
      have HL6 := hide (lst_set (k := 1 + k) (v := .int .u16 (gL vs)) (unhide HL5) hGo)
      have HB7 := hide ((unhide HB6).setCell (p := ⟨G, 1 + k, none⟩) (Nat.le_refl _) (.int .u16 (gL vs)))
      clear cv fv HGb HL5 HR5 HB6
      generalize hm : vs.length = m at *
      have HM := hide hm
      clear hm
      generalize hw7 : w6.setCell ⟨G, 1 + k, none⟩ (.int .u16 (gL vs)) = w7 at *
      clear hw7
      generalize hlo : wo.heap.size = lo at *
      generalize hhi : w6.heap.size = hi at *
      go_loopw [45] (fun i wr => ∃ t : Nat, t ≤ m ∧ i = .int .i64 t ∧ Hid (GA wr G gs (vN (S.take (j + 1)) via) (rK (S.take j) via (k : Int) (vs.take t))) ∧ Hid (Below G w4 wr) ∧ Hid (In.Lst wr a5 vs lo hi)) (fun i _ => m - (intOf i).toNat)
      case atStart => exact ⟨0, by omega, rfl, HG6, HB7, HL6⟩
      case round =>
        obtain ⟨t, ht, rfl, hga2, hbl2, hls2⟩ := hrel
        by_cases hlt2 : (t : Int) < (m : Int)
        · have k1 : (0 : Int) ≤ (t : Int) := by omega
          have hlen2 : t < vs.length := by rw [unhide HM]; omega
          have hyr := unhide HVA _ (getD_mem hlen2)
          have HRS := hide (fun (q : Nat) (hq : vs.getD t 0 = (q : Int)) => rK_step (S := S.take j) (via := via) (z := (k : Int)) hlen2 hq)
          rcases (unhide hls2).rm with e0 | ⟨gl2, ol2, rfl, hc⟩
          · exfalso; rw [e0] at hlen2; simp at hlen2
          have c2 := hc t hlen2
          clear hc
          generalize hy : vs.getD t 0 = y at *
          obtain ⟨q, rfl⟩ : ∃ q : Nat, y = (q : Int) := ⟨y.toNat, by omega⟩
          have hq9 : q < 9 := by omega
          have q0 : (0 : Int) ≤ (q : Int) := by omega
          have q9 : (q : Int) < 9 := by omega
          have HR1 := hide (unhide HRS q rfl)
          clear HRS hy
          obtain ⟨cr, fr⟩ := (unhide hga2).r hq9
          have HOR : Hid (bits .or .u16 (rK (S.take j) via (k : Int) (vs.take t) q : Int) (gL [(k : Int)] : Int) = (gN (fun y => (rB (S.take j) via q y || (y == (k : Int) && (vs.take t).contains (q : Int))) || y == (k : Int)) : Int)) := hide (by rw [gL_one]; exact or_int _ _)
          generalize hX : gN (fun y => (rB (S.take j) via q y || (y == (k : Int) && (vs.take t).contains (q : Int))) || y == (k : Int)) = X at *
          clear hX
          go_wp2_with fail
          have HRN : Hid (In.RM (wr.alloc (.cells #[.int .i64 (k : Int)] 3)).drew (some ⟨wr.heap.size, 0, none⟩) [(k : Int)]) := hide ((In.rm_new wr (k : Int)).below ((Below.refl _ _).drew))
          obtain ⟨cr2, fr2⟩ := ((unhide hga2).below ((Below.refl _ _).alloc (Nat.le_refl _) (.cells #[.int .i64 (k : Int)] 3))).r hq9
          go_region_with (go_at_call 47; refine (groupOf _ [(k : Int)] _ _ (by simp) (unhide HRN)).mono ?_; rintro e w' ⟨rfl, rfl⟩)
          all_goals (
            have HGn : Hid (GA ((wr.alloc (.cells #[.int .i64 (k : Int)] 3)).setCell ⟨G, 10 + q, none⟩ (.int .u16 (bits .or .u16 (rK (S.take j) via (k : Int) (vs.take t) q : Int) (gL [(k : Int)] : Int)))).drew G gs (vN (S.take (j + 1)) via) (rK (S.take j) via (k : Int) (vs.take (t + 1)))) := hide (by
              rw [unhide HOR, ← unhide HR1]
              exact (((unhide hga2).below ((Below.refl _ _).alloc (Nat.le_refl _) (.cells #[.int .i64 (k : Int)] 3))).setR hq9 X).below ((Below.refl _ _).drew))
            have HBn : Hid (Below G w4 ((wr.alloc (.cells #[.int .i64 (k : Int)] 3)).setCell ⟨G, 10 + q, none⟩ (.int .u16 (bits .or .u16 (rK (S.take j) via (k : Int) (vs.take t) q : Int) (gL [(k : Int)] : Int)))).drew) := hide ((((unhide hbl2).alloc (Nat.le_of_lt (unhide hga2).lt) _).setCell (p := ⟨G, 10 + q, none⟩) (Nat.le_refl _) _).drew)
            have HLn : Hid (In.Lst ((wr.alloc (.cells #[.int .i64 (k : Int)] 3)).setCell ⟨G, 10 + q, none⟩ (.int .u16 (bits .or .u16 (rK (S.take j) via (k : Int) (vs.take t) q : Int) (gL [(k : Int)] : Int)))).drew (some ⟨gl2, ol2, none⟩) vs lo hi) := hide ((lst_set ((unhide hls2).below ((Below.refl _ _).alloc (Nat.le_refl _) (.cells #[.int .i64 (k : Int)] 3))) hGo).below ((Below.refl _ _).drew))
            clear HR1 HOR HRN cr fr cr2 fr2 c2
            go_wp2_with fail
            go_roundw
            case rel => exact ⟨t + 1, by omega, by go_num, HGn, HBn, HLn⟩
            case measure => simp [intOf]; omega)
        · obtain rfl : t = m := by omega
          have HGe : Hid (GA wr G gs (vN (S.take (j + 1)) via) (rN (S.take (j + 1)) via)) := hide (by
            have := unhide hga2
            rw [← unhide HM, List.take_length, unhide HRE] at this; exact this)
          go_wp2_with fail
          go_roundw
          case rel => exact ⟨j + 1, by omega, by go_num, HGe, hbl2⟩
          case measure => simp [intOf]; omega
    · obtain rfl : j = n := by omega
      have HGe : Hid (GA wo G gs (vN S via) (rN S via)) := hide (by
        have := unhide hga
        rw [← unhide HN, List.take_length] at this; exact this)
      go_wp2_with (first | (refine wpList_loadG _ rfl rfl rfl (unhide HGe) ?_) | (refine wpList_storeG _ _ rfl rfl rfl rfl (there_of (unhide F3) (unhide hbl) hs3) ?_; intro w9 ga9 hbb9 hsz9; have HG9 := hide ga9; have HB9 := hide (hbb9 _ _ ((unhide HB3).trans ((unhide hbl).mono (Nat.le_of_lt hs3))) (Nat.le_refl _)); clear ga9 hbb9 hsz9))
      refine bodyPost_ret (resultsG rfl _ _ rfl (unhide HG9)) rfl ⟨by rw [unhide HGS], unhide HB9⟩
end Gp
end Go.Proofs.Ytmelbilepfnmjap
