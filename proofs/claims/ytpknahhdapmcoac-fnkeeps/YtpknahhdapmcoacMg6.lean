/-
  What the way from an address costs; the model's contract. The model's contracts: all neighbors; Keeps.
-/
import Derived.Test.YtpknahhdapmcoacMg2
namespace Go.Proofs.Ytpknahhdapmcoac
open Go.ChangeShapes Go.WideShapes Go.ChangeAt Go.RowKit
set_option linter.unusedVariables false
set_option linter.unusedSimpArgs false
attribute [local go_sem ↓] Go.wp_at_zero Go.wp_at_succ
namespace Mr
open W1 Tu St Tw
/-- The direct way; the way by a neighbor; one link more. -/
def stepD (x : Lk.R) (addr best : Int) : Int := if ((x.ad == addr) && (decide (best < 0) || decide (x.ci < best))) = true then x.ci else best
def stepT (x : Lk.R) (now : Int) (so : List Int) (tb : Bool) (T : R) (b1 : Int) : Int := if ((((tb && decide (now < T.til)) && decide (0 < x.wl)) && so.contains x.ad) && (decide (b1 < 0) || decide (x.ci + T.val < b1))) = true then x.ci + T.val else b1
def costS (f : Int → Int → Option R) (addr now : Int) (so : List Int) (best : Int) (x : Lk.R) : Int := if (Ln.statusV x now == 2) = true then stepT x now so (f x.ad addr).isSome ((f x.ad addr).getD R.zero) (stepD x addr best) else best
def costV (f : Int → Int → Option R) (ls : List Lk.R) (addr now : Int) (so : List Int) (j : Nat) : Int := (ls.take j).foldl (costS f addr now so) (-1)
theorem cost_step {f : Int → Int → Option R} {ls : List Lk.R} {addr now : Int} {so : List Int} {j : Nat} (h : j < ls.length) : costV f ls addr now so (j + 1) = costS f addr now so (costV f ls addr now so j) (ls.getD j Lk.R.zero) := by
  unfold costV; rw [ls_take h, List.foldl_append]; rfl
theorem find_val {ms : List R} (h : setB ms = true) (v a : Int) : 0 ≤ ((findT ms v a).getD R.zero).val ∧ ((findT ms v a).getD R.zero).val ≤ 1073741824 := by
  cases hf : findT ms v a with
  | none => exact ⟨by decide, by decide⟩
  | some t =>
    have := ok_bounds (ok_of h t (List.mem_of_find?_eq_some hf))
    exact ⟨this.2.2.2.2.1, this.2.2.2.2.2⟩
theorem stepD_bnd {x : Lk.R} {addr best : Int} (hx : 1 ≤ x.ci ∧ x.ci ≤ 256) (h : -1 ≤ best ∧ best ≤ 1073742080) : -1 ≤ stepD x addr best ∧ stepD x addr best ≤ 1073742080 := by
  unfold stepD; split <;> omega
theorem stepT_bnd {x : Lk.R} {now : Int} {so : List Int} {tb : Bool} {T : R} {b1 : Int} (hx : 1 ≤ x.ci ∧ x.ci ≤ 256) (hT : 0 ≤ T.val ∧ T.val ≤ 1073741824) (h : -1 ≤ b1 ∧ b1 ≤ 1073742080) : -1 ≤ stepT x now so tb T b1 ∧ stepT x now so tb T b1 ≤ 1073742080 := by
  unfold stepT; split <;> omega
theorem find_tb {ms : List R} (h : setB ms = true) {v a : Int} (h1 : 0 ≤ v) (h2 : 0 ≤ a) (h3 : a < 100) : (findT ms v a).isSome = thereB ms (100 * v + a) ∧ (findT ms v a).getD R.zero = if thereB ms (100 * v + a) = true then ms.getD (place ms (100 * v + a)) R.zero else R.zero := by
  rw [find_there h h1 h2 h3]
  cases thereB ms (100 * v + a) <;> exact ⟨rfl, rfl⟩
set_option maxRecDepth 100000 in
set_option maxHeartbeats 16000000 in
theorem l08Cost (g0 o0 : Nat) (ms : List R) (cap : Nat) (a : Option Addr) (ls : List Lk.R) (capl : Nat) (addr now : Int) (b2 : Option Addr) (so : List Int) (caps : Nat) (w : World) (ha1 : 0 ≤ addr) (ha2 : addr < 100) (hsl : so.length ≤ 64) (hok : twoB ms = true ∧ Ln.linksB ls = true) (hr0 : RM w (some ⟨g0, o0, none⟩) ms) (hr : Lk.RM w a ls) (hrs : In.RM w b2 so) :
    Calls Try.prog 76 #[.slice (some ⟨g0, o0, none⟩) ms.length cap, .slice a ls.length capl, .int .i64 addr, .int .i64 now, .slice b2 so.length caps] w fun e w' => e = .returned (.int .i64 (costV (findT ms) ls addr now so ls.length)) ∧ Below w.heap.size w w' := by
  have HR := hide hr
  have HM := hide hr0
  have HSO := hide hrs
  have HS := hide (two_set hok.1)
  have HOK := hide hok.2
  have h8 := Ln.links_len hok.2
  have hl64 := setB_len (two_set hok.1)
  clear hr hr0 hok hrs
  obtain ⟨f, hf⟩ : ∃ f, findT ms = f := ⟨_, rfl⟩
  have HF := hide hf
  rw [hf]
  clear hf
  have P0 := hide (Below.refl w.heap.size w)
  go_enter Try.func76, Try.ntmps76
  go_wp2_with fail
  go_loopw [11, 12] (fun q i wr => ∃ j : Nat, j ≤ ls.length ∧ i = .int .i64 j ∧ (∃ bst : Int, q = .int .i64 bst ∧ Hid (costV f ls addr now so j = bst) ∧ -1 ≤ bst ∧ bst ≤ 1073742080) ∧ Hid (Below w.heap.size w wr)) (fun _ i _ => ls.length - (intOf i).toNat)
  case atStart => exact ⟨0, by omega, rfl, ⟨-1, rfl, hide rfl, by omega, by omega⟩, P0⟩
  case round =>
    obtain ⟨j, hj, rfl, ⟨bst, rfl, hbst, hbl1, hbl2⟩, hbl⟩ := hrel
    have hbs := (unhide hbl).size
    by_cases hlt : (j : Int) < (ls.length : Int)
    · have k0 : (0 : Int) ≤ (j : Int) := by omega
      have hlen : j < ls.length := by omega
      obtain ⟨gl, ol, rfl⟩ := (unhide HR).form (by omega)
      obtain ⟨c0, c1, c2, c3, c4, c5⟩ := ((unhide HR).below (unhide hbl)).at hlen
      have hmok := Ri.all_ok (unhide HOK) hlen
      have had := Ln.ok_ad hmok
      have hci := Ln.ok_ci hmok
      have hwl := Ln.ok_wl hmok
      have hft := find_tb (unhide HS) (v := (ls.getD j Lk.R.zero).ad) (a := addr) (by omega) ha1 ha2
      have hfv := find_val (unhide HS) (ls.getD j Lk.R.zero).ad addr
      rw [unhide HF] at hft hfv
      have HST := hide (cost_step (f := f) (addr := addr) (now := now) (so := so) hlen)
      rw [unhide hbst] at HST
      generalize ls.getD j Lk.R.zero = m at *
      have HST2 : Hid (costV f ls addr now so (j + 1) = if (Ln.statusV m now == 2) = true then stepT m now so (thereB ms (100 * m.ad + addr)) (if thereB ms (100 * m.ad + addr) = true then ms.getD (place ms (100 * m.ad + addr)) R.zero else R.zero) (stepD m addr bst) else bst) := hide (by rw [unhide HST]; unfold costS; rw [hft.1, hft.2])
      rw [hft.2] at hfv
      have HFV := hide hfv
      clear HST hft hfv hmok
      have HBA := hide ((unhide hbl).alloc hbs (.cells #[.int .i64 m.ad, .int .i64 m.hd, .int .i64 m.sy, .int .i64 m.ci, .int .i64 m.co, .int .i64 m.wl] 30))
      have HX := hide (Ln.bx_new wr m 30)
      obtain ⟨d0, d1, d2, d3, d4, d5⟩ := unhide HX
      go_wp2_with fail
      generalize hW : wr.alloc (.cells #[.int .i64 m.ad, .int .i64 m.hd, .int .i64 m.sy, .int .i64 m.ci, .int .i64 m.co, .int .i64 m.wl] 30) = W0 at *
      clear hW
      refine (Ln.l06Status _ _ _ _ _ _ now _).mono ?_
      rintro e w3 ⟨rfl, b3⟩
      have HB3 := hide ((unhide HBA).trans (b3.mono (unhide HBA).size))
      have HX3 := hide ((unhide HX).below b3)
      clear d0 d1 d2 d3 d4 d5 c0 c1 c2 c3 c4 c5 b3
      have hs3 := (unhide HB3).size
      have e2 : Ln.statusV ⟨m.ad, m.hd, m.sy, m.ci, m.co, m.wl⟩ now = Ln.statusV m now := rfl
      rw [e2]
      clear e2
      obtain ⟨d0, d1, d2, d3, d4, d5⟩ := unhide HX3
      cases hsy : (Ln.statusV m now == 2)
      · have HC : Hid (costV f ls addr now so (j + 1) = bst) := hide (by rw [unhide HST2, hsy]; rfl)
        clear HST2 HFV
        generalize Ln.statusV m now = sv at *
        go_wp2_with fail
        go_roundw
        case rel => exact ⟨j + 1, by omega, by go_num, ⟨bst, rfl, HC, hbl1, hbl2⟩, HB3⟩
        case measure => simp [intOf]; omega
      rw [hsy, if_pos rfl] at HST2
      generalize Ln.statusV m now = sv at *
      have HMM := hide ((unhide HM).below (unhide HB3))
      have HSS := hide ((unhide HSO).below (unhide HB3))
      obtain ⟨bb, hbb⟩ : ∃ bb, stepD m addr bst = bb := ⟨_, rfl⟩
      have hb3 := stepD_bnd (addr := addr) hci ⟨hbl1, hbl2⟩
      rw [hbb] at hb3 HST2
      have HBB := hide hbb
      clear hbb
      unfold stepD at HBB
      by_cases hp : m.ad = addr
      rotate_left
      · obtain rfl : bst = bb := by have := unhide HBB; rw [if_neg (by rw [show (m.ad == addr) = false by simpa using hp]; simp)] at this; exact this
        have hpb : (m.ad == addr) = false := by simpa using hp
        clear HBB
        go_wp2_with fail
        refine (l07KeyW m.ad addr _ (by omega) (by omega) (by omega) (by omega)).mono ?_
        rintro e w4 ⟨rfl, hw4⟩
        rw [hw4]
        clear hw4
        go_wp2_with fail
        refine (l03Find g0 o0 ms cap (100 * m.ad + addr) _ (by omega) (unhide HMM)).mono ?_
        rintro e w5 ⟨rfl, b5⟩
        have HB5 := hide ((unhide HB3).trans (b5.mono (unhide HB3).size))
        have HX5 := hide ((unhide HX3).below b5)
        have HS5 := hide ((unhide HSS).below b5)
        clear b5 d0 d1 d2 d3 d4 d5
        generalize thereB ms (100 * m.ad + addr) = tb at *
        generalize (if tb = true then ms.getD (place ms (100 * m.ad + addr)) R.zero else R.zero) = T at *
        obtain ⟨ke, ti, va⟩ := T
        unfold R.value
        unfold stepT at HST2
        dsimp only at HST2 HFV ⊢
        have hT := unhide HFV
        have hsw := (unhide HB5).size
        have HBT := hide ((unhide HB5).alloc hsw (.cells #[.int .i64 ke, .int .i64 ti, .int .i64 va] 28))
        have HXT := hide ((unhide HX5).below ((Below.refl _ _).alloc (Nat.le_refl _) (.cells #[.int .i64 ke, .int .i64 ti, .int .i64 va] 28)))
        have HST5 := hide ((unhide HS5).below ((Below.refl _ _).alloc (Nat.le_refl _) (.cells #[.int .i64 ke, .int .i64 ti, .int .i64 va] 28)))
        obtain ⟨d0, d1, d2, d3, d4, d5⟩ := unhide HXT
        (try dsimp only at d0 d1 d2 d3 d4 d5)
        cases tb
        · have HC : Hid (costV f ls addr now so (j + 1) = bst) := hide (by rw [unhide HST2, if_neg (by rw [Bool.false_and, Bool.false_and]; simp)])
          clear HST2 HFV
          go_wp2_with fail
          go_roundw
          case rel => exact ⟨j + 1, by omega, by go_num, ⟨bst, rfl, HC, hb3.1, hb3.2⟩, HBT⟩
          case measure => simp [intOf]; omega
        by_cases hti : now < ti
        rotate_left
        · have HC : Hid (costV f ls addr now so (j + 1) = bst) := hide (by rw [unhide HST2, if_neg (by rw [decide_eq_false hti]; simp)])
          clear HST2 HFV
          go_wp2_with fail
          go_roundw
          case rel => exact ⟨j + 1, by omega, by go_num, ⟨bst, rfl, HC, hb3.1, hb3.2⟩, HBT⟩
          case measure => simp [intOf]; omega
        by_cases hw0 : 0 < m.wl
        rotate_left
        · have HC : Hid (costV f ls addr now so (j + 1) = bst) := hide (by rw [unhide HST2, if_neg (by rw [decide_eq_false hw0]; simp)])
          clear HST2 HFV
          go_wp2_with fail
          go_roundw
          case rel => exact ⟨j + 1, by omega, by go_num, ⟨bst, rfl, HC, hb3.1, hb3.2⟩, HBT⟩
          case measure => simp [intOf]; omega
        go_wp2_with fail
        refine (l07Has b2 so caps m.ad _ (by omega) (unhide HST5)).mono ?_
        rintro e w6 ⟨rfl, hw6⟩
        rw [hw6]
        clear hw6
        obtain ⟨q, hq⟩ : ∃ q, so.contains m.ad = q := ⟨_, rfl⟩
        rw [hq] at HST2 ⊢
        clear hq
        cases q
        · have HC : Hid (costV f ls addr now so (j + 1) = bst) := hide (by rw [unhide HST2, if_neg (by rw [Bool.and_false]; simp)])
          clear HST2 HFV
          go_wp2_with fail
          go_roundw
          case rel => exact ⟨j + 1, by omega, by go_num, ⟨bst, rfl, HC, hb3.1, hb3.2⟩, HBT⟩
          case measure => simp [intOf]; omega
        by_cases hb0 : bst < 0
        · have HC : Hid (costV f ls addr now so (j + 1) = m.ci + va) := hide (by rw [unhide HST2, if_pos (by rw [decide_eq_true hti, decide_eq_true hw0, decide_eq_true hb0]; simp)])
          clear HST2 HFV
          go_wp2_with fail
          go_roundw
          case rel => exact ⟨j + 1, by omega, by go_num, ⟨m.ci + va, rfl, HC, by omega, by omega⟩, HBT⟩
          case measure => simp [intOf]; omega
        by_cases hlv : m.ci + va < bst
        · have HC : Hid (costV f ls addr now so (j + 1) = m.ci + va) := hide (by rw [unhide HST2, if_pos (by rw [decide_eq_true hti, decide_eq_true hw0, decide_eq_true hlv]; simp)])
          clear HST2 HFV
          go_wp2_with fail
          go_roundw
          case rel => exact ⟨j + 1, by omega, by go_num, ⟨m.ci + va, rfl, HC, by omega, by omega⟩, HBT⟩
          case measure => simp [intOf]; omega
        · have HC : Hid (costV f ls addr now so (j + 1) = bst) := hide (by rw [unhide HST2, if_neg (by rw [decide_eq_false hlv, decide_eq_false hb0]; simp)])
          clear HST2 HFV
          go_wp2_with fail
          go_roundw
          case rel => exact ⟨j + 1, by omega, by go_num, ⟨bst, rfl, HC, hb3.1, hb3.2⟩, HBT⟩
          case measure => simp [intOf]; omega
      obtain ⟨ad, hd, sy, ci, co, wl⟩ := m
      dsimp only at hp had hci hwl HST2 HFV hb3 HBB d0 d1 d2 d3 d4 d5 ⊢
      have hp2 := hp.symm
      clear hp
      subst hp2
      by_cases hn : bst < 0
      · obtain rfl : ci = bb := by have := unhide HBB; rw [if_pos (by simp [hn])] at this; exact this
        clear HBB
        go_wp2_with fail
        refine (l07KeyW addr addr _ (by omega) (by omega) (by omega) (by omega)).mono ?_
        rintro e w4 ⟨rfl, hw4⟩
        rw [hw4]
        clear hw4
        go_wp2_with fail
        refine (l03Find g0 o0 ms cap (100 * addr + addr) _ (by omega) (unhide HMM)).mono ?_
        rintro e w5 ⟨rfl, b5⟩
        have HB5 := hide ((unhide HB3).trans (b5.mono (unhide HB3).size))
        have HX5 := hide ((unhide HX3).below b5)
        have HS5 := hide ((unhide HSS).below b5)
        clear b5 d0 d1 d2 d3 d4 d5
        generalize thereB ms (100 * addr + addr) = tb at *
        generalize (if tb = true then ms.getD (place ms (100 * addr + addr)) R.zero else R.zero) = T at *
        obtain ⟨ke, ti, va⟩ := T
        unfold R.value
        unfold stepT at HST2
        dsimp only at HST2 HFV ⊢
        have hT := unhide HFV
        have hsw := (unhide HB5).size
        have HBT := hide ((unhide HB5).alloc hsw (.cells #[.int .i64 ke, .int .i64 ti, .int .i64 va] 28))
        have HXT := hide ((unhide HX5).below ((Below.refl _ _).alloc (Nat.le_refl _) (.cells #[.int .i64 ke, .int .i64 ti, .int .i64 va] 28)))
        have HST5 := hide ((unhide HS5).below ((Below.refl _ _).alloc (Nat.le_refl _) (.cells #[.int .i64 ke, .int .i64 ti, .int .i64 va] 28)))
        obtain ⟨d0, d1, d2, d3, d4, d5⟩ := unhide HXT
        (try dsimp only at d0 d1 d2 d3 d4 d5)
        cases tb
        · have HC : Hid (costV f ls addr now so (j + 1) = ci) := hide (by rw [unhide HST2, if_neg (by rw [Bool.false_and, Bool.false_and]; simp)])
          clear HST2 HFV
          go_wp2_with fail
          go_roundw
          case rel => exact ⟨j + 1, by omega, by go_num, ⟨ci, rfl, HC, hb3.1, hb3.2⟩, HBT⟩
          case measure => simp [intOf]; omega
        by_cases hti : now < ti
        rotate_left
        · have HC : Hid (costV f ls addr now so (j + 1) = ci) := hide (by rw [unhide HST2, if_neg (by rw [decide_eq_false hti]; simp)])
          clear HST2 HFV
          go_wp2_with fail
          go_roundw
          case rel => exact ⟨j + 1, by omega, by go_num, ⟨ci, rfl, HC, hb3.1, hb3.2⟩, HBT⟩
          case measure => simp [intOf]; omega
        by_cases hw0 : 0 < wl
        rotate_left
        · have HC : Hid (costV f ls addr now so (j + 1) = ci) := hide (by rw [unhide HST2, if_neg (by rw [decide_eq_false hw0]; simp)])
          clear HST2 HFV
          go_wp2_with fail
          go_roundw
          case rel => exact ⟨j + 1, by omega, by go_num, ⟨ci, rfl, HC, hb3.1, hb3.2⟩, HBT⟩
          case measure => simp [intOf]; omega
        go_wp2_with fail
        refine (l07Has b2 so caps addr _ (by omega) (unhide HST5)).mono ?_
        rintro e w6 ⟨rfl, hw6⟩
        rw [hw6]
        clear hw6
        obtain ⟨q, hq⟩ : ∃ q, so.contains addr = q := ⟨_, rfl⟩
        rw [hq] at HST2 ⊢
        clear hq
        cases q
        · have HC : Hid (costV f ls addr now so (j + 1) = ci) := hide (by rw [unhide HST2, if_neg (by rw [Bool.and_false]; simp)])
          clear HST2 HFV
          go_wp2_with fail
          go_roundw
          case rel => exact ⟨j + 1, by omega, by go_num, ⟨ci, rfl, HC, hb3.1, hb3.2⟩, HBT⟩
          case measure => simp [intOf]; omega
        have hb0 : ¬ ci < 0 := by omega
        have hlv : ¬ ci + va < ci := by omega
        · have HC : Hid (costV f ls addr now so (j + 1) = ci) := hide (by rw [unhide HST2, if_neg (by rw [decide_eq_false hlv, decide_eq_false hb0]; simp)])
          clear HST2 HFV
          go_wp2_with fail
          go_roundw
          case rel => exact ⟨j + 1, by omega, by go_num, ⟨ci, rfl, HC, hb3.1, hb3.2⟩, HBT⟩
          case measure => simp [intOf]; omega
      by_cases hx : ci < bst
      · obtain rfl : ci = bb := by have := unhide HBB; rw [if_pos (by simp [hx])] at this; exact this
        clear HBB
        go_wp2_with fail
        refine (l07KeyW addr addr _ (by omega) (by omega) (by omega) (by omega)).mono ?_
        rintro e w4 ⟨rfl, hw4⟩
        rw [hw4]
        clear hw4
        go_wp2_with fail
        refine (l03Find g0 o0 ms cap (100 * addr + addr) _ (by omega) (unhide HMM)).mono ?_
        rintro e w5 ⟨rfl, b5⟩
        have HB5 := hide ((unhide HB3).trans (b5.mono (unhide HB3).size))
        have HX5 := hide ((unhide HX3).below b5)
        have HS5 := hide ((unhide HSS).below b5)
        clear b5 d0 d1 d2 d3 d4 d5
        generalize thereB ms (100 * addr + addr) = tb at *
        generalize (if tb = true then ms.getD (place ms (100 * addr + addr)) R.zero else R.zero) = T at *
        obtain ⟨ke, ti, va⟩ := T
        unfold R.value
        unfold stepT at HST2
        dsimp only at HST2 HFV ⊢
        have hT := unhide HFV
        have hsw := (unhide HB5).size
        have HBT := hide ((unhide HB5).alloc hsw (.cells #[.int .i64 ke, .int .i64 ti, .int .i64 va] 28))
        have HXT := hide ((unhide HX5).below ((Below.refl _ _).alloc (Nat.le_refl _) (.cells #[.int .i64 ke, .int .i64 ti, .int .i64 va] 28)))
        have HST5 := hide ((unhide HS5).below ((Below.refl _ _).alloc (Nat.le_refl _) (.cells #[.int .i64 ke, .int .i64 ti, .int .i64 va] 28)))
        obtain ⟨d0, d1, d2, d3, d4, d5⟩ := unhide HXT
        (try dsimp only at d0 d1 d2 d3 d4 d5)
        cases tb
        · have HC : Hid (costV f ls addr now so (j + 1) = ci) := hide (by rw [unhide HST2, if_neg (by rw [Bool.false_and, Bool.false_and]; simp)])
          clear HST2 HFV
          go_wp2_with fail
          go_roundw
          case rel => exact ⟨j + 1, by omega, by go_num, ⟨ci, rfl, HC, hb3.1, hb3.2⟩, HBT⟩
          case measure => simp [intOf]; omega
        by_cases hti : now < ti
        rotate_left
        · have HC : Hid (costV f ls addr now so (j + 1) = ci) := hide (by rw [unhide HST2, if_neg (by rw [decide_eq_false hti]; simp)])
          clear HST2 HFV
          go_wp2_with fail
          go_roundw
          case rel => exact ⟨j + 1, by omega, by go_num, ⟨ci, rfl, HC, hb3.1, hb3.2⟩, HBT⟩
          case measure => simp [intOf]; omega
        by_cases hw0 : 0 < wl
        rotate_left
        · have HC : Hid (costV f ls addr now so (j + 1) = ci) := hide (by rw [unhide HST2, if_neg (by rw [decide_eq_false hw0]; simp)])
          clear HST2 HFV
          go_wp2_with fail
          go_roundw
          case rel => exact ⟨j + 1, by omega, by go_num, ⟨ci, rfl, HC, hb3.1, hb3.2⟩, HBT⟩
          case measure => simp [intOf]; omega
        go_wp2_with fail
        refine (l07Has b2 so caps addr _ (by omega) (unhide HST5)).mono ?_
        rintro e w6 ⟨rfl, hw6⟩
        rw [hw6]
        clear hw6
        obtain ⟨q, hq⟩ : ∃ q, so.contains addr = q := ⟨_, rfl⟩
        rw [hq] at HST2 ⊢
        clear hq
        cases q
        · have HC : Hid (costV f ls addr now so (j + 1) = ci) := hide (by rw [unhide HST2, if_neg (by rw [Bool.and_false]; simp)])
          clear HST2 HFV
          go_wp2_with fail
          go_roundw
          case rel => exact ⟨j + 1, by omega, by go_num, ⟨ci, rfl, HC, hb3.1, hb3.2⟩, HBT⟩
          case measure => simp [intOf]; omega
        have hb0 : ¬ ci < 0 := by omega
        have hlv : ¬ ci + va < ci := by omega
        · have HC : Hid (costV f ls addr now so (j + 1) = ci) := hide (by rw [unhide HST2, if_neg (by rw [decide_eq_false hlv, decide_eq_false hb0]; simp)])
          clear HST2 HFV
          go_wp2_with fail
          go_roundw
          case rel => exact ⟨j + 1, by omega, by go_num, ⟨ci, rfl, HC, hb3.1, hb3.2⟩, HBT⟩
          case measure => simp [intOf]; omega
      · obtain rfl : bst = bb := by have := unhide HBB; rw [if_neg (by simp [hx, hn])] at this; exact this
        clear HBB
        go_wp2_with fail
        refine (l07KeyW addr addr _ (by omega) (by omega) (by omega) (by omega)).mono ?_
        rintro e w4 ⟨rfl, hw4⟩
        rw [hw4]
        clear hw4
        go_wp2_with fail
        refine (l03Find g0 o0 ms cap (100 * addr + addr) _ (by omega) (unhide HMM)).mono ?_
        rintro e w5 ⟨rfl, b5⟩
        have HB5 := hide ((unhide HB3).trans (b5.mono (unhide HB3).size))
        have HX5 := hide ((unhide HX3).below b5)
        have HS5 := hide ((unhide HSS).below b5)
        clear b5 d0 d1 d2 d3 d4 d5
        generalize thereB ms (100 * addr + addr) = tb at *
        generalize (if tb = true then ms.getD (place ms (100 * addr + addr)) R.zero else R.zero) = T at *
        obtain ⟨ke, ti, va⟩ := T
        unfold R.value
        unfold stepT at HST2
        dsimp only at HST2 HFV ⊢
        have hT := unhide HFV
        have hsw := (unhide HB5).size
        have HBT := hide ((unhide HB5).alloc hsw (.cells #[.int .i64 ke, .int .i64 ti, .int .i64 va] 28))
        have HXT := hide ((unhide HX5).below ((Below.refl _ _).alloc (Nat.le_refl _) (.cells #[.int .i64 ke, .int .i64 ti, .int .i64 va] 28)))
        have HST5 := hide ((unhide HS5).below ((Below.refl _ _).alloc (Nat.le_refl _) (.cells #[.int .i64 ke, .int .i64 ti, .int .i64 va] 28)))
        obtain ⟨d0, d1, d2, d3, d4, d5⟩ := unhide HXT
        (try dsimp only at d0 d1 d2 d3 d4 d5)
        cases tb
        · have HC : Hid (costV f ls addr now so (j + 1) = bst) := hide (by rw [unhide HST2, if_neg (by rw [Bool.false_and, Bool.false_and]; simp)])
          clear HST2 HFV
          go_wp2_with fail
          go_roundw
          case rel => exact ⟨j + 1, by omega, by go_num, ⟨bst, rfl, HC, hb3.1, hb3.2⟩, HBT⟩
          case measure => simp [intOf]; omega
        by_cases hti : now < ti
        rotate_left
        · have HC : Hid (costV f ls addr now so (j + 1) = bst) := hide (by rw [unhide HST2, if_neg (by rw [decide_eq_false hti]; simp)])
          clear HST2 HFV
          go_wp2_with fail
          go_roundw
          case rel => exact ⟨j + 1, by omega, by go_num, ⟨bst, rfl, HC, hb3.1, hb3.2⟩, HBT⟩
          case measure => simp [intOf]; omega
        by_cases hw0 : 0 < wl
        rotate_left
        · have HC : Hid (costV f ls addr now so (j + 1) = bst) := hide (by rw [unhide HST2, if_neg (by rw [decide_eq_false hw0]; simp)])
          clear HST2 HFV
          go_wp2_with fail
          go_roundw
          case rel => exact ⟨j + 1, by omega, by go_num, ⟨bst, rfl, HC, hb3.1, hb3.2⟩, HBT⟩
          case measure => simp [intOf]; omega
        go_wp2_with fail
        refine (l07Has b2 so caps addr _ (by omega) (unhide HST5)).mono ?_
        rintro e w6 ⟨rfl, hw6⟩
        rw [hw6]
        clear hw6
        obtain ⟨q, hq⟩ : ∃ q, so.contains addr = q := ⟨_, rfl⟩
        rw [hq] at HST2 ⊢
        clear hq
        cases q
        · have HC : Hid (costV f ls addr now so (j + 1) = bst) := hide (by rw [unhide HST2, if_neg (by rw [Bool.and_false]; simp)])
          clear HST2 HFV
          go_wp2_with fail
          go_roundw
          case rel => exact ⟨j + 1, by omega, by go_num, ⟨bst, rfl, HC, hb3.1, hb3.2⟩, HBT⟩
          case measure => simp [intOf]; omega
        have hb0 : ¬ bst < 0 := by omega
        have hlv : ¬ ci + va < bst := by omega
        · have HC : Hid (costV f ls addr now so (j + 1) = bst) := hide (by rw [unhide HST2, if_neg (by rw [decide_eq_false hlv, decide_eq_false hb0]; simp)])
          clear HST2 HFV
          go_wp2_with fail
          go_roundw
          case rel => exact ⟨j + 1, by omega, by go_num, ⟨bst, rfl, HC, hb3.1, hb3.2⟩, HBT⟩
          case measure => simp [intOf]; omega
    · obtain rfl : j = ls.length := by omega
      go_wp2_with fail
      go_ret
      exact ⟨by rw [unhide hbst]; rfl, unhide hbl⟩
end Mr
end Go.Proofs.Ytpknahhdapmcoac
namespace Go.Proofs.Ytpknahhdapmcoac
open Go.ChangeShapes Go.WideShapes Go.ChangeAt Go.RowKit
set_option linter.unusedVariables false
set_option linter.unusedSimpArgs false
attribute [local go_sem ↓] Go.wp_at_zero Go.wp_at_succ
namespace Mr
open W1 Tu St Tw
def allL (ls : List Lk.R) (j : Nat) : List Int := (ls.take j).map (·.ad)
theorem allL_step {ls : List Lk.R} {j : Nat} (h : j < ls.length) : allL ls (j + 1) = allL ls j ++ [(ls.getD j Lk.R.zero).ad] := by
  unfold allL; rw [ls_take h, List.map_append]; rfl
theorem allL_len (ls : List Lk.R) (j : Nat) : (allL ls j).length ≤ j := by
  unfold allL; rw [List.length_map]; exact List.length_take_le j ls
/-- No way costs more. -/
def keepB (f : Int → Int → Option R) (ls : List Lk.R) (me now : Int) (rs : List Int) (x : Int) : Bool := !(x != me) || !(costV f ls x now rs ls.length != costV f ls x now (allL ls ls.length) ls.length)
def keepN (f : Int → Int → Option R) (ls : List Lk.R) (me now : Int) (rs : List Int) (n : Nat) : Bool := (List.range n).all (fun t : Nat => keepB f ls me now rs ((t : Int) + 1))
theorem keep_succ {f : Int → Int → Option R} {ls : List Lk.R} {me now : Int} {rs : List Int} {n : Nat} : keepN f ls me now rs (n + 1) = (keepN f ls me now rs n && keepB f ls me now rs ((n : Int) + 1)) := by
  unfold keepN; rw [List.range_succ, List.all_append]; simp
theorem keep_no {f : Int → Int → Option R} {ls : List Lk.R} {me now : Int} {rs : List Int} {n : Nat} (hn : n < 8) (h : keepB f ls me now rs ((n : Int) + 1) = false) : keepN f ls me now rs 8 = false := by
  unfold keepN
  rw [List.all_eq_false]
  exact ⟨n, List.mem_range.2 hn, by rw [h]; simp⟩
def keepA (ms : List R) (ls : List Lk.R) (me now : Int) (rs : List Int) : Bool := decide (codeM ms ls rs = 0) && keepN (findT ms) ls me now rs 8
end Mr
end Go.Proofs.Ytpknahhdapmcoac
