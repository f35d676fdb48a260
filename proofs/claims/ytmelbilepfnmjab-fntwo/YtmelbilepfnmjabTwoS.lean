/-
  The model's contracts of two-hop neighbors: HearTwo, TwoOf.
-/
import Derived.Test.YtmelbilepfnmjabTwoP
import Derived.Test.YtmelbilepfnmjabTwoC
import Derived.Test.YtmelbilepfnmjabSetYc
import Derived.Test.YtmelbilepfnmjabSetE
namespace Go.Proofs.Ytmelbilepfnmjab
open Go.ChangeShapes Go.WideShapes Go.ChangeAt Go.RowKit
set_option linter.unusedVariables false
set_option linter.unusedSimpArgs false
attribute [local go_sem ↓] Go.wp_at_zero Go.wp_at_succ
namespace Tw
open W1 Tu St
set_option maxHeartbeats 400000 in
theorem l07Key (v a : Int) (w : World) (h0 : 0 ≤ v) (h1 : v ≤ 1000000) (h2 : 0 ≤ a) (h3 : a ≤ 1000000) : Calls Try.prog 53 #[.int .i64 v, .int .i64 a] w fun e w' => e = .returned (.int .i64 (100 * v + a)) ∧ w' = w := by
  go_enter Try.func53, Try.ntmps53
  go_wp2
  go_ret
  exact ⟨rfl, rfl⟩
/-- A slice that lies somewhere. -/
def Fm (v : Value) (n : Nat) : Prop := ∃ g c, v = .slice (some ⟨g, 0, none⟩) n c
theorem fm_lst {w : World} {v : Value} {ms : List R} {lo hi : Nat} (h : LstV w v ms lo hi) (h0 : 0 < ms.length) : Fm v ms.length := by
  obtain ⟨a, c, rfl, h⟩ := h
  rcases h with e | ⟨g, rfl, _⟩
  · rw [e] at h0; simp at h0
  · exact ⟨g, c, rfl⟩
theorem fm_lt {w : World} {v : Value} {ms : List R} {lo hi : Nat} (h : LstV w v ms lo hi) : RM w (match v with | .slice a _ _ => a | _ => none) ms := by
  obtain ⟨a, c, rfl, h⟩ := h
  exact h.rm
/-- What the region of a learnt tuple reads. -/
def SM (w : World) (B Bn : Nat) (will valid : Int) (v : Value) (m : Nb.R) : Prop := Bx3 w B will valid v ∧ Nb.At w Bn 0 m
theorem sM {w : World} {B Bn : Nat} {will valid : Int} {v : Value} {ad st mt : Int} {mp : Bool} (h : SM w B Bn will valid v ⟨ad, st, mt, mp⟩) :
    SM w B Bn will valid v ⟨ad, st, mt, mp⟩ ∧ w.cell? ⟨B, 1, none⟩ = some (.int .i64 valid) ∧ w.cell? ⟨Bn, 0, none⟩ = some (.int .i64 ad) ∧ w.cell? ⟨Bn, 2, none⟩ = some (.int .i64 mt) :=
  ⟨h, h.1.2.1, h.2.1, by have := h.2.2.2.1; simpa using this⟩
theorem SM.below {w w' : World} {B Bn : Nat} {will valid : Int} {v : Value} {m : Nb.R} (h : SM w B Bn will valid v m) (hb : Below w.heap.size w w') : SM w' B Bn will valid v m := ⟨h.1.below hb, h.2.below hb⟩
theorem SM.drew {w : World} {B Bn : Nat} {will valid : Int} {v : Value} {m : Nb.R} (h : SM w B Bn will valid v m) : SM w.drew B Bn will valid v m := h
set_option maxRecDepth 100000 in
set_option maxHeartbeats 8000000 in
theorem l07Hear (a : Option Addr) (ms : List R) (cap : Nat) (me frm now : Int) (sym : Bool) (will valid : Int) (b : Option Addr) (ns : List Nb.R) (capn : Nat) (w : World) (hs : twoB ms = true) (hf : 1 ≤ frm ∧ frm ≤ 8) (hn : 0 ≤ now ∧ now ≤ 1000000) (hh : Hl.helB will valid ns = true) (hr : RM w a ms) (hr' : Nb.RM w b ns) :
    Calls Try.prog 62 #[.slice a ms.length cap, .int .i64 me, .int .i64 frm, .int .i64 now, .bool sym, .agg #[.int .i64 will, .int .i64 valid, .slice b ns.length capn]] w fun e w' => ∃ v, e = .returned v ∧ Below w.heap.size w w' ∧ LstV w' v (hearTL ms me frm now sym valid ns) w.heap.size w'.heap.size := by
  have hval := Hl.hel_valid hh
  have h8 := Hl.hel_len hh
  have hl62 := two_len hs
  have HS := hide hs
  have HAL := hide (Hl.hel_all hh)
  have HT0 := hide (two_filter hs (keepF frm))
  have HTW := hide (learn_two (me := me) (unhide HT0) hf hn hval (unhide HAL))
  have HR := hide hr
  have HNR := hide hr'
  clear hs hh hr hr'
  obtain ⟨N, hN⟩ : ∃ N, ns.length = N := ⟨_, rfl⟩
  have HN := hide hN
  have HHT : Hid (hearTL ms me frm now true valid ns = learnL (ms.filter (keepF frm)) me frm now valid ns N) := hide (by unfold hearTL; rw [if_pos rfl, hN])
  have HHF : Hid (hearTL ms me frm now false valid ns = ms.filter (keepF frm)) := hide (by unfold hearTL; rw [if_neg (by simp)])
  rw [hN] at h8 ⊢
  clear hN
  generalize hNm : ms.length = n at *
  have HNM := hide hNm
  clear hNm
  have P0 : Hid (Below w.heap.size w (w.alloc (.cells #[.int .i64 will, .int .i64 valid, .slice b N capn] 38))) := hide ((Below.refl _ _).alloc (Nat.le_refl _) _)
  have X0 : Hid (Bx3 (w.alloc (.cells #[.int .i64 will, .int .i64 valid, .slice b N capn] 38)) w.heap.size will valid (.slice b N capn)) := hide (bx3_new w will valid _ _)
  have R0 := hide ((unhide HR).below (unhide P0))
  have Q0 := hide ((unhide HNR).below (unhide P0))
  have E0 : Hid ((w.alloc (.cells #[.int .i64 will, .int .i64 valid, .slice b N capn] 38)).heap.size = w.heap.size + 1) := hide (by simp)
  have O1 := hide (own_empty (w.alloc (.cells #[.int .i64 will, .int .i64 valid, .slice b N capn] 38)) (w.alloc (.cells #[.int .i64 will, .int .i64 valid, .slice b N capn] 38)).heap.size (Nat.le_refl _))
  have P1 : Hid (Below (w.alloc (.cells #[.int .i64 will, .int .i64 valid, .slice b N capn] 38)).heap.size (w.alloc (.cells #[.int .i64 will, .int .i64 valid, .slice b N capn] 38)) ((w.alloc (.cells #[.int .i64 will, .int .i64 valid, .slice b N capn] 38)).alloc (.cells #[] 32))) := hide ((Below.refl _ _).alloc (Nat.le_refl _) _)
  clear HR HNR
  go_enter Try.func62, Try.ntmps62
  go_wp2_with fail
  generalize hW : w.alloc (.cells #[.int .i64 will, .int .i64 valid, .slice b N capn] 38) = W1 at *
  clear hW
  have F1 : Hid (Fm (.slice (some ⟨w.heap.size + 1, 0, none⟩) 0 0) ((ms.take 0).filter (keepF frm)).length) := hide ⟨_, _, rfl⟩
  rw [show W1.heap.size = w.heap.size + 1 from unhide E0] at O1
  rw [← unhide E0] at O1
  go_loopw [13, 14] (fun v i wr => ∃ j : Nat, j ≤ n ∧ i = .int .i64 j ∧ Hid (wr.ownsRow W1.heap.size 32 3 v ((ms.take j).filter (keepF frm)).length (flat ((ms.take j).filter (keepF frm)))) ∧ Hid (Fm v ((ms.take j).filter (keepF frm)).length) ∧ Hid (Below W1.heap.size W1 wr)) (fun _ i _ => n - (intOf i).toNat)
  case atStart => exact ⟨0, by omega, rfl, by rw [← unhide E0]; exact O1, F1, P1⟩
  case round =>
    obtain ⟨j, hj, rfl, how, hfm, hbl⟩ := hrel
    have hbs := (unhide hbl).size
    by_cases hlt : (j : Int) < (n : Int)
    · have k0 : (0 : Int) ≤ (j : Int) := by omega
      have hlen : j < ms.length := by rw [unhide HNM]; omega
      obtain ⟨g, off, rfl⟩ := (unhide R0).form (by omega)
      obtain ⟨c0, c1, c2⟩ := ((unhide R0).below (unhide hbl)).at hlen
      have HTF := hide (take_filter (keepF frm) ms j hlen)
      have hfl := filter_le (keepF frm) ms j
      have hbd := ok_bounds (setB_ok (two_set (unhide HS)) hlen)
      generalize ms.getD j R.zero = m at *
      have e1 : m.key.tdiv 100 = m.key / 100 := Int.tdiv_eq_ediv_of_nonneg (by omega)
      have hvm : keepF frm m = !(m.key / 100 == frm) := by unfold keepF hv; rw [e1]
      clear e1
      cases hk : (m.key / 100 == frm)
      · have hkt : keepF frm m = true := by rw [hvm, hk]; rfl
        rw [hkt, if_pos rfl] at HTF
        have hkn : (m.key / 100 != frm) = true := by simp [bne, hk]
        clear hvm hkt hk
        go_wp2_with (at_builtin; refine wpList_apS ((unhide how).alloc _) wr.heap.size 0 1 1 [m] rfl (rm_new wr m) (by simp only [List.length_cons, List.length_nil]; omega) (by simp; omega) rfl _ _ rfl rfl rfl ?_; intro v' w' ho hg; have HO : Hid (w'.ownsRow W1.heap.size 32 3 v' ((ms.take (j + 1)).filter (keepF frm)).length (flat ((ms.take (j + 1)).filter (keepF frm)))) := hide (by rw [unhide HTF]; exact ho); have HF : Hid (Fm v' ((ms.take (j + 1)).filter (keepF frm)).length) := hide (fm_lst (lst_own rfl (unhide HO)) (by rw [unhide HTF]; simp)); have HB := hide (below_own ((unhide hbl).alloc hbs _) ((unhide how).alloc _) hg (Nat.le_refl _) (by simp; omega)); clear ho hg)
        go_roundw
        case rel => exact ⟨j + 1, by omega, by go_num, HO, HF, HB⟩
        case measure => simp [intOf]; omega
      · have hkt : keepF frm m = false := by rw [hvm, hk]; rfl
        rw [hkt, if_neg (by simp), List.append_nil] at HTF
        have hkn : (m.key / 100 != frm) = false := by simp [bne, hk]
        clear hvm hkt hk
        have HO : Hid (wr.ownsRow W1.heap.size 32 3 u13 ((ms.take (j + 1)).filter (keepF frm)).length (flat ((ms.take (j + 1)).filter (keepF frm)))) := hide (by rw [unhide HTF]; exact unhide how)
        have HF : Hid (Fm u13 ((ms.take (j + 1)).filter (keepF frm)).length) := hide (by rw [unhide HTF]; exact unhide hfm)
        go_wp2_with fail
        go_roundw
        case rel => exact ⟨j + 1, by omega, by go_num, HO, HF, hbl⟩
        case measure => simp [intOf]; omega
    · obtain rfl : j = n := by omega
      have e : ms.take j = ms := List.take_of_length_le (by rw [unhide HNM]; exact Nat.le_refl _)
      rw [e] at how hfm
      have L0 : Hid (LstV wr u13 (learnL (ms.filter (keepF frm)) me frm now valid ns 0) W1.heap.size wr.heap.size) := hide (lst_own rfl (unhide how))
      have F0 : Hid (Fm u13 (learnL (ms.filter (keepF frm)) me frm now valid ns 0).length) := hfm
      clear how hfm e
      have hx0 := (unhide X0).below (unhide hbl)
      obtain ⟨z0, z1, z2⟩ := hx0
      have hfl := filter_le (keepF frm) ms ms.length
      go_wp2_with fail
      clear z0 z1 z2
      go_loopw [13, 15] (fun v i wr => ∃ j : Nat, j ≤ N ∧ (sym = false → j = 0) ∧ i = .int .i64 j ∧ Hid (LstV wr v (learnL (ms.filter (keepF frm)) me frm now valid ns j) W1.heap.size wr.heap.size) ∧ Hid (Fm v (learnL (ms.filter (keepF frm)) me frm now valid ns j).length) ∧ Hid (Below W1.heap.size W1 wr)) (fun _ i _ => N - (intOf i).toNat)
      case atStart => exact ⟨0, by omega, fun _ => rfl, rfl, L0, F0, hbl⟩
      case round =>
        obtain ⟨k, hk, hk0, rfl, hls, hfm, hbl⟩ := hrel
        have hbs := (unhide hbl).size
        have HX := hide ((unhide X0).below (unhide hbl))
        obtain ⟨z0, z1, z2⟩ := unhide HX
        have HBw := hide ((unhide P0).trans ((unhide hbl).mono (unhide P0).size))
        by_cases hlt2 : (k : Int) < (N : Int)
        · cases sym
          · have hk0' := hk0 rfl
            subst hk0'
            have HL : Hid (LstV wr u13 (hearTL ms me frm now false valid ns) w.heap.size wr.heap.size) := hide (by rw [unhide HHF]; exact (unhide hls).mono (by have := unhide E0; omega) (Nat.le_refl _))
            go_wp2_with fail
            go_ret
            exact ⟨_, rfl, unhide HBw, unhide HL⟩
          · have k0 : (0 : Int) ≤ (k : Int) := by omega
            have hlen : k < ns.length := by rw [unhide HN]; omega
            obtain ⟨g, off, rfl⟩ := (unhide Q0).form (by omega)
            have hA := ((unhide Q0).below (unhide hbl)).at hlen
            have HY : Hid (isNew me frm (ns.getD k Nb.R.zero) = true → learnL (ms.filter (keepF frm)) me frm now valid ns (k + 1) = putL (learnL (ms.filter (keepF frm)) me frm now valid ns k) (tupT frm now valid (ns.getD k Nb.R.zero))) := hide (fun h => learn_yes hlen h)
            have HZ : Hid (isNew me frm (ns.getD k Nb.R.zero) = false → learnL (ms.filter (keepF frm)) me frm now valid ns (k + 1) = learnL (ms.filter (keepF frm)) me frm now valid ns k) := hide (fun h => learn_no hlen h)
            have had := Hl.ok_ad (Ri.all_ok (unhide HAL) hlen)
            have HT1 := hide (unhide HTW k (by omega))
            generalize ns.getD k Nb.R.zero = m at *
            obtain ⟨ad, st, mt, mp⟩ := m
            obtain ⟨c0, c1, c2, c3⟩ := hA
            dsimp only at c0 c1 c2 c3 had
            have B1 : Hid (Below wr.heap.size wr (wr.alloc (.cells #[.int .i64 ad, .int .i64 st, .int .i64 mt, .bool mp] 48))) := hide ((Below.refl _ _).alloc (Nat.le_refl _) _)
            have HL1 := hide ((unhide hls).below (unhide B1))
            have HB1 := hide ((unhide hbl).trans ((unhide B1).mono (unhide hbl).size))
            have HSM : Hid (SM (wr.alloc (.cells #[.int .i64 ad, .int .i64 st, .int .i64 mt, .bool mp] 48)) w.heap.size wr.heap.size will valid (.slice (some ⟨g, off, none⟩) N capn) ⟨ad, st, mt, mp⟩) := hide ⟨(unhide HX).below (unhide B1), by refine ⟨?_, ?_, ?_, ?_⟩ <;> simp [World.cell?_alloc_new]⟩
            cases hnew : isNew me frm ⟨ad, st, mt, mp⟩
            · have E1 := unhide HZ hnew
              have HL2 : Hid (LstV (wr.alloc (.cells #[.int .i64 ad, .int .i64 st, .int .i64 mt, .bool mp] 48)) u13 (learnL (ms.filter (keepF frm)) me frm now valid ns (k + 1)) W1.heap.size (wr.alloc (.cells #[.int .i64 ad, .int .i64 st, .int .i64 mt, .bool mp] 48)).heap.size) := hide (by rw [E1]; exact (unhide HL1).mono (Nat.le_refl _) (unhide B1).size)
              have HF2 : Hid (Fm u13 (learnL (ms.filter (keepF frm)) me frm now valid ns (k + 1)).length) := hide (by rw [E1]; exact unhide hfm)
              clear E1 HY HZ
              have hcs : (st == 2) = false ∨ (st == 2) = true ∧ ((ad != me) = false ∨ (ad != me) = true ∧ (ad != frm) = false) := by
                unfold isNew at hnew; dsimp only at hnew
                cases e1 : (st == 2)
                · exact .inl rfl
                · right; refine ⟨rfl, ?_⟩
                  cases e2 : (ad != me)
                  · exact .inl rfl
                  · right; refine ⟨rfl, ?_⟩
                    rw [e1, e2] at hnew; simpa using hnew
              clear hnew
              rcases hcs with q1 | ⟨q1, q2 | ⟨q2, q3⟩⟩
              all_goals
                go_wp2_with fail
                go_roundw
                case rel => exact ⟨k + 1, by omega, fun h => (by cases h), by go_num, HL2, HF2, HB1⟩
                case measure => simp [intOf]; omega
            · have E1 := unhide HY hnew
              have hl1 := two_len (unhide HT1)
              obtain ⟨q1, q2, q3⟩ : (st == 2) = true ∧ (ad != me) = true ∧ (ad != frm) = true := by unfold isNew at hnew; dsimp only at hnew; rw [Bool.and_eq_true, Bool.and_eq_true] at hnew; exact hnew
              have HE1 := hide E1
              clear hnew E1 HY HZ
              obtain ⟨L, hL⟩ : ∃ L, learnL (ms.filter (keepF frm)) me frm now valid ns k = L := ⟨_, rfl⟩
              rw [hL] at HE1 HT1 HL1 hfm hl1
              clear hL hls
              obtain ⟨gv, cv, ev⟩ := unhide hfm
              subst ev
              have HRL : Hid (RM (wr.alloc (.cells #[.int .i64 ad, .int .i64 st, .int .i64 mt, .bool mp] 48)) (some ⟨gv, 0, none⟩) L) := hide (fm_lt (unhide HL1))
              have hwr : IntKind.i64.wrap (now + valid) = now + valid := by rw [IntKind.wrap_i64]; omega
              have HNE := hide (put_ne L (tupT frm now valid ⟨ad, st, mt, mp⟩))
              go_wp2_with fail
              generalize hW : wr.alloc (.cells #[.int .i64 ad, .int .i64 st, .int .i64 mt, .bool mp] 48) = W0 at *
              clear hW c0 c1 c2 c3 z0 z1 z2
              refine wp_region_noPanic ?_
              refine wp_region_held_drew (S := fun w' => SM w' w.heap.size wr.heap.size will valid (.slice (some ⟨g, off, none⟩) N capn) ⟨ad, st, mt, mp⟩ ∧ w'.cell? ⟨w.heap.size, 1, none⟩ = some (.int .i64 valid) ∧ w'.cell? ⟨wr.heap.size, 0, none⟩ = some (.int .i64 ad) ∧ w'.cell? ⟨wr.heap.size, 2, none⟩ = some (.int .i64 mt)) (by kernel_rfl) (sM (unhide HSM).drew) (fun hHeld => ?_)
              (refine Rg.tk (i := 0) (d := 70) (v := ?_) rfl rfl (by kernel_rfl) (by kernel_rfl) (by kernel_rfl) (fun _ _ _ h => h) (by rfl) ?_ (by assumption) ?_; rotate_left; (focus (intro w0 hSw; (try dsimp only at hSw); go_simp; (try with_reducible rfl))); (try simp only [Act.put, List.setIfInBounds_toArray, List.set_cons_zero, List.set_cons_succ]))
              (refine Rg.tk (i := 1) (d := 71) (v := ?_) rfl rfl (by kernel_rfl) (by kernel_rfl) (by kernel_rfl) (fun _ _ _ h => h) (by rfl) ?_ (by assumption) ?_; rotate_left; (focus (intro w0 hSw; (try dsimp only at hSw); go_simp; (try with_reducible rfl))); (try simp only [Act.put, List.setIfInBounds_toArray, List.set_cons_zero, List.set_cons_succ]))
              (refine Rg.tk (i := 2) (d := 72) (v := ?_) rfl rfl (by kernel_rfl) (by kernel_rfl) (by kernel_rfl) (fun _ _ _ h => h) (by rfl) ?_ (by assumption) ?_; rotate_left; (focus (intro w0 hSw; (try dsimp only at hSw); go_simp; (try with_reducible rfl))); (try simp only [Act.put, List.setIfInBounds_toArray, List.set_cons_zero, List.set_cons_succ]))
              (refine Rg.tk (i := 3) (d := 73) (v := ?_) rfl rfl (by kernel_rfl) (by kernel_rfl) (by kernel_rfl) (fun _ _ _ h => h) (by rfl) ?_ (by assumption) ?_; rotate_left; (focus (intro w0 hSw; (try dsimp only at hSw); go_simp; (try with_reducible rfl))); (try simp only [Act.put, List.setIfInBounds_toArray, List.set_cons_zero, List.set_cons_succ]))
              (refine Rg.tk (i := 5) (d := 75) (v := ?_) rfl rfl (by kernel_rfl) (by kernel_rfl) (by kernel_rfl) (fun _ _ _ h => h) (by rfl) ?_ (by assumption) ?_; rotate_left; (focus (intro w0 hSw; (try dsimp only at hSw); go_simp; (try with_reducible rfl))); (try simp only [Act.put, List.setIfInBounds_toArray, List.set_cons_zero, List.set_cons_succ]))
              (refine Rg.tk (i := 6) (d := 76) (v := ?_) rfl rfl (by kernel_rfl) (by kernel_rfl) (by kernel_rfl) (fun _ _ _ h => h) (by rfl) ?_ (by assumption) ?_; rotate_left; (focus (intro w0 hSw; (try dsimp only at hSw); go_simp; (try with_reducible rfl))); (try simp only [Act.put, List.setIfInBounds_toArray, List.set_cons_zero, List.set_cons_succ]))
              (refine Rg.tk (i := 7) (d := 77) (v := ?_) rfl rfl (by kernel_rfl) (by kernel_rfl) (by kernel_rfl) (fun _ _ _ h => h) (by rfl) ?_ (by assumption) ?_; rotate_left; (focus (intro w0 hSw; (try dsimp only at hSw); go_simp; (try with_reducible rfl))); (try simp only [Act.put, List.setIfInBounds_toArray, List.set_cons_zero, List.set_cons_succ]))
              (refine Rg.tk (i := 8) (d := 78) (v := ?_) rfl rfl (by kernel_rfl) (by kernel_rfl) (by kernel_rfl) (fun _ _ _ h => h) (by rfl) ?_ (by assumption) ?_; rotate_left; (focus (intro w0 hSw; (try dsimp only at hSw); go_simp; (try with_reducible rfl))); (try simp only [Act.put, List.setIfInBounds_toArray, List.set_cons_zero, List.set_cons_succ]))
              (refine Rg.tk (i := 9) (d := 79) (v := ?_) rfl rfl (by kernel_rfl) (by kernel_rfl) (by kernel_rfl) (fun _ _ _ h => h) (by rfl) ?_ (by assumption) ?_; rotate_left; (focus (intro w0 hSw; (try dsimp only at hSw); go_simp; (try with_reducible rfl))); (try simp only [Act.put, List.setIfInBounds_toArray, List.set_cons_zero, List.set_cons_succ]))
              (refine Rg.tk (i := 10) (d := 80) (v := ?_) rfl rfl (by kernel_rfl) (by kernel_rfl) (by kernel_rfl) (fun _ _ _ h => h) (by rfl) ?_ (by assumption) ?_; rotate_left; (focus (intro w0 hSw; (try dsimp only at hSw); go_simp; (try with_reducible rfl))); (try simp only [Act.put, List.setIfInBounds_toArray, List.set_cons_zero, List.set_cons_succ]))
              (refine wpAnyH_ready (rs := [4]) (by kernel_rfl) (by simp) ?_; refine AllReadyH.cons (o := _) rfl (fun K hK => ?_) AllReadyH.nil; go_simp)
              refine (l07Key frm ad _ (by omega) (by omega) (by omega) (by omega)).mono ?_
              rintro e w2 ⟨rfl, hw2⟩
              have b2 : Below W0.heap.size W0 w2 := by rw [hw2]; exact (Below.refl _ _).drew
              have HS2 := hide ((unhide HSM).below b2)
              have HR2 := hide ((unhide HRL).below b2)
              have HB2 := hide ((unhide HB1).trans (b2.mono (unhide HB1).size))
              clear b2 hw2 hHeld
              refine hK.out _ _ (sM (unhide HS2)) (fun hHeld => ?_)
              clear hK K
              (try simp only [Act.put, List.setIfInBounds_toArray, List.set_cons_zero, List.set_cons_succ])
              (refine Rg.tk (i := 11) (d := 81) (v := ?_) rfl rfl (by kernel_rfl) (by kernel_rfl) (by kernel_rfl) (fun _ _ _ h => h) (by rfl) ?_ (by assumption) ?_; rotate_left; (focus (intro w0 hSw; (try dsimp only at hSw); go_simp; (try with_reducible rfl))); (try simp only [Act.put, List.setIfInBounds_toArray, List.set_cons_zero, List.set_cons_succ]))
              (refine wpAnyH_ready (rs := [12]) (by kernel_rfl) (by simp) ?_; refine AllReadyH.cons (o := _) rfl (fun K hK => ?_) AllReadyH.nil; go_simp)
              refine (l03PutC gv 0 L cv (100 * frm + ad) (now + valid) mt _ (by omega) (unhide HR2)).mono ?_
              rintro e w3 ⟨v3, rfl, b3, hl3, hs3⟩
              have HS3 := hide ((unhide HS2).below b3)
              have HB3 := hide ((unhide HB2).trans (b3.mono (unhide HB2).size))
              have HL3 : Hid (LstV w3 v3 (learnL (ms.filter (keepF frm)) me frm now valid ns (k + 1)) W1.heap.size w3.heap.size) := hide (by rw [unhide HE1]; exact hl3.mono (unhide HB2).size (Nat.le_refl _))
              have HF3 : Hid (Fm v3 (learnL (ms.filter (keepF frm)) me frm now valid ns (k + 1)).length) := hide (fm_lst (unhide HL3) (by rw [unhide HE1]; exact unhide HNE))
              clear b3 hl3 hs3 hHeld
              generalize putC L ⟨100 * frm + ad, now + valid, mt⟩ = pc
              refine hK.out _ _ (sM (unhide HS3)) (fun hHeld => ?_)
              clear hK K
              (try simp only [Act.put, List.setIfInBounds_toArray, List.set_cons_zero, List.set_cons_succ])
              (refine Rg.tk (i := 13) (d := 69) (v := ?_) rfl rfl (by kernel_rfl) (by kernel_rfl) (by kernel_rfl) (fun _ _ _ h => h) (by rfl) ?_ (by assumption) ?_; rotate_left; (focus (intro w0 hSw; (try dsimp only at hSw); go_simp; (try with_reducible rfl))); (try simp only [Act.put, List.setIfInBounds_toArray, List.set_cons_zero, List.set_cons_succ]))
              (refine Rg.tk (i := 14) (d := 83) (v := ?_) rfl rfl (by kernel_rfl) (by kernel_rfl) (by kernel_rfl) (fun _ _ _ h => h) (by rfl) ?_ (by assumption) ?_; rotate_left; (focus (intro w0 hSw; (try dsimp only at hSw); go_simp; (try with_reducible rfl))); (try simp only [Act.put, List.setIfInBounds_toArray, List.set_cons_zero, List.set_cons_succ]))
              (refine Rg.tk (i := 15) (d := 84) (v := ?_) rfl rfl (by kernel_rfl) (by kernel_rfl) (by kernel_rfl) (fun _ _ _ h => h) (by rfl) ?_ (by assumption) ?_; rotate_left; (focus (intro w0 hSw; (try dsimp only at hSw); go_simp; (try with_reducible rfl))); (try simp only [Act.put, List.setIfInBounds_toArray, List.set_cons_zero, List.set_cons_succ]))
              (refine Rg.tk (i := 16) (d := 13) (v := ?_) rfl rfl (by kernel_rfl) (by kernel_rfl) (by kernel_rfl) (fun _ _ _ h => h) (by rfl) ?_ (by assumption) ?_; rotate_left; (focus (intro w0 hSw; (try dsimp only at hSw); go_simp; (try with_reducible rfl))); (try simp only [Act.put, List.setIfInBounds_toArray, List.set_cons_zero, List.set_cons_succ]))
              refine wpAnyH_done (by kernel_rfl) (NoPanic.normal ?_) _
              clear hHeld
              go_wp2_with fail
              go_roundw
              case rel => exact ⟨k + 1, by omega, fun h => (by cases h), by go_num, HL3, HF3, HB3⟩
              case measure => simp [intOf]; omega
        · obtain rfl : k = N := by omega
          have HL : Hid (LstV wr u13 (hearTL ms me frm now sym valid ns) w.heap.size wr.heap.size) := hide (by
            cases sym
            · have := hk0 rfl
              subst this
              rw [unhide HHF]; exact (unhide hls).mono (by have := unhide E0; omega) (Nat.le_refl _)
            · rw [unhide HHT]; exact (unhide hls).mono (by have := unhide E0; omega) (Nat.le_refl _))
          go_wp2_with fail
          go_ret
          exact ⟨_, rfl, unhide HBw, unhide HL⟩
end Tw
end Go.Proofs.Ytmelbilepfnmjab
