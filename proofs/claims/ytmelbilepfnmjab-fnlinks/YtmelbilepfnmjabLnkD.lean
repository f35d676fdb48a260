/-
  Links drawn from the model's source: right ones, in memory of their own; the laws' sameLinks. (written by mklnkd.py)
-/
import Derived.Test.YtmelbilepfnmjabLnkM
import Derived.Test.YtmelbilepfnmjabDrw
import Derived.Deep.AppendLies
import Derived.Deep.QuietTactic
import Derived.BigQuiet
namespace Go.Proofs.Ytmelbilepfnmjab
open Go.ChangeShapes Go.WideShapes Go.ChangeAt Go.RowKit
set_option linter.unusedVariables false
set_option linter.unusedSimpArgs false
attribute [local go_sem ↓] Go.wp_at_zero Go.wp_at_succ
namespace Ln
open W1 By Lk Sr Dw
theorem own_other {p : Nat} {w w' : World} {base : Nat} {v : Value} {n : Nat} {xs : List Value} (h : w.ownsRow base 44 6 v n xs) (hb : w.grownBy w' (some p)) (hp : p < base) : w'.ownsRow base 44 6 v n xs := by
  refine h.kept (row := some p) hb ?_
  cases hv : v.ownBlock with
  | none => exact .inl rfl
  | some k =>
    refine .inr (fun e => ?_)
    have := (h.lt k hv).1
    have := Option.some.inj e
    omega
theorem all_snoc {ms : List R} {m : R} (h : linksB ms = true) (hm : okL m = true) (hk : ∀ x ∈ ms, x.ad < m.ad) : linksB (ms ++ [m]) = true := by
  unfold linksB at *
  rw [List.length_append, List.length_singleton]
  have left : ∀ i, i < ms.length → (ms ++ [m]).getD i R.zero = ms.getD i R.zero := fun i hi => by
    rw [List.getD_eq_getElem?_getD, List.getD_eq_getElem?_getD, List.getElem?_append_left hi]
  have last : (ms ++ [m]).getD ms.length R.zero = m := by
    rw [List.getD_eq_getElem?_getD, List.getElem?_append_right (Nat.le_refl _)]; simp
  have pre : allL (ms ++ [m]) ms.length = true := by
    unfold allL Ri.all at *
    rw [List.all_eq_true] at *
    intro i hi
    have hi' : i < ms.length := List.mem_range.1 hi
    have := h i hi
    unfold Ri.step at *
    rw [left i hi', left (i - 1) (by omega)]; exact this
  refine Ri.all_succ pre ?_
  unfold Ri.step
  rw [last, hm]
  by_cases h0 : ms.length = 0
  · rw [h0]; rfl
  · rw [left (ms.length - 1) (by omega), decide_eq_true (hk _ (getD_mem (by omega)))]; simp
set_option maxRecDepth 100000 in
set_option maxHeartbeats 4000000 in
theorem drawLinks (p : Nat) (a : Option Addr) (bs : List UInt8) (cap n : Nat) (w : World) (hn : n ≤ 1099511600000) (hm : bs.length ≤ 1099511627776) (hs : Src w p a bs cap n) :
    Calls Try.prog 34 #[.pointer (some ⟨p, 0, none⟩)] w fun e w' => ∃ (g : Nat) (ms : List R) (c : Nat), e = .returned (.slice (some ⟨g, 0, none⟩) ms.length c) ∧ linksB ms = true ∧ Lst w' (some ⟨g, 0, none⟩) ms w.heap.size w'.heap.size ∧ w.grownBy w' (some p) ∧ Src w' p a bs cap (n + 240) := by
  have hp := src_lt hs
  have A0 : Hid (w.grownBy (w.alloc (.cells #[] 44)) (some p)) := hide (but_alloc (but_refl _ _) _)
  have S0 := hide (src_below hs ((Below.refl _ _).alloc (Nat.le_refl _) (.cells #[] 44)))
  have O0 := hide (own_empty w w.heap.size (Nat.le_refl _))
  have HRL : Hid (bs ≠ [] → ∀ g off, a = some ⟨g, off, none⟩ → g < w.heap.size) := hide (fun e0 g off e => reads_lt hs.rd e0 e)
  clear hs
  go_enter Try.func34, Try.ntmps34
  go_wp2_with fail
  generalize hW : w.alloc (.cells #[] 44) = W0 at *
  clear hW
  go_loopw [3, 4] (fun v i wr => ∃ (j : Nat) (ms : List R) (g c : Nat), j ≤ 8 ∧ i = .int .i64 ((j : Int) + 1) ∧ v = .slice (some ⟨g, 0, none⟩) ms.length c ∧ ms.length ≤ j ∧ Hid (linksB ms = true) ∧ Hid (∀ m ∈ ms, m.ad ≤ (j : Int)) ∧ Hid (wr.ownsRow w.heap.size 44 6 (.slice (some ⟨g, 0, none⟩) ms.length c) (ms).length (flat (ms))) ∧ Hid (w.grownBy wr (some p)) ∧ Hid (Src wr p a bs cap (n + 30 * j))) (fun _ i _ => (9 - intOf i).toNat)
  case atStart => exact ⟨0, [], _, _, by omega, rfl, rfl, by simp, hide rfl, hide (fun m hm => by cases hm), O0, A0, hide ((unhide S0).mono (by omega))⟩
  case round =>
    obtain ⟨j, ms, g, c, hj, rfl, rfl, hml, hal, hle, how, hgr, hsr⟩ := hrel
    by_cases hlt : j < 8
    · have hj1 : (j : Int) + 1 ≤ 8 := by omega
      go_wp2_with fail
      refine (chance p a bs cap (n + 30 * j) 2 _ (by omega) (by omega) (by omega) hm (unhide hsr)).mono ?_
      rintro e w1 ⟨b, rfl, wr1, s1⟩
      have S1 := hide s1
      have G1 := hide (but_trans (unhide hgr) (but_wrote wr1))
      have O1 := hide (own_other (unhide how) (but_wrote wr1) hp)
      clear s1 wr1 hsr hgr how
      cases b
      · go_wp2_with fail
        go_roundw
        case rel => exact ⟨j + 1, ms, g, c, by omega, by go_num, rfl, by omega, hal, hide (fun m hmm => by have := unhide hle m hmm; omega), O1, G1, hide ((unhide S1).mono (by omega))⟩
        case measure => simp [intOf]; omega
      · go_wp2_with fail
        refine (next p a bs cap (n + 30 * j + 3) 20 _ (by omega) (by omega) (by omega) hm (unhide S1)).mono ?_
        rintro e w2 ⟨r1, rfl, hr1, wr2, s2⟩
        have S2 := hide s2
        have G2 := hide (but_trans (unhide G1) (but_wrote wr2))
        have O2 := hide (own_other (unhide O1) (but_wrote wr2) hp)
        clear s2 wr2 S1 G1 O1
        go_wp2_with fail
        refine (next p a bs cap (n + 30 * j + 6) 20 _ (by omega) (by omega) (by omega) hm (unhide S2)).mono ?_
        rintro e w3 ⟨r2, rfl, hr2, wr3, s3⟩
        have S3 := hide s3
        have G3 := hide (but_trans (unhide G2) (but_wrote wr3))
        have O3 := hide (own_other (unhide O2) (but_wrote wr3) hp)
        clear s3 wr3 S2 G2 O2
        go_wp2_with fail
        refine (next p a bs cap (n + 30 * j + 9) 9 _ (by omega) (by omega) (by omega) hm (unhide S3)).mono ?_
        rintro e w4 ⟨r3, rfl, hr3, wr4, s4⟩
        have S4 := hide s4
        have G4 := hide (but_trans (unhide G3) (but_wrote wr4))
        have O4 := hide (own_other (unhide O3) (but_wrote wr4) hp)
        clear s4 wr4 S3 G3 O3
        go_wp2_with fail
        refine (next p a bs cap (n + 30 * j + 12) 9 _ (by omega) (by omega) (by omega) hm (unhide S4)).mono ?_
        rintro e w5 ⟨r4, rfl, hr4, wr5, s5⟩
        have S5 := hide s5
        have G5 := hide (but_trans (unhide G4) (but_wrote wr5))
        have O5 := hide (own_other (unhide O4) (but_wrote wr5) hp)
        clear s5 wr5 S4 G4 O4
        go_wp2_with fail
        refine (next p a bs cap (n + 30 * j + 15) 8 _ (by omega) (by omega) (by omega) hm (unhide S5)).mono ?_
        rintro e w6 ⟨r5, rfl, hr5, wr6, s6⟩
        have S6 := hide s6
        have G6 := hide (but_trans (unhide G5) (but_wrote wr6))
        have O6 := hide (own_other (unhide O5) (but_wrote wr6) hp)
        clear s6 wr6 S5 G5 O5
        have S6a := hide (src_below (unhide S6) ((Below.refl _ _).alloc (Nat.le_refl _) (.cells #[.int .i64 3, .int .i64 (r5 : Int)] 3)))
        have G6a := hide (but_alloc (unhide G6) (.cells #[.int .i64 3, .int .i64 (r5 : Int)] 3))
        have O6a := hide ((unhide O6).alloc (.cells #[.int .i64 3, .int .i64 (r5 : Int)] 3))
        have C6 : Hid (∀ o, (w6.alloc (.cells #[.int .i64 3, .int .i64 (r5 : Int)] 3)).cell? ⟨w6.heap.size, o, none⟩ = (#[.int .i64 3, .int .i64 (r5 : Int)] : Array Value)[o]?) := hide (fun o => World.cell?_alloc_new _ _ _ _)
        have hs6 : w.heap.size ≤ w6.heap.size := (unhide G6).size
        clear S6 G6 O6
        go_wp2_with fail
        generalize hWu : w6.alloc (.cells #[.int .i64 3, .int .i64 (r5 : Int)] 3) = u at *
        have hu : w6.heap.size < u.heap.size := by rw [← hWu]; simp
        clear hWu
        refine (next p a bs cap (n + 30 * j + 18) 2 _ (by omega) (by omega) (by omega) hm (unhide S6a)).mono ?_
        rintro e w7 ⟨k, rfl, hk, wr7, s7⟩
        obtain ⟨y, hy, hyy⟩ : ∃ y : Int, w7.cell? ⟨w6.heap.size, k, none⟩ = some (.int .i64 y) ∧ 0 ≤ y ∧ y ≤ 7 := by
          have hc := (wr7.cell (b := w6.heap.size) (by omega) k).trans (unhide C6 k)
          have h3 : k = 0 ∨ k = 1 := by omega
          rcases h3 with rfl | rfl
          · exact ⟨3, hc, by omega, by omega⟩
          · exact ⟨(r5 : Int), hc, by omega, by omega⟩
        have hy' : w7.cell? ⟨w6.heap.size, 0 + k, none⟩ = some (.int .i64 y) := by rw [Nat.zero_add]; exact hy
        have k0 : (0 : Int) ≤ (k : Int) := by omega
        have k1 : (k : Int) < 2 := by omega
        have S7 := hide s7
        have G7 := hide (but_trans (unhide G6a) (but_wrote wr7))
        have O7 := hide (own_other (unhide O6a) (but_wrote wr7) hp)
        have hs7 : w.heap.size ≤ w7.heap.size := (unhide G7).size
        clear s7 wr7 S6a G6a O6a C6
        have HOK : Hid (okL (⟨(j : Int) + 1, (r1 : Int), (r2 : Int), 1 + (r3 : Int), 1 + (r4 : Int), y⟩ : R) = true) := hide (by unfold okL inB; simp; omega)
        have S8 := hide (src_below (unhide S7) ((Below.refl _ _).alloc (Nat.le_refl _) (.cells #[.int .i64 ((j : Int) + 1), .int .i64 (r1 : Int), .int .i64 (r2 : Int), .int .i64 (1 + (r3 : Int)), .int .i64 (1 + (r4 : Int)), .int .i64 y] 44)))
        have G8 := hide (but_alloc (unhide G7) (.cells #[.int .i64 ((j : Int) + 1), .int .i64 (r1 : Int), .int .i64 (r2 : Int), .int .i64 (1 + (r3 : Int)), .int .i64 (1 + (r4 : Int)), .int .i64 y] 44))
        have O8 := hide ((unhide O7).alloc (.cells #[.int .i64 ((j : Int) + 1), .int .i64 (r1 : Int), .int .i64 (r2 : Int), .int .i64 (1 + (r3 : Int)), .int .i64 (1 + (r4 : Int)), .int .i64 y] 44))
        have R8 : Hid (RM (w7.alloc (.cells #[.int .i64 ((j : Int) + 1), .int .i64 (r1 : Int), .int .i64 (r2 : Int), .int .i64 (1 + (r3 : Int)), .int .i64 (1 + (r4 : Int)), .int .i64 y] 44)) (some ⟨w7.heap.size, 0, none⟩) [(⟨(j : Int) + 1, (r1 : Int), (r2 : Int), 1 + (r3 : Int), 1 + (r4 : Int), y⟩ : R)]) := hide (rm_new w7 (⟨(j : Int) + 1, (r1 : Int), (r2 : Int), 1 + (r3 : Int), 1 + (r4 : Int), y⟩ : R))
        have RL := HRL
        go_wp2_with (at_builtin; refine wpList_apS (unhide O8) w7.heap.size 0 1 1 [(⟨(j : Int) + 1, (r1 : Int), (r2 : Int), 1 + (r3 : Int), 1 + (r4 : Int), y⟩ : R)] rfl (unhide R8) (by simp only [List.length_cons, List.length_nil]; omega) (by simp; omega) rfl _ _ rfl rfl rfl ?_; intro v9 w9 o9 g9; (obtain ⟨gq, cq, rfl, _, _⟩ := o9.form (by simp)); have O9 := hide o9; have G9 := hide (but_own (unhide G8) g9 (fun k hk => ((unhide O8).lt k hk).1)); have S9 := hide (src_grown (unhide S8) g9 (fun e => by have := ((unhide O8).lt p e.symm).1; omega) (fun e0 g' off' e e' => by have h1 := unhide RL e0 g' off' e; have := ((unhide O8).lt g' e'.symm).1; omega)); clear o9 g9)
        clear hy hy'
        have HAL : Hid (linksB (ms ++ [(⟨(j : Int) + 1, (r1 : Int), (r2 : Int), 1 + (r3 : Int), 1 + (r4 : Int), y⟩ : R)]) = true) := hide (all_snoc (unhide hal) (unhide HOK) (fun m hmm => by have := unhide hle m hmm; show m.ad < (j : Int) + 1; omega))
        have HLE : Hid (∀ m ∈ ms ++ [(⟨(j : Int) + 1, (r1 : Int), (r2 : Int), 1 + (r3 : Int), 1 + (r4 : Int), y⟩ : R)], m.ad ≤ ((j + 1 : Nat) : Int)) := hide (fun m hmm => by
          rcases List.mem_append.1 hmm with h | h
          · have := unhide hle m h; omega
          · rw [List.mem_singleton] at h; subst h; show (j : Int) + 1 ≤ ((j + 1 : Nat) : Int); omega)
        have hlen : (ms ++ [(⟨(j : Int) + 1, (r1 : Int), (r2 : Int), 1 + (r3 : Int), 1 + (r4 : Int), y⟩ : R)]).length ≤ j + 1 := by rw [List.length_append, List.length_cons, List.length_nil]; omega
        have HEQ : Hid (ms.length + 1 = (ms ++ [(⟨(j : Int) + 1, (r1 : Int), (r2 : Int), 1 + (r3 : Int), 1 + (r4 : Int), y⟩ : R)]).length) := hide (by simp)
        generalize ms ++ [(⟨(j : Int) + 1, (r1 : Int), (r2 : Int), 1 + (r3 : Int), 1 + (r4 : Int), y⟩ : R)] = ms' at *
        go_roundw
        case rel => exact ⟨j + 1, ms', gq, cq, by omega, by go_num, by first | rfl | (rw [unhide HEQ]) | (have := unhide HEQ; simp; omega), hlen, HAL, HLE, O9, G9, hide ((unhide S9).mono (by omega))⟩
        case measure => simp [intOf]; omega
    · have hj9 : ¬ ((j : Int) + 1 ≤ 8) := by omega
      obtain ⟨a', c', e', hl⟩ := lst_own rfl (unhide how)
      cases e'
      have HL := hide hl
      clear hl
      go_wp2_with fail
      go_ret
      exact ⟨g, ms, ⟨c, rfl⟩, unhide hal, unhide HL, unhide hgr, (unhide hsr).mono (by omega)⟩
set_option maxRecDepth 100000 in
set_option maxHeartbeats 1000000 in
theorem linksOf (a : Option Addr) (bs : List UInt8) (cap : Nat) (w : World) (hm : bs.length ≤ 1048576) (hr : Reads w a bs) :
    Calls Try.prog 12 #[.slice a bs.length cap] w fun e w' => ∃ (g : Nat) (ms : List R) (c : Nat), e = .returned (.slice (some ⟨g, 0, none⟩) ms.length c) ∧ linksB ms = true ∧ Lst w' (some ⟨g, 0, none⟩) ms w.heap.size w'.heap.size ∧ Below w.heap.size w w' := by
  have HR := hide hr
  clear hr
  go_enter Try.func12, Try.ntmps12
  go_wp2_with fail
  refine (source a bs cap _ hm (unhide HR)).mono ?_
  rintro e w1 ⟨p, rfl, hp, b1, s1⟩
  have D1 := hide b1
  have S1 := hide s1
  clear b1 s1
  go_wp2_with fail
  refine (drawLinks p a bs cap 0 w1 (by omega) (by omega) (unhide S1)).mono ?_
  rintro e w2 ⟨g, ms, c, rfl, hok, hl, g2, _⟩
  have HOK := hide hok
  have HL := hide (hl.mono (unhide D1).size (Nat.le_refl _))
  have D2 : Hid (Below w.heap.size w w2) := hide ((unhide D1).grown g2 (unhide D1).size (fun k hk => by cases hk; omega))
  clear hok hl g2
  go_wp2_with fail
  go_ret
  exact ⟨g, ms, c, rfl, unhide HOK, unhide HL, unhide D2⟩
set_option maxRecDepth 100000 in
set_option maxHeartbeats 4000000 in
theorem sameLinks (a b : Option Addr) (ms : List R) (ca cb : Nat) (w : World) (hm : ms.length ≤ 1048576) (hr : RM w a ms) (hr' : RM w b ms) :
    Calls Try.prog 16 #[.slice a ms.length ca, .slice b ms.length cb] w fun e w' => e = .returned (.bool true) ∧ Below w.heap.size w w' := by
  have HR := hide hr
  have HR' := hide hr'
  clear hr hr'
  generalize hN : ms.length = n at *
  have HN := hide hN
  clear hN
  have hnn : ((n : Int) != (n : Int)) = false := by simp
  go_enter Try.func16, Try.ntmps16
  go_wp2_with fail
  clear hnn
  go_loopw [5] (fun i wr => ∃ j : Nat, j ≤ n ∧ i = .int .i64 j ∧ Hid (∃ q, wr = w.drewN q)) (fun i _ => n - (intOf i).toNat)
  case atStart => exact ⟨0, by omega, rfl, hide ⟨0, rfl⟩⟩
  case round =>
    obtain ⟨j, hj, rfl, hq⟩ := hrel
    have HA : Hid (RM wr a ms) := hide (by obtain ⟨q, e⟩ := unhide hq; rw [e]; exact unhide HR)
    have HB : Hid (RM wr b ms) := hide (by obtain ⟨q, e⟩ := unhide hq; rw [e]; exact unhide HR')
    have HD : Hid (∀ m, ∃ q, wr.drewN m = w.drewN q) := hide (fun m => by obtain ⟨q, e⟩ := unhide hq; exact ⟨_, by rw [e, World.drewN_drewN]⟩)
    by_cases hlt : (j : Int) < (n : Int)
    · have k0 : (0 : Int) ≤ (j : Int) := by omega
      have hlen : j < ms.length := by rw [unhide HN]; omega
      rcases unhide HA with e0 | ⟨g, off, rfl, hc⟩
      · exfalso; rw [e0] at hlen; simp at hlen
      rcases unhide HB with e0 | ⟨g', off', rfl, hc'⟩
      · exfalso; rw [e0] at hlen; simp at hlen
      obtain ⟨c0, c1, c2, c3, c4, c5⟩ := hc j hlen
      obtain ⟨d0, d1, d2, d3, d4, d5⟩ := hc' j hlen
      clear hc hc' hlen
      generalize ms.getD j R.zero = m at *
      obtain ⟨ad, hd, sy, ci, co, wl⟩ := m
      dsimp only at c0 c1 c2 c3 c4 c5 d0 d1 d2 d3 d4 d5
      go_wp2_with fail
      go_quiet (fail)
      go_wp2_with fail
      go_roundw
      case rel => exact ⟨j + 1, by omega, by go_num, hide (unhide HD _)⟩
      case measure => simp [intOf]; omega
    · go_wp2_with fail
      go_ret
      exact ⟨rfl, by obtain ⟨q, e⟩ := unhide hq; rw [e]; exact ⟨rfl, rfl, rfl, Nat.le_refl _, fun _ _ => rfl⟩⟩
end Ln
end Go.Proofs.Ytmelbilepfnmjab
