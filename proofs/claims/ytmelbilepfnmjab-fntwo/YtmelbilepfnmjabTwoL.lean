/-
  What a hello tells of two-hop neighbors: mathematics, and the program's contract (learnBy).
-/
import Derived.Test.YtmelbilepfnmjabTwoO
import Derived.Test.YtmelbilepfnmjabHelM
namespace Go.Proofs.Ytmelbilepfnmjab
open Go.ChangeShapes Go.WideShapes Go.ChangeAt Go.RowKit
set_option linter.unusedVariables false
set_option linter.unusedSimpArgs false
attribute [local go_sem ↓] Go.wp_at_zero Go.wp_at_succ
namespace Tw
open W1 Tu St Mt
def isNew (me frm : Int) (n : Nb.R) : Bool := n.st == 2 && (n.ad != me && n.ad != frm)
def tupT (frm now valid : Int) (n : Nb.R) : R := ⟨100 * frm + n.ad, now + valid, n.mt⟩
def learnL (L : List R) (me frm now valid : Int) (ns : List Nb.R) (j : Nat) : List R :=
  (ns.take j).foldl (fun L n => if isNew me frm n = true then putL L (tupT frm now valid n) else L) L
theorem nb_take {ns : List Nb.R} {j : Nat} (h : j < ns.length) : ns.take (j + 1) = ns.take j ++ [ns.getD j Nb.R.zero] := by
  rw [List.take_add_one, List.getElem?_eq_getElem h, List.getD_eq_getElem?_getD, List.getElem?_eq_getElem h]; rfl
theorem learn_yes {L : List R} {me frm now valid : Int} {ns : List Nb.R} {j : Nat} (hj : j < ns.length) (h : isNew me frm (ns.getD j Nb.R.zero) = true) : learnL L me frm now valid ns (j + 1) = putL (learnL L me frm now valid ns j) (tupT frm now valid (ns.getD j Nb.R.zero)) := by
  unfold learnL; rw [nb_take hj, List.foldl_append, List.foldl_cons, List.foldl_nil, if_pos h]
theorem learn_no {L : List R} {me frm now valid : Int} {ns : List Nb.R} {j : Nat} (hj : j < ns.length) (h : isNew me frm (ns.getD j Nb.R.zero) = false) : learnL L me frm now valid ns (j + 1) = learnL L me frm now valid ns j := by
  unfold learnL; rw [nb_take hj, List.foldl_append, List.foldl_cons, List.foldl_nil, if_neg (by rw [h]; simp)]
theorem new_ne {me frm : Int} {n : Nb.R} (h : isNew me frm n = true) : n.st = 2 ∧ n.ad ≠ me ∧ n.ad ≠ frm := by unfold isNew at h; simp at h; exact h
theorem tup_ok {me frm now valid : Int} {n : Nb.R} (hf : 1 ≤ frm ∧ frm ≤ 8) (hn : 0 ≤ now ∧ now ≤ 1000000) (hv' : 1 ≤ valid ∧ valid ≤ 10000) (ho : Hl.okN n = true) (h : isNew me frm n = true) :
    okR (tupT frm now valid n) = true ∧ okK (tupT frm now valid n) = true ∧ hv (tupT frm now valid n) = frm ∧ ha (tupT frm now valid n) = n.ad := by
  have had := Hl.ok_ad ho
  have hmt := Hl.ok_mt ho
  obtain ⟨_, _, hne⟩ := new_ne h
  obtain ⟨e1, e2⟩ := hop_mk (v := frm) (a := n.ad) (t := now + valid) (u := n.mt) (by omega) (by omega) (by omega)
  refine ⟨?_, ?_, e1, e2⟩
  · unfold okR tupT inB; simp; omega
  · unfold okK tupT; rw [e1, e2]; unfold inB; simp; omega
theorem learn_two {L : List R} {me frm now valid : Int} {ns : List Nb.R} (hL : twoB L = true) (hf : 1 ≤ frm ∧ frm ≤ 8) (hn : 0 ≤ now ∧ now ≤ 1000000) (hv' : 1 ≤ valid ∧ valid ≤ 10000) (ho : Hl.allN ns ns.length = true) :
    ∀ j, j ≤ ns.length → twoB (learnL L me frm now valid ns j) = true
  | 0, _ => hL
  | j + 1, hj => by
    have ih := learn_two hL hf hn hv' ho j (by omega) (me := me)
    cases h : isNew me frm (ns.getD j Nb.R.zero)
    · rw [learn_no (by omega) h]; exact ih
    · obtain ⟨q1, q2, _⟩ := tup_ok hf hn hv' (Ri.all_ok ho (by omega)) h
      rw [learn_yes (by omega) h]; exact two_put ih q1 q2
/-- A map's block has no cells. -/
theorem om_none {w : World} {b n : Nat} {f : Int → Int → Option R} (h : OM w b n f) (o : Nat) : w.cell? ⟨b, o, none⟩ = none := by
  obtain ⟨D, ⟨es, ck, hb, _⟩, _⟩ := h
  simp [World.cell?, hb]
theorem nb_ne {w : World} {b n : Nat} {f : Int → Int → Option R} (h : OM w b n f) {g o : Nat} {m : Nb.R} (ha : Nb.At w g o m) : g ≠ b := by
  intro e; subst e; have := om_none h o; rw [ha.1] at this; cases this
theorem nb_but {w w' : World} {g o : Nat} {m : Nb.R} (h : Nb.At w g o m) (hb : w'.heap[g]? = w.heap[g]?) : Nb.At w' g o m := by
  obtain ⟨h0, h1, h2, h3⟩ := h
  exact ⟨(World.cell?_of_block (a := ⟨g, o, none⟩) hb).trans h0, (World.cell?_of_block (a := ⟨g, o + 1, none⟩) hb).trans h1, (World.cell?_of_block (a := ⟨g, o + 2, none⟩) hb).trans h2, (World.cell?_of_block (a := ⟨g, o + 3, none⟩) hb).trans h3⟩
theorem nb_lt {w : World} {g o : Nat} {m : Nb.R} (h : Nb.At w g o m) : g < w.heap.size := World.block_lt_of_cell? _ _ h.1
/-- What the region of a learnt tuple reads. -/
def SL (w : World) (B Bn Bh : Nat) (will valid : Int) (v : Value) (m : Nb.R) (frm : Int) : Prop := Bx3 w B will valid v ∧ Nb.At w Bn 0 m ∧ w.cell? ⟨Bh, 0, none⟩ = some (.int .i64 frm) ∧ w.cell? ⟨Bh, 1, none⟩ = some (.int .i64 m.ad)
theorem sL {w : World} {B Bn Bh : Nat} {will valid : Int} {v : Value} {ad st mt : Int} {mp : Bool} {frm : Int} (h : SL w B Bn Bh will valid v ⟨ad, st, mt, mp⟩ frm) :
    SL w B Bn Bh will valid v ⟨ad, st, mt, mp⟩ frm ∧ w.cell? ⟨B, 1, none⟩ = some (.int .i64 valid) ∧ w.cell? ⟨Bn, 2, none⟩ = some (.int .i64 mt) ∧ w.cell? ⟨Bh, 0, none⟩ = some (.int .i64 frm) ∧ w.cell? ⟨Bh, 1, none⟩ = some (.int .i64 ad) :=
  ⟨h, h.1.2.1, by have := h.2.1.2.2.1; simpa using this, h.2.2.1, h.2.2.2⟩
theorem SL.below {w w' : World} {B Bn Bh : Nat} {will valid : Int} {v : Value} {m : Nb.R} {frm : Int} (h : SL w B Bn Bh will valid v m frm) (hb : Below w.heap.size w w') : SL w' B Bn Bh will valid v m frm :=
  ⟨h.1.below hb, h.2.1.below hb, (hb.cell (p := ⟨Bh, 0, none⟩) (World.block_lt_of_cell? _ _ h.2.2.1)).trans h.2.2.1, (hb.cell (p := ⟨Bh, 1, none⟩) (World.block_lt_of_cell? _ _ h.2.2.2)).trans h.2.2.2⟩
theorem SL.drew {w : World} {B Bn Bh : Nat} {will valid : Int} {v : Value} {m : Nb.R} {frm : Int} (h : SL w B Bn Bh will valid v m frm) : SL w.drew B Bn Bh will valid v m frm := h
theorem SL.grown {w w' : World} {b B Bn Bh : Nat} {will valid : Int} {v : Value} {m : Nb.R} {frm : Int} (h : SL w B Bn Bh will valid v m frm) (hg : w.grownBy w' (some b)) (h1 : B ≠ b) (h2 : Bn ≠ b) (h3 : Bh ≠ b) : SL w' B Bn Bh will valid v m frm := by
  refine ⟨h.1.but (hg.block B h.1.lt (by intro e; cases e; exact h1 rfl)), nb_but h.2.1 (hg.block Bn (nb_lt h.2.1) (by intro e; cases e; exact h2 rfl)), ?_, ?_⟩
  · exact (World.cell?_of_block (a := ⟨Bh, 0, none⟩) (hg.block Bh (World.block_lt_of_cell? _ _ h.2.2.1) (by intro e; cases e; exact h3 rfl))).trans h.2.2.1
  · exact (World.cell?_of_block (a := ⟨Bh, 1, none⟩) (hg.block Bh (World.block_lt_of_cell? _ _ h.2.2.1) (by intro e; cases e; exact h3 rfl))).trans h.2.2.2
set_option maxRecDepth 100000 in
set_option maxHeartbeats 8000000 in
theorem learnBy (b q : Nat) (L : List R) (me frm now will valid : Int) (a : Option Addr) (ns : List Nb.R) (capn : Nat) (w : World) (hL : twoB L = true) (hf : 1 ≤ frm ∧ frm ≤ 8) (hn : 0 ≤ now ∧ now ≤ 1000000) (hh : Hl.helB will valid ns = true) (hq : q ≤ 64) (hom : OM w b q (findT L)) (hr : Nb.RM w a ns) :
    Calls Try.prog 59 #[.map (some b), .int .i64 me, .int .i64 frm, .int .i64 now, .agg #[.int .i64 will, .int .i64 valid, .slice a ns.length capn]] w fun e w' => e = .returned (.tuple #[]) ∧ OM w' b (q + ns.length) (findT (learnL L me frm now valid ns ns.length)) ∧ w.grownBy w' (some b) := by
  have hval := Hl.hel_valid hh
  have h8 := Hl.hel_len hh
  have HAL := hide (Hl.hel_all hh)
  have HTW := hide (learn_two (me := me) hL hf hn hval (unhide HAL))
  have hbl := hom.lt
  have HR := hide hr
  have HOM := hide hom
  clear hh hL hr hom
  obtain ⟨N, hN⟩ : ∃ N, ns.length = N := ⟨_, rfl⟩
  have HN := hide hN
  rw [hN] at h8 ⊢
  clear hN
  generalize hn' : N = n at *
  clear hn'
  have O1 : Hid (OM (w.alloc (.cells #[.int .i64 will, .int .i64 valid, .slice a n capn] 38)) b (q + 0) (findT (learnL L me frm now valid ns 0))) := hide ((unhide HOM).below ((Below.refl _ _).alloc (Nat.le_refl _) _))
  have G1 : Hid (w.grownBy (w.alloc (.cells #[.int .i64 will, .int .i64 valid, .slice a n capn] 38)) (some b)) := hide (World.grownBy_alloc w _ _)
  have X1 : Hid (Bx3 (w.alloc (.cells #[.int .i64 will, .int .i64 valid, .slice a n capn] 38)) w.heap.size will valid (.slice a n capn)) := hide (bx3_new w will valid _ _)
  go_enter Try.func59, Try.ntmps59
  go_wp2_with fail
  go_loopw [16] (fun i wr => ∃ j : Nat, j ≤ n ∧ i = .int .i64 j ∧ Hid (OM wr b (q + j) (findT (learnL L me frm now valid ns j))) ∧ Hid (w.grownBy wr (some b)) ∧ Hid (Bx3 wr w.heap.size will valid (.slice a n capn))) (fun i _ => n - (intOf i).toNat)
  case atStart => exact ⟨0, by omega, rfl, O1, G1, X1⟩
  case round =>
    obtain ⟨j, hj, rfl, hom, hgr, hbx⟩ := hrel
    by_cases hlt : (j : Int) < (n : Int)
    · have k0 : (0 : Int) ≤ (j : Int) := by omega
      have hlen : j < ns.length := by rw [unhide HN]; omega
      obtain ⟨g, off, rfl⟩ := (unhide HR).form (by omega)
      have hA0 := (unhide HR).at hlen
      have hA := nb_but hA0 ((unhide hgr).block g (nb_lt hA0) (by intro e; cases e; exact nb_ne (unhide HOM) hA0 rfl))
      have hgs := (unhide hgr).size
      have HY : Hid (isNew me frm (ns.getD j Nb.R.zero) = true → learnL L me frm now valid ns (j + 1) = putL (learnL L me frm now valid ns j) (tupT frm now valid (ns.getD j Nb.R.zero))) := hide (fun h => learn_yes hlen h)
      have HZ : Hid (isNew me frm (ns.getD j Nb.R.zero) = false → learnL L me frm now valid ns (j + 1) = learnL L me frm now valid ns j) := hide (fun h => learn_no hlen h)
      have HTO : Hid (isNew me frm (ns.getD j Nb.R.zero) = true → okR (tupT frm now valid (ns.getD j Nb.R.zero)) = true ∧ okK (tupT frm now valid (ns.getD j Nb.R.zero)) = true ∧ hv (tupT frm now valid (ns.getD j Nb.R.zero)) = frm ∧ ha (tupT frm now valid (ns.getD j Nb.R.zero)) = (ns.getD j Nb.R.zero).ad) := hide (fun h => tup_ok hf hn hval (Ri.all_ok (unhide HAL) hlen) h)
      have had := Hl.ok_ad (Ri.all_ok (unhide HAL) hlen)
      have HT1 := hide (unhide HTW j (by omega))
      clear hA0
      generalize ns.getD j Nb.R.zero = m at *
      obtain ⟨ad, st, mt, mp⟩ := m
      obtain ⟨c0, c1, c2, c3⟩ := hA
      dsimp only at c0 c1 c2 c3 had
      have B1 : Hid (Below wr.heap.size wr (wr.alloc (.cells #[.int .i64 ad, .int .i64 st, .int .i64 mt, .bool mp] 48))) := hide ((Below.refl _ _).alloc (Nat.le_refl _) _)
      have HO1 := hide ((unhide hom).below (unhide B1))
      have HX1 := hide ((unhide hbx).below (unhide B1))
      have HG1 := hide ((unhide hgr).trans (World.grownBy_alloc wr (.cells #[.int .i64 ad, .int .i64 st, .int .i64 mt, .bool mp] 48) (some b)))
      have HNA : Hid (Nb.At (wr.alloc (.cells #[.int .i64 ad, .int .i64 st, .int .i64 mt, .bool mp] 48)) wr.heap.size 0 ⟨ad, st, mt, mp⟩) := hide (by refine ⟨?_, ?_, ?_, ?_⟩ <;> simp [World.cell?_alloc_new])
      cases hnew : isNew me frm ⟨ad, st, mt, mp⟩
      · have E1 := unhide HZ hnew
        have HO2 : Hid (OM (wr.alloc (.cells #[.int .i64 ad, .int .i64 st, .int .i64 mt, .bool mp] 48)) b (q + (j + 1)) (findT (learnL L me frm now valid ns (j + 1)))) := hide (by rw [E1]; exact (unhide HO1).mono (by omega))
        clear E1 HY HZ HTO
        have hcs : (st == 2) = false ∨ (st == 2) = true ∧ ((ad != me) = false ∨ (ad != me) = true ∧ (ad != frm) = false) := by
          unfold isNew at hnew; dsimp only at hnew
          cases e1 : (st == 2)
          · exact .inl rfl
          · right; refine ⟨rfl, ?_⟩
            cases e2 : (ad != me)
            · exact .inl rfl
            · right; refine ⟨rfl, ?_⟩
              rw [e1, e2] at hnew; simpa using hnew
        clear hnew
        rcases hcs with q1 | ⟨q1, q2 | ⟨q2, q3⟩⟩
        all_goals
          go_wp2_with fail
          go_roundw
          case rel => exact ⟨j + 1, by omega, by go_num, HO2, HG1, HX1⟩
          case measure => simp [intOf]; omega
      · have E1 := unhide HY hnew
        obtain ⟨t1, t2, t3, t4⟩ := unhide HTO hnew
        have HPF : Hid (updT (findT (learnL L me frm now valid ns j)) frm ad ⟨100 * frm + ad, now + valid, mt⟩ = findT (learnL L me frm now valid ns (j + 1))) := hide (by
          have hl := two_len (unhide HT1)
          rw [E1, find_put (two_set (unhide HT1)) (by omega), t3, t4]; rfl)
        clear E1 HY HZ HTO t1 t2 t3 t4
        obtain ⟨q1, q2, q3⟩ : (st == 2) = true ∧ (ad != me) = true ∧ (ad != frm) = true := by unfold isNew at hnew; dsimp only at hnew; rw [Bool.and_eq_true, Bool.and_eq_true] at hnew; exact hnew
        clear hnew
        have B2 : Hid (Below (wr.alloc (.cells #[.int .i64 ad, .int .i64 st, .int .i64 mt, .bool mp] 48)).heap.size (wr.alloc (.cells #[.int .i64 ad, .int .i64 st, .int .i64 mt, .bool mp] 48)) ((wr.alloc (.cells #[.int .i64 ad, .int .i64 st, .int .i64 mt, .bool mp] 48)).alloc (.cells #[.int .i64 frm, .int .i64 ad] 98))) := hide ((Below.refl _ _).alloc (Nat.le_refl _) _)
        have HO2 := hide ((unhide HO1).below (unhide B2))
        have HG2 := hide ((unhide HG1).trans (World.grownBy_alloc (wr.alloc (.cells #[.int .i64 ad, .int .i64 st, .int .i64 mt, .bool mp] 48)) (.cells #[.int .i64 frm, .int .i64 ad] 98) (some b)))
        have HSL : Hid (SL ((wr.alloc (.cells #[.int .i64 ad, .int .i64 st, .int .i64 mt, .bool mp] 48)).alloc (.cells #[.int .i64 frm, .int .i64 ad] 98)) w.heap.size wr.heap.size (wr.heap.size + 1) will valid (.slice (some ⟨g, off, none⟩) n capn) ⟨ad, st, mt, mp⟩ frm) := hide ⟨(unhide HX1).below (unhide B2), (unhide HNA).below (unhide B2), by rw [show wr.heap.size + 1 = (wr.alloc (.cells #[.int .i64 ad, .int .i64 st, .int .i64 mt, .bool mp] 48)).heap.size by simp]; simp [World.cell?_alloc_new], by rw [show wr.heap.size + 1 = (wr.alloc (.cells #[.int .i64 ad, .int .i64 st, .int .i64 mt, .bool mp] 48)).heap.size by simp]; simp [World.cell?_alloc_new]⟩
        have hb1 : b < wr.heap.size := by omega
        have hwr : IntKind.i64.wrap (now + valid) = now + valid := by rw [IntKind.wrap_i64]; omega
        clear B1 B2 HO1 HX1 HG1 HNA
        go_wp2_with fail
        generalize hW : (wr.alloc (.cells #[.int .i64 ad, .int .i64 st, .int .i64 mt, .bool mp] 48)).alloc (.cells #[.int .i64 frm, .int .i64 ad] 98) = W0 at *
        clear hW c0 c1 c2 c3
        refine wp_region_noPanic ?_
        refine wp_region_held_drew (S := fun w' => SL w' w.heap.size wr.heap.size (wr.heap.size + 1) will valid (.slice (some ⟨g, off, none⟩) n capn) ⟨ad, st, mt, mp⟩ frm ∧ w'.cell? ⟨w.heap.size, 1, none⟩ = some (.int .i64 valid) ∧ w'.cell? ⟨wr.heap.size, 2, none⟩ = some (.int .i64 mt) ∧ w'.cell? ⟨wr.heap.size + 1, 0, none⟩ = some (.int .i64 frm) ∧ w'.cell? ⟨wr.heap.size + 1, 1, none⟩ = some (.int .i64 ad)) (by kernel_rfl) (sL (unhide HSL).drew) (fun hHeld => ?_)
        (refine Rg.tk (i := 0) (d := 39) (v := ?_) rfl rfl (by kernel_rfl) (by kernel_rfl) (by kernel_rfl) (fun _ _ _ h => h) (by rfl) ?_ (by assumption) ?_; rotate_left; (focus (intro w0 hSw; (try dsimp only at hSw); go_simp; (try with_reducible rfl))); (try simp only [Act.put, List.setIfInBounds_toArray, List.set_cons_zero, List.set_cons_succ]))
        (refine Rg.tk (i := 1) (d := 40) (v := ?_) rfl rfl (by kernel_rfl) (by kernel_rfl) (by kernel_rfl) (fun _ _ _ h => h) (by rfl) ?_ (by assumption) ?_; rotate_left; (focus (intro w0 hSw; (try dsimp only at hSw); go_simp; (try with_reducible rfl))); (try simp only [Act.put, List.setIfInBounds_toArray, List.set_cons_zero, List.set_cons_succ]))
        (refine Rg.tk (i := 2) (d := 41) (v := ?_) rfl rfl (by kernel_rfl) (by kernel_rfl) (by kernel_rfl) (fun _ _ _ h => h) (by rfl) ?_ (by assumption) ?_; rotate_left; (focus (intro w0 hSw; (try dsimp only at hSw); go_simp; (try with_reducible rfl))); (try simp only [Act.put, List.setIfInBounds_toArray, List.set_cons_zero, List.set_cons_succ]))
        (refine Rg.tk (i := 4) (d := 43) (v := ?_) rfl rfl (by kernel_rfl) (by kernel_rfl) (by kernel_rfl) (fun _ _ _ h => h) (by rfl) ?_ (by assumption) ?_; rotate_left; (focus (intro w0 hSw; (try dsimp only at hSw); go_simp; (try with_reducible rfl))); (try simp only [Act.put, List.setIfInBounds_toArray, List.set_cons_zero, List.set_cons_succ]))
        (refine Rg.tk (i := 5) (d := 44) (v := ?_) rfl rfl (by kernel_rfl) (by kernel_rfl) (by kernel_rfl) (fun _ _ _ h => h) (by rfl) ?_ (by assumption) ?_; rotate_left; (focus (intro w0 hSw; (try dsimp only at hSw); go_simp; (try with_reducible rfl))); (try simp only [Act.put, List.setIfInBounds_toArray, List.set_cons_zero, List.set_cons_succ]))
        (refine Rg.tk (i := 6) (d := 45) (v := ?_) rfl rfl (by kernel_rfl) (by kernel_rfl) (by kernel_rfl) (fun _ _ _ h => h) (by rfl) ?_ (by assumption) ?_; rotate_left; (focus (intro w0 hSw; (try dsimp only at hSw); go_simp; (try with_reducible rfl))); (try simp only [Act.put, List.setIfInBounds_toArray, List.set_cons_zero, List.set_cons_succ]))
        (refine Rg.tk (i := 7) (d := 46) (v := ?_) rfl rfl (by kernel_rfl) (by kernel_rfl) (by kernel_rfl) (fun _ _ _ h => h) (by rfl) ?_ (by assumption) ?_; rotate_left; (focus (intro w0 hSw; (try dsimp only at hSw); go_simp; (try with_reducible rfl))); (try simp only [Act.put, List.setIfInBounds_toArray, List.set_cons_zero, List.set_cons_succ]))
        (refine Rg.tk (i := 8) (d := 47) (v := ?_) rfl rfl (by kernel_rfl) (by kernel_rfl) (by kernel_rfl) (fun _ _ _ h => h) (by rfl) ?_ (by assumption) ?_; rotate_left; (focus (intro w0 hSw; (try dsimp only at hSw); go_simp; (try with_reducible rfl))); (try simp only [Act.put, List.setIfInBounds_toArray, List.set_cons_zero, List.set_cons_succ]))
        (refine Rg.tk (i := 9) (d := 48) (v := ?_) rfl rfl (by kernel_rfl) (by kernel_rfl) (by kernel_rfl) (fun _ _ _ h => h) (by rfl) ?_ (by assumption) ?_; rotate_left; (focus (intro w0 hSw; (try dsimp only at hSw); go_simp; (try with_reducible rfl))); (try simp only [Act.put, List.setIfInBounds_toArray, List.set_cons_zero, List.set_cons_succ]))
        (refine wpAnyH_ready (rs := [3]) (by kernel_rfl) (by simp) ?_; refine AllReadyH.cons (o := _) rfl (fun K hK => ?_) AllReadyH.nil; go_simp)
        refine (keyOfHop frm ad _ (by omega) (by omega) (by omega) (by omega)).mono ?_
        rintro e w2 ⟨rfl, b2_⟩
        have b2 : Below W0.heap.size W0 w2 := (Below.refl _ _).drew.trans b2_
        have HS2 := hide ((unhide HSL).below b2)
        have HO3 := hide ((unhide HO2).below b2)
        have HG3 : Hid (w.grownBy w2 (some b)) := hide ((unhide HG2).trans ⟨b2.os, b2.tape, b2.output, b2.size, fun i hi _ => b2.block i hi⟩)
        clear b2 b2_ hHeld
        refine hK.out _ _ (sL (unhide HS2)) (fun hHeld => ?_)
        clear hK K
        (try simp only [Act.put, List.setIfInBounds_toArray, List.set_cons_zero, List.set_cons_succ])
        (refine Rg.tk (i := 10) (d := 49) (v := ?_) rfl rfl (by kernel_rfl) (by kernel_rfl) (by kernel_rfl) (fun _ _ _ h => h) (by rfl) ?_ (by assumption) ?_; rotate_left; (focus (intro w0 hSw; (try dsimp only at hSw); go_simp; (try with_reducible rfl))); (try simp only [Act.put, List.setIfInBounds_toArray, List.set_cons_zero, List.set_cons_succ]))
        (refine wpAnyH_ready (rs := [11]) (by kernel_rfl) (by simp) ?_; refine AllReadyH.cons (o := _) rfl (fun K hK => ?_) AllReadyH.nil; rw [if_pos (by rfl)])
        refine wp_put _ _ _ _ rfl rfl b (q + j) _ rfl (unhide HO3) (by unfold maxLen; omega) frm ad (WalkArith.wf_i64 ⟨by omega, by omega⟩) (WalkArith.wf_i64 ⟨by omega, by omega⟩) ⟨100 * frm + ad, now + valid, mt⟩ rfl rfl ?_
        intro w6 om6 g6
        have HO6 : Hid (OM w6 b (q + (j + 1)) (findT (learnL L me frm now valid ns (j + 1)))) := hide ((unhide HPF) ▸ om6)
        have HS6 := hide ((unhide HS2).grown g6 (by omega) (by omega) (by omega))
        have HG6 := hide ((unhide HG3).trans g6)
        have HX6 := hide (unhide HS6).1
        clear om6 g6 hHeld
        refine hK.out _ _ (sL (unhide HS6)) (fun hHeld => ?_)
        clear hK K hHeld
        (try simp only [Act.put, List.setIfInBounds_toArray, List.set_cons_zero, List.set_cons_succ])
        refine wpAnyH_done (by kernel_rfl) (NoPanic.normal ?_) _
        go_wp2_with fail
        go_roundw
        case rel => exact ⟨j + 1, by omega, by go_num, HO6, HG6, HX6⟩
        case measure => simp [intOf]; omega
    · obtain rfl : j = n := by omega
      go_wp2_with fail
      refine bodyPost_end (v := .tuple #[]) (by simp [results, Try.results59, go_sem]) rfl ⟨rfl, unhide hom, unhide hgr⟩
end Tw
end Go.Proofs.Ytmelbilepfnmjab
