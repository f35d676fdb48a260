/-
  Proved here: for every argument, laws.FnExactNeighborOf returns true (the program's NeighborOf answers as its model, leaves its argument alone, and what it answers is its own), and leaves what came in as it was. No condition. (The walk is written by mkhlaw.py.)
-/
import Derived.Test.YtmelbilepfnmjakHelN
import Derived.Test.YtmelbilepfnmjakStrHello
namespace Go.Proofs.Ytmelbilepfnmjak.fnExactNeighborOf
open Go.ChangeShapes Go.WideShapes Go.ChangeAt Go.RowKit
open W1 Hl
set_option linter.unusedVariables false
theorem own : ownKnob Try.prog.godebug = none := by kernel_rfl
theorem laidOut : laidOutB Try.prog = true := by kernel_rfl

theorem sHH {w : World} {b b' : Nat} {x y x' y' : Int} {v v' : Value} (h : Bx3 w b x y v) (h' : Bx3 w b' x' y' v') :
    (Bx3 w b x y v ∧ Bx3 w b' x' y' v') ∧ w.cell? ⟨b, 0, none⟩ = some (.int .i64 x) ∧ w.cell? ⟨b, 1, none⟩ = some (.int .i64 y) ∧ w.cell? ⟨b, 2, none⟩ = some v ∧ w.cell? ⟨b', 0, none⟩ = some (.int .i64 x') ∧ w.cell? ⟨b', 1, none⟩ = some (.int .i64 y') ∧ w.cell? ⟨b', 2, none⟩ = some v' := ⟨⟨h, h'⟩, h.1, h.2.1, h.2.2, h'.1, h'.2.1, h'.2.2⟩
set_option maxRecDepth 100000 in
set_option maxHeartbeats 8000000 in
theorem walk (x y : Int) (a : Option Addr) (ms : List Nb.R) (cap : Nat) (hm : ms.length ≤ maxLen) (k : Int) (wf_k : (Lit.int .i64 k).wf = true) (w : World) (hr : Nb.RM w a ms) :
    Calls Try.prog 7 #[.agg #[.int .i64 x, .int .i64 y, .slice a ms.length cap], .int .i64 k] w fun e w' => e = .returned (.bool true) ∧ Below w.heap.size w w' := by
  have HR := hide hr
  clear hr
  have HBA : Hid (Below w.heap.size w (w.alloc (.cells #[.int .i64 x, .int .i64 y, .slice a ms.length cap] 33))) := hide ((Below.refl _ _).alloc (Nat.le_refl _) _)
  have HQ : Hid (Bx3 (w.alloc (.cells #[.int .i64 x, .int .i64 y, .slice a ms.length cap] 33)) w.heap.size x y (.slice a ms.length cap)) := hide (bx3_new _ _ _ _ _)
  go_enter Try.func7, Try.ntmps7
  go_wp2_with fail
  refine (Hs.sz x y a ms.length cap 1048576 _ (by omega) (by omega) hm).mono ?_
  rintro e w1 ⟨r, rfl, b1, hr01⟩
  have B1 : Below w.heap.size w w1 := (unhide HBA).trans (b1.mono (unhide HBA).size)
  have Q1 := hide ((unhide HQ).below b1)
  have hq1 : w.heap.size < w1.heap.size := (unhide Q1).lt
  clear HBA HQ b1
  rcases hr01 with hr0 | ⟨hr0, hr1⟩
  · go_wp2_with fail
    go_ret
    exact ⟨rfl, B1⟩
  have hnn : ¬ r < 0 := by omega
  have hml : ms.length ≤ 1048576 := by omega
  clear hr1 hm
  obtain ⟨zQ0, zQ1, zQ2⟩ := unhide Q1
  go_wp2_with fail
  clear zQ0 zQ1 zQ2
  refine (Hs.to x y a ms cap _ hml ((unhide HR).below B1)).mono ?_
  rintro e w2 ⟨g2, rfl, b2, hg2, hz2, u2⟩
  have B2 := B1.trans (b2.mono B1.size)
  have sz2 : w1.heap.size ≤ w2.heap.size := b2.size
  have Q2 := hide ((unhide Q1).below b2)
  clear Q1
  have S2 : Hid (Nb.Lst w2 (some ⟨g2, 0, none⟩) ms w1.heap.size w2.heap.size) := hide (.inr ⟨g2, rfl, hg2, hz2, hz2, u2⟩)
  clear u2
  go_wp2_with fail
  refine (specNbOf x y _ ms _ k _ hml (unhide S2).rm).mono ?_
  rintro e w3 ⟨rfl, b3⟩
  have B3 := B2.trans (b3.mono B2.size)
  have sz3 : w2.heap.size ≤ w3.heap.size := b3.size
  have Q3 := hide ((unhide Q2).below b3)
  have S3 := hide ((unhide S2).below b3)
  clear Q2 S2
  clear S3
  obtain ⟨A, hA⟩ : ∃ A, nbA x y ms k = A := ⟨_, rfl⟩
  obtain ⟨cd, hcd⟩ : ∃ cd, nbE x y ms k = cd := ⟨_, rfl⟩
  have HA := hide hA
  have HC := hide hcd
  rw [hA, hcd]
  clear hA hcd
  obtain ⟨ad, st, mt, mp⟩ := A
  unfold Nb.R.value
  dsimp only
  have hne : (cd != cd) = false := by simp
  obtain ⟨zQ0, zQ1, zQ2⟩ := unhide Q3
  have lQ := World.block_lt_of_cell? _ _ zQ0
  (try dsimp only at lQ)
  obtain ⟨w4, hw4⟩ : ∃ w4, w3.alloc (.cells #[.int .i64 ad, .int .i64 st, .int .i64 mt, .bool mp] 49) = w4 := ⟨_, rfl⟩
  have b4 : Below w3.heap.size w3 w4 := by rw [← hw4]; exact (Below.refl _ _).alloc (Nat.le_refl _) _
  have B4 := B3.trans (b4.mono B3.size)
  have sz4 : w3.heap.size ≤ w4.heap.size := b4.size
  have Q4 := hide ((unhide Q3).below b4)
  clear Q3
  have N4 : Hid (Hl.Bx w4 w3.heap.size ⟨ad, st, mt, mp⟩) := hide (by rw [← hw4]; exact Hl.bx_new _ ⟨ad, st, mt, mp⟩ _)
  have HW4 := hide hw4
  clear hw4
  go_wp2_with fail
  clear zQ0 zQ1 zQ2 lQ
  rw [unhide HW4]
  refine (Hs.to x y a ms cap _ hml ((unhide HR).below B4)).mono ?_
  rintro e w5 ⟨g5, rfl, b5, hg5, hz5, u5⟩
  have B5 := B4.trans (b5.mono B4.size)
  have sz5 : w4.heap.size ≤ w5.heap.size := b5.size
  have Q5 := hide ((unhide Q4).below b5)
  have N5 := hide ((unhide N4).below b5)
  clear Q4 N4
  have X5 : Hid (Nb.Lst w5 (some ⟨g5, 0, none⟩) ms w4.heap.size w5.heap.size) := hide (.inr ⟨g5, rfl, hg5, hz5, hz5, u5⟩)
  clear u5
  obtain ⟨w6, hw6⟩ : ∃ w6, w5.alloc (.cells #[.int .i64 x, .int .i64 y, .slice (some ⟨g5, 0, none⟩) ms.length ms.length] 38) = w6 := ⟨_, rfl⟩
  have b6 : Below w5.heap.size w5 w6 := by rw [← hw6]; exact (Below.refl _ _).alloc (Nat.le_refl _) _
  have B6 := B5.trans (b6.mono B5.size)
  have sz6 : w5.heap.size ≤ w6.heap.size := b6.size
  have Q6 := hide ((unhide Q5).below b6)
  have N6 := hide ((unhide N5).below b6)
  have X6 := hide ((unhide X5).below b6)
  clear Q5 N5 X5
  have V6 : Hid (Bx3 w6 w5.heap.size x y (.slice (some ⟨g5, 0, none⟩) ms.length ms.length)) := hide (by rw [← hw6]; exact bx3_new _ _ _ _ _)
  have HW6 := hide hw6
  clear hw6
  go_wp2_with fail
  rw [unhide HW6]
  refine (implNbOf x y _ ms _ k _ hml (unhide X6).rm).mono ?_
  rintro e w7 ⟨rfl, b7⟩
  have B7 := B6.trans (b7.mono B6.size)
  have sz7 : w6.heap.size ≤ w7.heap.size := b7.size
  have Q7 := hide ((unhide Q6).below b7)
  have N7 := hide ((unhide N6).below b7)
  have X7 := hide ((unhide X6).below b7)
  have V7 := hide ((unhide V6).below b7)
  clear Q6 N6 X6 V6
  rw [unhide HA, unhide HC]
  unfold Nb.R.value
  dsimp only
  obtain ⟨zN0, zN1, zN2, zN3⟩ := unhide N7
  dsimp only at zN0 zN1 zN2 zN3
  have lN := World.block_lt_of_cell? _ _ zN0
  (try dsimp only at lN)
  obtain ⟨w8, hw8⟩ : ∃ w8, w7.alloc (.cells #[.int .i64 ad, .int .i64 st, .int .i64 mt, .bool mp] 49) = w8 := ⟨_, rfl⟩
  have b8 : Below w7.heap.size w7 w8 := by rw [← hw8]; exact (Below.refl _ _).alloc (Nat.le_refl _) _
  have B8 := B7.trans (b8.mono B7.size)
  have sz8 : w7.heap.size ≤ w8.heap.size := b8.size
  have Q8 := hide ((unhide Q7).below b8)
  have N8 := hide ((unhide N7).below b8)
  have X8 := hide ((unhide X7).below b8)
  have V8 := hide ((unhide V7).below b8)
  clear Q7 N7 X7 V7
  have G8 : Hid (Hl.Bx w8 w7.heap.size ⟨ad, st, mt, mp⟩) := hide (by rw [← hw8]; exact Hl.bx_new _ ⟨ad, st, mt, mp⟩ _)
  have HW8 := hide hw8
  clear hw8
  go_wp2_with fail
  clear zN0 zN1 zN2 zN3 lN
  rw [unhide HW8]
  refine (Nb.eqR ad st mt mp _).mono ?_
  rintro e w9 ⟨rfl, b9⟩
  have B9 := B8.trans (b9.mono B8.size)
  have sz9 : w8.heap.size ≤ w9.heap.size := b9.size
  have Q9 := hide ((unhide Q8).below b9)
  have N9 := hide ((unhide N8).below b9)
  have X9 := hide ((unhide X8).below b9)
  have V9 := hide ((unhide V8).below b9)
  have G9 := hide ((unhide G8).below b9)
  clear Q8 N8 X8 V8 G8
  clear N9
  clear G9
  go_wp2_with fail
  refine wp_region_noPanic ?_
  refine wp_region_held_drew (S := fun w' => (Bx3 w' w.heap.size x y (.slice a ms.length cap) ∧ Bx3 w' w5.heap.size x y (.slice (some ⟨g5, 0, none⟩) ms.length ms.length)) ∧ w'.cell? ⟨w.heap.size, 0, none⟩ = some (.int .i64 x) ∧ w'.cell? ⟨w.heap.size, 1, none⟩ = some (.int .i64 y) ∧ w'.cell? ⟨w.heap.size, 2, none⟩ = some (.slice a ms.length cap) ∧ w'.cell? ⟨w5.heap.size, 0, none⟩ = some (.int .i64 x) ∧ w'.cell? ⟨w5.heap.size, 1, none⟩ = some (.int .i64 y) ∧ w'.cell? ⟨w5.heap.size, 2, none⟩ = some (.slice (some ⟨g5, 0, none⟩) ms.length ms.length)) (by kernel_rfl) (sHH (unhide Q9).drew (unhide V9).drew) (fun hHeld => ?_)
  (refine Rg.tk (i := 0) (d := 40) (v := ?_) rfl rfl (by kernel_rfl) (by kernel_rfl) (by kernel_rfl) (fun _ _ _ h => h) (by rfl) ?_ (by assumption) ?_; rotate_left; (focus (intro w0 hSw; (try dsimp only at hSw); go_simp; (try with_reducible rfl))); (try simp only [Act.put, List.setIfInBounds_toArray, List.set_cons_zero, List.set_cons_succ]))
  (refine Rg.tk (i := 1) (d := 41) (v := ?_) rfl rfl (by kernel_rfl) (by kernel_rfl) (by kernel_rfl) (fun _ _ _ h => h) (by rfl) ?_ (by assumption) ?_; rotate_left; (focus (intro w0 hSw; (try dsimp only at hSw); go_simp; (try with_reducible rfl))); (try simp only [Act.put, List.setIfInBounds_toArray, List.set_cons_zero, List.set_cons_succ]))
  (refine wpAnyH_ready (rs := [2]) (by kernel_rfl) (by simp) ?_; refine AllReadyH.cons (o := _) rfl (fun K hK => ?_) AllReadyH.nil; go_simp)
  refine (Hs.to x y a ms cap _ hml ((unhide HR).below B9.drew)).mono ?_
  rintro e w10 ⟨g10, rfl, b10_, hg10, hz10, u10⟩
  have b10 : Below w9.heap.size w9 w10 := (Below.refl _ _).drew.trans b10_
  have B10 := B9.trans (b10.mono B9.size)
  have sz10 : w9.heap.size ≤ w10.heap.size := b10.size
  clear b10_ hHeld
  have Q10 := hide ((unhide Q9).below b10)
  have X10 := hide ((unhide X9).below b10)
  have V10 := hide ((unhide V9).below b10)
  clear Q9 X9 V9
  have Y10 : Hid (Nb.Lst w10 (some ⟨g10, 0, none⟩) ms w9.heap.size w10.heap.size) := hide (.inr ⟨g10, rfl, hg10, hz10, hz10, u10⟩)
  clear u10
  refine hK.out _ _ (sHH (unhide Q10) (unhide V10)) (fun hHeld => ?_)
  clear hK K
  (try simp only [Act.put, List.setIfInBounds_toArray, List.set_cons_zero, List.set_cons_succ])
  (refine wpAnyH_ready (rs := [3]) (by kernel_rfl) (by simp) ?_; refine AllReadyH.cons (o := _) rfl (fun K hK => ?_) AllReadyH.nil; go_simp)
  refine (Hs.eq x y _ _ ms _ _ _ hml (unhide X10).rm (unhide Y10).rm).mono ?_
  rintro e w11 ⟨rfl, b11⟩
  have B11 := B10.trans (b11.mono B10.size)
  have sz11 : w10.heap.size ≤ w11.heap.size := b11.size
  have Q11 := hide ((unhide Q10).below b11)
  have X11 := hide ((unhide X10).below b11)
  have V11 := hide ((unhide V10).below b11)
  have Y11 := hide ((unhide Y10).below b11)
  clear Q10 X10 V10 Y10
  clear hHeld
  clear Y11
  refine hK.out _ _ (sHH (unhide Q11) (unhide V11)) (fun hHeld => ?_)
  clear hK K
  (try simp only [Act.put, List.setIfInBounds_toArray, List.set_cons_zero, List.set_cons_succ])
  (refine Rg.tk (i := 4) (d := 44) (v := ?_) rfl rfl (by kernel_rfl) (by kernel_rfl) (by kernel_rfl) (fun _ _ _ h => h) (by rfl) ?_ (by assumption) ?_; rotate_left; (focus (intro w0 hSw; (try dsimp only at hSw); go_simp; (try with_reducible rfl))); (try simp only [Act.put, List.setIfInBounds_toArray, List.set_cons_zero, List.set_cons_succ]))
  refine wpAnyH_done (by kernel_rfl) (NoPanic.normal ?_) _
  clear hHeld
  have HF := hide B11
  go_wp2_with fail
  go_ret
  exact ⟨rfl, unhide HF⟩

set_option maxRecDepth 100000 in
theorem lifted (os : Os) (started : os.Started) (H : Type) (enc : TypeId × Value → H) :
    ReturnsInHanded {} Try.checked os 7 .any (Rows.fnExactNeighborOfSpec.pre6 enc Try.prog Try.f7 Rows.fnExactNeighborOfRow.domain false) (Rows.fnExactNeighborOfSpec.post enc Try.prog Try.f7 false true false false) := by
  refine returnsInHanded_of_change (C := Try.checked) own started (by kernel_rfl) Try.func7
    (ChangeSpec.witness6 (enc := enc) (C := Try.checked) false ⟨#[], #[.agg #[.int .i64 0, .int .i64 0, .slice none 0 0], .int .i64 0], []⟩ 8 (by kernel_rfl) (by kernel_rfl) (by kernel_rfl) (by kernel_rfl)) ?_
  intro W base args ds gs before hval0 hW hcnd _
  have hval : ∀ (j : Nat) t v, Try.f7.params[j]? = some t → args[j]? = some v → Value.okWide Try.prog W .any base t v := hval0
  have hW' := hW
  obtain ⟨p, q, hA0, hV, rfl, hfz, hnd⟩ := hW
  have hA : DataW.TrodAll enc Try.prog W 0 (fun _ => true) true Try.f7.params.toList args.toList ds p := hA0
  rw [Try.params7] at hA hval
  obtain ⟨v0, vs0, d0, ds0, p0, q0, hargs0, rfl, rfl, h0, r0⟩ := trodAll_cons hA
  obtain ⟨v1, vs1, d1, ds1, p1, q1, hargs1, rfl, rfl, h1, r1⟩ := trodAll_cons r0
  obtain ⟨rfl, rfl, rfl⟩ := trodAll_nil r1
  obtain rfl : args = #[v0, v1] := by cases args; simp_all
  obtain ⟨rfl, rfl⟩ := trodVars_none hV
  have k0 := h0
  have lt0 : ∀ x ∈ p0, x.block < W.heap.size := by obtain ⟨m, hm⟩ := k0; exact DataW.trod_lt m _ _ _ hm
  have k1 := h1
  have lt1 : ∀ x ∈ p1, x.block < W.heap.size := by obtain ⟨m, hm⟩ := k1; exact DataW.trod_lt m _ _ _ hm
  obtain ⟨x0, y0, a0, len0, cap0, ms0, rfl, hlen0, hmx0, hrd0⟩ := Hs.open_str (hval 0 33 v0 rfl rfl) h0
  subst hlen0
  obtain ⟨n1, rfl, _, _, wf1⟩ := open_int Try.underlying3 (hval 1 3 v1 rfl rfl) h1
  clear hA0 hval0
  refine (walk x0 y0 a0 ms0 cap0 hmx0 n1 wf1 W hrd0).mono fun e W' ⟨he, bel⟩ => ?_
  subst he
  exact ⟨_, rfl, _, _, _, [], _, [], hW', trodAll_mk1 (shut_bool Try.underlying4 _), (trodAll_cons_mk (Below.trod laidOut (by kernel_rfl) (of_decide_eq_true (by kernel_rfl)) k0 bel lt0) (trodAll_cons_mk (Below.trod laidOut (by kernel_rfl) (of_decide_eq_true (by kernel_rfl)) k1 bel lt1) trodAll_mk0)), rfl, bel.frame _, fun h => by cases h⟩

theorem over : Rows.fnExactNeighborOfRow.holds Try.pinned (OpenSpec.ofChange Rows.fnExactNeighborOfSpec) :=
  OpenClaim.holds_of_wide 7 Try.f7 rfl rfl rfl rfl rfl rfl rfl ⟨rfl, rfl, rfl, rfl, rfl⟩ rfl rfl rfl rfl rfl (by kernel_rfl) Try.func7 (by kernel_rfl)
    (of_decide_eq_true (by kernel_rfl)) (by unfold Func.isWrapper; first | (rw [if_pos (by decide +kernel)]; kernel_rfl) | (rw [if_neg (by decide +kernel)]; exact ⟨rfl, rfl⟩))
    (fun os started H enc _ => lifted os started H enc)
end Go.Proofs.Ytmelbilepfnmjak.fnExactNeighborOf
namespace Go.Proofs.Ytmelbilepfnmjak
/-- At every argument the program's NeighborOf answers as its model. -/
theorem fnExactNeighborOf_holds : Rows.FnExactNeighborOfSaid := fnExactNeighborOf.over
end Go.Proofs.Ytmelbilepfnmjak
