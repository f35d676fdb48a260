/-
  Proved here: for every argument, laws.FnExactSymOf returns true (the program's SymOf answers as its model, leaves its argument alone, and what it answers is its own), and leaves what came in as it was. No condition. (The walk is written by mkhlaw.py.)
-/
import Derived.Test.YtmelbilepfnmjakHelS
import Derived.Test.YtmelbilepfnmjakStrHello
namespace Go.Proofs.Ytmelbilepfnmjak.fnExactSymOf
open Go.ChangeShapes Go.WideShapes Go.ChangeAt Go.RowKit
open W1 Hl
set_option linter.unusedVariables false
theorem own : ownKnob Try.prog.godebug = none := by kernel_rfl
theorem laidOut : laidOutB Try.prog = true := by kernel_rfl

theorem sHH {w : World} {b b' : Nat} {x y x' y' : Int} {v v' : Value} (h : Bx3 w b x y v) (h' : Bx3 w b' x' y' v') :
    (Bx3 w b x y v ∧ Bx3 w b' x' y' v') ∧ w.cell? ⟨b, 0, none⟩ = some (.int .i64 x) ∧ w.cell? ⟨b, 1, none⟩ = some (.int .i64 y) ∧ w.cell? ⟨b, 2, none⟩ = some v ∧ w.cell? ⟨b', 0, none⟩ = some (.int .i64 x') ∧ w.cell? ⟨b', 1, none⟩ = some (.int .i64 y') ∧ w.cell? ⟨b', 2, none⟩ = some v' := ⟨⟨h, h'⟩, h.1, h.2.1, h.2.2, h'.1, h'.2.1, h'.2.2⟩
set_option maxRecDepth 100000 in
set_option maxHeartbeats 8000000 in
theorem walk (x y : Int) (a : Option Addr) (ms : List Nb.R) (cap : Nat) (hm : ms.length ≤ maxLen) (w : World) (hr : Nb.RM w a ms) :
    Calls Try.prog 8 #[.agg #[.int .i64 x, .int .i64 y, .slice a ms.length cap]] w fun e w' => e = .returned (.bool true) ∧ Below w.heap.size w w' := by
  have HR := hide hr
  clear hr
  have HBA : Hid (Below w.heap.size w (w.alloc (.cells #[.int .i64 x, .int .i64 y, .slice a ms.length cap] 33))) := hide ((Below.refl _ _).alloc (Nat.le_refl _) _)
  have HQ : Hid (Bx3 (w.alloc (.cells #[.int .i64 x, .int .i64 y, .slice a ms.length cap] 33)) w.heap.size x y (.slice a ms.length cap)) := hide (bx3_new _ _ _ _ _)
  go_enter Try.func8, Try.ntmps8
  go_wp2_with fail
  refine (Hs.sz x y a ms.length cap 1048576 _ (by omega) (by omega) hm).mono ?_
  rintro e w1 ⟨r, rfl, b1, hr01⟩
  have B1 : Below w.heap.size w w1 := (unhide HBA).trans (b1.mono (unhide HBA).size)
  have Q1 := hide ((unhide HQ).below b1)
  have hq1 : w.heap.size < w1.heap.size := (unhide Q1).lt
  clear HBA HQ b1
  rcases hr01 with hr0 | ⟨hr0, hr1⟩
  · go_wp2_with fail
    go_ret
    exact ⟨rfl, B1⟩
  have hnn : ¬ r < 0 := by omega
  have hml : ms.length ≤ 1048576 := by omega
  clear hr1 hm
  have hol : (symA x y ms).length ≤ 1048576 := (Nat.le_trans (sym_len x y ms) hml)
  obtain ⟨zQ0, zQ1, zQ2⟩ := unhide Q1
  go_wp2_with fail
  clear zQ0 zQ1 zQ2
  refine (Hs.to x y a ms cap _ hml ((unhide HR).below B1)).mono ?_
  rintro e w2 ⟨g2, rfl, b2, hg2, hz2, u2⟩
  have B2 := B1.trans (b2.mono B1.size)
  have sz2 : w1.heap.size ≤ w2.heap.size := b2.size
  have Q2 := hide ((unhide Q1).below b2)
  clear Q1
  have S2 : Hid (Nb.Lst w2 (some ⟨g2, 0, none⟩) ms w1.heap.size w2.heap.size) := hide (.inr ⟨g2, rfl, hg2, hz2, hz2, u2⟩)
  clear u2
  go_wp2_with fail
  refine (specSymOf x y _ ms _ _ hml (unhide S2).rm).mono ?_
  rintro e w3 ⟨v3, rfl, b3, l3⟩
  have B3 := B2.trans (b3.mono B2.size)
  have sz3 : w2.heap.size ≤ w3.heap.size := b3.size
  have Q3 := hide ((unhide Q2).below b3)
  have S3 := hide ((unhide S2).below b3)
  clear Q2 S2
  obtain ⟨a3, c3, rfl, L3⟩ := l3
  have W3 := hide L3
  clear L3
  clear S3
  obtain ⟨cd, hcd⟩ : ∃ cd, symE x y ms = cd := ⟨_, rfl⟩
  have HC := hide hcd
  rw [hcd]
  clear hcd
  have hne : (cd != cd) = false := by simp
  obtain ⟨zQ0, zQ1, zQ2⟩ := unhide Q3
  go_wp2_with fail
  clear zQ0 zQ1 zQ2
  refine (Hs.to x y a ms cap _ hml ((unhide HR).below B3)).mono ?_
  rintro e w4 ⟨g4, rfl, b4, hg4, hz4, u4⟩
  have B4 := B3.trans (b4.mono B3.size)
  have sz4 : w3.heap.size ≤ w4.heap.size := b4.size
  have Q4 := hide ((unhide Q3).below b4)
  have W4 := hide ((unhide W3).below b4)
  clear Q3 W3
  have X4 : Hid (Nb.Lst w4 (some ⟨g4, 0, none⟩) ms w3.heap.size w4.heap.size) := hide (.inr ⟨g4, rfl, hg4, hz4, hz4, u4⟩)
  clear u4
  obtain ⟨w5, hw5⟩ : ∃ w5, w4.alloc (.cells #[.int .i64 x, .int .i64 y, .slice (some ⟨g4, 0, none⟩) ms.length ms.length] 38) = w5 := ⟨_, rfl⟩
  have b5 : Below w4.heap.size w4 w5 := by rw [← hw5]; exact (Below.refl _ _).alloc (Nat.le_refl _) _
  have B5 := B4.trans (b5.mono B4.size)
  have sz5 : w4.heap.size ≤ w5.heap.size := b5.size
  have Q5 := hide ((unhide Q4).below b5)
  have W5 := hide ((unhide W4).below b5)
  have X5 := hide ((unhide X4).below b5)
  clear Q4 W4 X4
  have V5 : Hid (Bx3 w5 w4.heap.size x y (.slice (some ⟨g4, 0, none⟩) ms.length ms.length)) := hide (by rw [← hw5]; exact bx3_new _ _ _ _ _)
  have HW5 := hide hw5
  clear hw5
  have hqx : w.heap.size < w3.heap.size := by omega
  go_wp2_with fail
  rw [unhide HW5]
  refine (implSymOf x y _ ms _ _ hml (unhide X5).rm).mono ?_
  rintro e w6 ⟨v6, rfl, b6, l6⟩
  have B6 := B5.trans (b6.mono B5.size)
  have sz6 : w5.heap.size ≤ w6.heap.size := b6.size
  have Q6 := hide ((unhide Q5).below b6)
  have W6 := hide ((unhide W5).below b6)
  have X6 := hide ((unhide X5).below b6)
  have V6 := hide ((unhide V5).below b6)
  clear Q5 W5 X5 V5
  obtain ⟨a6, c6, rfl, L6⟩ := l6
  have G6 := hide L6
  clear L6
  rw [unhide HC]
  go_wp2_with fail
  refine (In.eqS _ _ (symA x y ms) _ _ _ hol (unhide G6).rm (unhide W6).rm).mono ?_
  rintro e w7 ⟨rfl, b7⟩
  have B7 := B6.trans (b7.mono B6.size)
  have sz7 : w6.heap.size ≤ w7.heap.size := b7.size
  have Q7 := hide ((unhide Q6).below b7)
  have W7 := hide ((unhide W6).below b7)
  have X7 := hide ((unhide X6).below b7)
  have V7 := hide ((unhide V6).below b7)
  have G7 := hide ((unhide G6).below b7)
  clear Q6 W6 X6 V6 G6
  go_wp2_with fail
  refine wp_region_noPanic ?_
  refine wp_region_held_drew (S := fun w' => (Bx3 w' w.heap.size x y (.slice a ms.length cap) ∧ Bx3 w' w4.heap.size x y (.slice (some ⟨g4, 0, none⟩) ms.length ms.length)) ∧ w'.cell? ⟨w.heap.size, 0, none⟩ = some (.int .i64 x) ∧ w'.cell? ⟨w.heap.size, 1, none⟩ = some (.int .i64 y) ∧ w'.cell? ⟨w.heap.size, 2, none⟩ = some (.slice a ms.length cap) ∧ w'.cell? ⟨w4.heap.size, 0, none⟩ = some (.int .i64 x) ∧ w'.cell? ⟨w4.heap.size, 1, none⟩ = some (.int .i64 y) ∧ w'.cell? ⟨w4.heap.size, 2, none⟩ = some (.slice (some ⟨g4, 0, none⟩) ms.length ms.length)) (by kernel_rfl) (sHH (unhide Q7).drew (unhide V7).drew) (fun hHeld => ?_)
  (refine Rg.tk (i := 0) (d := 41) (v := ?_) rfl rfl (by kernel_rfl) (by kernel_rfl) (by kernel_rfl) (fun _ _ _ h => h) (by rfl) ?_ (by assumption) ?_; rotate_left; (focus (intro w0 hSw; (try dsimp only at hSw); go_simp; (try with_reducible rfl))); (try simp only [Act.put, List.setIfInBounds_toArray, List.set_cons_zero, List.set_cons_succ]))
  (refine Rg.tk (i := 1) (d := 42) (v := ?_) rfl rfl (by kernel_rfl) (by kernel_rfl) (by kernel_rfl) (fun _ _ _ h => h) (by rfl) ?_ (by assumption) ?_; rotate_left; (focus (intro w0 hSw; (try dsimp only at hSw); go_simp; (try with_reducible rfl))); (try simp only [Act.put, List.setIfInBounds_toArray, List.set_cons_zero, List.set_cons_succ]))
  (refine wpAnyH_ready (rs := [2]) (by kernel_rfl) (by simp) ?_; refine AllReadyH.cons (o := _) rfl (fun K hK => ?_) AllReadyH.nil; go_simp)
  refine (Hs.to x y a ms cap _ hml ((unhide HR).below B7.drew)).mono ?_
  rintro e w8 ⟨g8, rfl, b8_, hg8, hz8, u8⟩
  have b8 : Below w7.heap.size w7 w8 := (Below.refl _ _).drew.trans b8_
  have B8 := B7.trans (b8.mono B7.size)
  have sz8 : w7.heap.size ≤ w8.heap.size := b8.size
  clear b8_ hHeld
  have Q8 := hide ((unhide Q7).below b8)
  have W8 := hide ((unhide W7).below b8)
  have X8 := hide ((unhide X7).below b8)
  have V8 := hide ((unhide V7).below b8)
  have G8 := hide ((unhide G7).below b8)
  clear Q7 W7 X7 V7 G7
  have Y8 : Hid (Nb.Lst w8 (some ⟨g8, 0, none⟩) ms w7.heap.size w8.heap.size) := hide (.inr ⟨g8, rfl, hg8, hz8, hz8, u8⟩)
  clear u8
  refine hK.out _ _ (sHH (unhide Q8) (unhide V8)) (fun hHeld => ?_)
  clear hK K
  (try simp only [Act.put, List.setIfInBounds_toArray, List.set_cons_zero, List.set_cons_succ])
  (refine wpAnyH_ready (rs := [3]) (by kernel_rfl) (by simp) ?_; refine AllReadyH.cons (o := _) rfl (fun K hK => ?_) AllReadyH.nil; go_simp)
  refine (Hs.eq x y _ _ ms _ _ _ hml (unhide X8).rm (unhide Y8).rm).mono ?_
  rintro e w9 ⟨rfl, b9⟩
  have B9 := B8.trans (b9.mono B8.size)
  have sz9 : w8.heap.size ≤ w9.heap.size := b9.size
  have Q9 := hide ((unhide Q8).below b9)
  have W9 := hide ((unhide W8).below b9)
  have X9 := hide ((unhide X8).below b9)
  have V9 := hide ((unhide V8).below b9)
  have G9 := hide ((unhide G8).below b9)
  have Y9 := hide ((unhide Y8).below b9)
  clear Q8 W8 X8 V8 G8 Y8
  clear hHeld
  clear Y9
  refine hK.out _ _ (sHH (unhide Q9) (unhide V9)) (fun hHeld => ?_)
  clear hK K
  (try simp only [Act.put, List.setIfInBounds_toArray, List.set_cons_zero, List.set_cons_succ])
  (refine Rg.tk (i := 4) (d := 45) (v := ?_) rfl rfl (by kernel_rfl) (by kernel_rfl) (by kernel_rfl) (fun _ _ _ h => h) (by rfl) ?_ (by assumption) ?_; rotate_left; (focus (intro w0 hSw; (try dsimp only at hSw); go_simp; (try with_reducible rfl))); (try simp only [Act.put, List.setIfInBounds_toArray, List.set_cons_zero, List.set_cons_succ]))
  refine wpAnyH_done (by kernel_rfl) (NoPanic.normal ?_) _
  clear hHeld
  obtain ⟨zV0, zV1, zV2⟩ := unhide V9
  go_wp2_with fail
  clear zV0 zV1 zV2
  refine (Hs.mark x y _ _ _ _ 1 ms _ (by omega) (by omega) hml (unhide X9)).mono ?_
  rintro e w10 ⟨rfl, sz10, b10, f10, k10⟩
  have sB10 := B9.size
  have B10 := B9.trans (b10.mono (by omega))
  have Q10 := hide ((unhide Q9).but (k10 _ (unhide Q9).lt (.inl hqx)))
  have W10 := hide ((unhide W9).but (p := fun k => k < w3.heap.size ∨ w4.heap.size ≤ k) sz10 (fun k hk h => k10 k hk h) (fun k h1 h2 => .inl (by omega)))
  have G10 := hide ((unhide G9).but (p := fun k => k < w3.heap.size ∨ w4.heap.size ≤ k) sz10 (fun k hk h => k10 k hk h) (fun k h1 h2 => .inr (by omega)))
  clear Q9 W9 X9 V9 G9 f10 k10 b10
  have hp10 : ¬ (1 + 4 * (ms.length : Int) < 0) := by omega
  go_wp2_with fail
  refine (In.eqS _ _ (symA x y ms) _ _ _ hol (unhide G10).rm (unhide W10).rm).mono ?_
  rintro e w11 ⟨rfl, b11⟩
  have B11 := B10.trans (b11.mono B10.size)
  have sz11 : w10.heap.size ≤ w11.heap.size := b11.size
  have Q11 := hide ((unhide Q10).below b11)
  have W11 := hide ((unhide W10).below b11)
  have G11 := hide ((unhide G10).below b11)
  clear Q10 W10 G10
  go_wp2_with fail
  refine (In.markF _ _ _ _ 1 (symA x y ms) _ (by omega) (by omega) hol (unhide G11)).mono ?_
  rintro e w12 ⟨rfl, sz12, b12, f12, k12⟩
  have sB12 := B11.size
  have B12 := B11.trans (b12.mono (by omega))
  have Q12 := hide ((unhide Q11).but (k12 _ (unhide Q11).lt (.inl (by omega))))
  have W12 := hide ((unhide W11).but (p := fun k => k < w5.heap.size ∨ w6.heap.size ≤ k) sz12 (fun k hk h => k12 k hk h) (fun k h1 h2 => .inl (by omega)))
  have M12 := hide f12
  clear Q11 W11 G11 f12 k12 b12
  have hp12 : ¬ (1 + 1 * ((symA x y ms).length : Int) < 0) := by omega
  go_wp2_with fail
  refine (In.heldF _ _ (symA x y ms).length _ _ 1 _ (by omega) (by omega) hol (unhide M12)).mono ?_
  rintro e wh ⟨rfl, hwh⟩
  rw [hwh]
  clear hwh wh
  obtain ⟨zQ0, zQ1, zQ2⟩ := unhide Q12
  go_wp2_with fail
  clear zQ0 zQ1 zQ2
  refine (Hs.to x y a ms cap _ hml ((unhide HR).below B12)).mono ?_
  rintro e w13 ⟨g13, rfl, b13, hg13, hz13, u13⟩
  have B13 := B12.trans (b13.mono B12.size)
  have sz13 : w12.heap.size ≤ w13.heap.size := b13.size
  have Q13 := hide ((unhide Q12).below b13)
  have W13 := hide ((unhide W12).below b13)
  have M13 := hide ((unhide M12).below b13)
  clear Q12 W12 M12
  have Z13 : Hid (Nb.Lst w13 (some ⟨g13, 0, none⟩) ms w12.heap.size w13.heap.size) := hide (.inr ⟨g13, rfl, hg13, hz13, hz13, u13⟩)
  clear u13
  go_wp2_with fail
  refine (implSymOf x y _ ms _ _ hml (unhide Z13).rm).mono ?_
  rintro e w14 ⟨v14, rfl, b14, l14⟩
  have B14 := B13.trans (b14.mono B13.size)
  have sz14 : w13.heap.size ≤ w14.heap.size := b14.size
  have Q14 := hide ((unhide Q13).below b14)
  have W14 := hide ((unhide W13).below b14)
  have M14 := hide ((unhide M13).below b14)
  have Z14 := hide ((unhide Z13).below b14)
  clear Q13 W13 M13 Z13
  obtain ⟨a14, c14, rfl, L14⟩ := l14
  have H14 := hide L14
  clear L14
  rw [unhide HC]
  go_wp2_with fail
  refine (In.eqS _ _ (symA x y ms) _ _ _ hol (unhide H14).rm (unhide W14).rm).mono ?_
  rintro e w15 ⟨rfl, b15⟩
  have B15 := B14.trans (b15.mono B14.size)
  have sz15 : w14.heap.size ≤ w15.heap.size := b15.size
  have Q15 := hide ((unhide Q14).below b15)
  have W15 := hide ((unhide W14).below b15)
  have M15 := hide ((unhide M14).below b15)
  have Z15 := hide ((unhide Z14).below b15)
  have H15 := hide ((unhide H14).below b15)
  clear Q14 W14 M14 Z14 H14
  go_wp2_with fail
  refine (In.heldF _ _ (symA x y ms).length _ _ 1 _ (by omega) (by omega) hol (unhide M15)).mono ?_
  rintro e wh ⟨rfl, hwh⟩
  rw [hwh]
  clear hwh wh
  have HF := hide B15
  go_wp2_with fail
  go_ret
  exact ⟨rfl, unhide HF⟩

set_option maxRecDepth 100000 in
theorem lifted (os : Os) (started : os.Started) (H : Type) (enc : TypeId × Value → H) :
    ReturnsInHanded {} Try.checked os 8 .any (Rows.fnExactSymOfSpec.pre6 enc Try.prog Try.f8 Rows.fnExactSymOfRow.domain false) (Rows.fnExactSymOfSpec.post enc Try.prog Try.f8 false true false false) := by
  refine returnsInHanded_of_change (C := Try.checked) own started (by kernel_rfl) Try.func8
    (ChangeSpec.witness6 (enc := enc) (C := Try.checked) false ⟨#[], #[.agg #[.int .i64 0, .int .i64 0, .slice none 0 0]], []⟩ 8 (by kernel_rfl) (by kernel_rfl) (by kernel_rfl) (by kernel_rfl)) ?_
  intro W base args ds gs before hval0 hW hcnd _
  have hval : ∀ (j : Nat) t v, Try.f8.params[j]? = some t → args[j]? = some v → Value.okWide Try.prog W .any base t v := hval0
  have hW' := hW
  obtain ⟨p, q, hA0, hV, rfl, hfz, hnd⟩ := hW
  have hA : DataW.TrodAll enc Try.prog W 0 (fun _ => true) true Try.f8.params.toList args.toList ds p := hA0
  rw [Try.params8] at hA hval
  obtain ⟨v0, vs0, d0, ds0, p0, q0, hargs0, rfl, rfl, h0, r0⟩ := trodAll_cons hA
  obtain ⟨rfl, rfl, rfl⟩ := trodAll_nil r0
  obtain rfl : args = #[v0] := by cases args; simp_all
  obtain ⟨rfl, rfl⟩ := trodVars_none hV
  have k0 := h0
  have lt0 : ∀ x ∈ p0, x.block < W.heap.size := by obtain ⟨m, hm⟩ := k0; exact DataW.trod_lt m _ _ _ hm
  obtain ⟨x0, y0, a0, len0, cap0, ms0, rfl, hlen0, hmx0, hrd0⟩ := Hs.open_str (hval 0 33 v0 rfl rfl) h0
  subst hlen0
  clear hA0 hval0
  refine (walk x0 y0 a0 ms0 cap0 hmx0 W hrd0).mono fun e W' ⟨he, bel⟩ => ?_
  subst he
  exact ⟨_, rfl, _, _, _, [], _, [], hW', trodAll_mk1 (shut_bool Try.underlying4 _), (trodAll_cons_mk (Below.trod laidOut (by kernel_rfl) (of_decide_eq_true (by kernel_rfl)) k0 bel lt0) trodAll_mk0), rfl, bel.frame _, fun h => by cases h⟩

theorem over : Rows.fnExactSymOfRow.holds Try.pinned (OpenSpec.ofChange Rows.fnExactSymOfSpec) :=
  OpenClaim.holds_of_wide 8 Try.f8 rfl rfl rfl rfl rfl rfl rfl ⟨rfl, rfl, rfl, rfl, rfl⟩ rfl rfl rfl rfl rfl (by kernel_rfl) Try.func8 (by kernel_rfl)
    (of_decide_eq_true (by kernel_rfl)) (by unfold Func.isWrapper; first | (rw [if_pos (by decide +kernel)]; kernel_rfl) | (rw [if_neg (by decide +kernel)]; exact ⟨rfl, rfl⟩))
    (fun os started H enc _ => lifted os started H enc)
end Go.Proofs.Ytmelbilepfnmjak.fnExactSymOf
namespace Go.Proofs.Ytmelbilepfnmjak
/-- At every argument the program's SymOf answers as its model. -/
theorem fnExactSymOf_holds : Rows.FnExactSymOfSaid := fnExactSymOf.over
end Go.Proofs.Ytmelbilepfnmjak
