/-
  Proved here: for every argument, laws.FnExactEncodeHello returns true (the program's EncodeHello answers as its model, leaves its argument alone, and what it answers is its own), and leaves what came in as it was. No condition. (The walk is written by mkhlaw.py.)
-/
import Derived.Test.YtmelbilepfnmjakHelF
import Derived.Test.YtmelbilepfnmjakStrHello
namespace Go.Proofs.Ytmelbilepfnmjak.fnExactEncodeHello
open Go.ChangeShapes Go.WideShapes Go.ChangeAt Go.RowKit
open W1 Hl
set_option linter.unusedVariables false
theorem own : ownKnob Try.prog.godebug = none := by kernel_rfl
theorem laidOut : laidOutB Try.prog = true := by kernel_rfl

theorem sHH {w : World} {b b' : Nat} {x y x' y' : Int} {v v' : Value} (h : Bx3 w b x y v) (h' : Bx3 w b' x' y' v') :
    (Bx3 w b x y v ∧ Bx3 w b' x' y' v') ∧ w.cell? ⟨b, 0, none⟩ = some (.int .i64 x) ∧ w.cell? ⟨b, 1, none⟩ = some (.int .i64 y) ∧ w.cell? ⟨b, 2, none⟩ = some v ∧ w.cell? ⟨b', 0, none⟩ = some (.int .i64 x') ∧ w.cell? ⟨b', 1, none⟩ = some (.int .i64 y') ∧ w.cell? ⟨b', 2, none⟩ = some v' := ⟨⟨h, h'⟩, h.1, h.2.1, h.2.2, h'.1, h'.2.1, h'.2.2⟩
set_option maxRecDepth 100000 in
set_option maxHeartbeats 8000000 in
theorem walk (x y : Int) (a : Option Addr) (ms : List Nb.R) (cap : Nat) (hm : ms.length ≤ maxLen) (w : World) (hr : Nb.RM w a ms) :
    Calls Try.prog 5 #[.agg #[.int .i64 x, .int .i64 y, .slice a ms.length cap]] w fun e w' => e = .returned (.bool true) ∧ Below w.heap.size w w' := by
  have HR := hide hr
  clear hr
  have HBA : Hid (Below w.heap.size w (w.alloc (.cells #[.int .i64 x, .int .i64 y, .slice a ms.length cap] 33))) := hide ((Below.refl _ _).alloc (Nat.le_refl _) _)
  have HQ : Hid (Bx3 (w.alloc (.cells #[.int .i64 x, .int .i64 y, .slice a ms.length cap] 33)) w.heap.size x y (.slice a ms.length cap)) := hide (bx3_new _ _ _ _ _)
  go_enter Try.func5, Try.ntmps5
  go_wp2_with fail
  refine (Hs.sz x y a ms.length cap 1048576 _ (by omega) (by omega) hm).mono ?_
  rintro e w1 ⟨r, rfl, b1, hr01⟩
  have B1 : Below w.heap.size w w1 := (unhide HBA).trans (b1.mono (unhide HBA).size)
  have Q1 := hide ((unhide HQ).below b1)
  have hq1 : w.heap.size < w1.heap.size := (unhide Q1).lt
  clear HBA HQ b1
  rcases hr01 with hr0 | ⟨hr0, hr1⟩
  · go_wp2_with fail
    go_ret
    exact ⟨rfl, B1⟩
  have hnn : ¬ r < 0 := by omega
  have hml : ms.length ≤ 1048576 := by omega
  clear hr1 hm
  obtain ⟨zQ0, zQ1, zQ2⟩ := unhide Q1
  go_wp2_with fail
  clear zQ0 zQ1 zQ2
  refine (Hs.to x y a ms cap _ hml ((unhide HR).below B1)).mono ?_
  rintro e w2 ⟨g2, rfl, b2, hg2, hz2, u2⟩
  have B2 := B1.trans (b2.mono B1.size)
  have sz2 : w1.heap.size ≤ w2.heap.size := b2.size
  have Q2 := hide ((unhide Q1).below b2)
  clear Q1
  have S2 : Hid (Nb.Lst w2 (some ⟨g2, 0, none⟩) ms w1.heap.size w2.heap.size) := hide (.inr ⟨g2, rfl, hg2, hz2, hz2, u2⟩)
  clear u2
  go_wp2_with fail
  refine (specEncode x y _ ms _ _ hml (unhide S2).rm).mono ?_
  rintro e w3 ⟨rfl, b3⟩
  have B3 := B2.trans (b3.mono B2.size)
  have sz3 : w2.heap.size ≤ w3.heap.size := b3.size
  have Q3 := hide ((unhide Q2).below b3)
  have S3 := hide ((unhide S2).below b3)
  clear Q2 S2
  clear S3
  obtain ⟨A, hA⟩ : ∃ A, encS x y ms = A := ⟨_, rfl⟩
  obtain ⟨cd, hcd⟩ : ∃ cd, encE x y ms = cd := ⟨_, rfl⟩
  have HA := hide hA
  have HC := hide hcd
  rw [hA, hcd]
  clear hA hcd
  have hne : (cd != cd) = false := by simp
  obtain ⟨zQ0, zQ1, zQ2⟩ := unhide Q3
  go_wp2_with fail
  clear zQ0 zQ1 zQ2
  refine (Hs.to x y a ms cap _ hml ((unhide HR).below B3)).mono ?_
  rintro e w4 ⟨g4, rfl, b4, hg4, hz4, u4⟩
  have B4 := B3.trans (b4.mono B3.size)
  have sz4 : w3.heap.size ≤ w4.heap.size := b4.size
  have Q4 := hide ((unhide Q3).below b4)
  clear Q3
  have X4 : Hid (Nb.Lst w4 (some ⟨g4, 0, none⟩) ms w3.heap.size w4.heap.size) := hide (.inr ⟨g4, rfl, hg4, hz4, hz4, u4⟩)
  clear u4
  obtain ⟨w5, hw5⟩ : ∃ w5, w4.alloc (.cells #[.int .i64 x, .int .i64 y, .slice (some ⟨g4, 0, none⟩) ms.length ms.length] 38) = w5 := ⟨_, rfl⟩
  have b5 : Below w4.heap.size w4 w5 := by rw [← hw5]; exact (Below.refl _ _).alloc (Nat.le_refl _) _
  have B5 := B4.trans (b5.mono B4.size)
  have sz5 : w4.heap.size ≤ w5.heap.size := b5.size
  have Q5 := hide ((unhide Q4).below b5)
  have X5 := hide ((unhide X4).below b5)
  clear Q4 X4
  have V5 : Hid (Bx3 w5 w4.heap.size x y (.slice (some ⟨g4, 0, none⟩) ms.length ms.length)) := hide (by rw [← hw5]; exact bx3_new _ _ _ _ _)
  have HW5 := hide hw5
  clear hw5
  go_wp2_with fail
  rw [unhide HW5]
  refine (implEncode x y _ ms _ _ hml (unhide X5).rm).mono ?_
  rintro e w6 ⟨rfl, b6⟩
  have B6 := B5.trans (b6.mono B5.size)
  have sz6 : w5.heap.size ≤ w6.heap.size := b6.size
  have Q6 := hide ((unhide Q5).below b6)
  have X6 := hide ((unhide X5).below b6)
  have V6 := hide ((unhide V5).below b6)
  clear Q5 X5 V5
  rw [unhide HA, unhide HC]
  go_wp2_with fail
  refine wp_region_noPanic ?_
  refine wp_region_held_drew (S := fun w' => (Bx3 w' w.heap.size x y (.slice a ms.length cap) ∧ Bx3 w' w4.heap.size x y (.slice (some ⟨g4, 0, none⟩) ms.length ms.length)) ∧ w'.cell? ⟨w.heap.size, 0, none⟩ = some (.int .i64 x) ∧ w'.cell? ⟨w.heap.size, 1, none⟩ = some (.int .i64 y) ∧ w'.cell? ⟨w.heap.size, 2, none⟩ = some (.slice a ms.length cap) ∧ w'.cell? ⟨w4.heap.size, 0, none⟩ = some (.int .i64 x) ∧ w'.cell? ⟨w4.heap.size, 1, none⟩ = some (.int .i64 y) ∧ w'.cell? ⟨w4.heap.size, 2, none⟩ = some (.slice (some ⟨g4, 0, none⟩) ms.length ms.length)) (by kernel_rfl) (sHH (unhide Q6).drew (unhide V6).drew) (fun hHeld => ?_)
  (refine Rg.tk (i := 0) (d := 35) (v := ?_) rfl rfl (by kernel_rfl) (by kernel_rfl) (by kernel_rfl) (fun _ _ _ h => h) (by rfl) ?_ (by assumption) ?_; rotate_left; (focus (intro w0 hSw; (try dsimp only at hSw); go_simp; (try with_reducible rfl))); (try simp only [Act.put, List.setIfInBounds_toArray, List.set_cons_zero, List.set_cons_succ]))
  (refine Rg.tk (i := 1) (d := 36) (v := ?_) rfl rfl (by kernel_rfl) (by kernel_rfl) (by kernel_rfl) (fun _ _ _ h => h) (by rfl) ?_ (by assumption) ?_; rotate_left; (focus (intro w0 hSw; (try dsimp only at hSw); go_simp; (try with_reducible rfl))); (try simp only [Act.put, List.setIfInBounds_toArray, List.set_cons_zero, List.set_cons_succ]))
  (refine wpAnyH_ready (rs := [2]) (by kernel_rfl) (by simp) ?_; refine AllReadyH.cons (o := _) rfl (fun K hK => ?_) AllReadyH.nil; go_simp)
  refine (Hs.to x y a ms cap _ hml ((unhide HR).below B6.drew)).mono ?_
  rintro e w7 ⟨g7, rfl, b7_, hg7, hz7, u7⟩
  have b7 : Below w6.heap.size w6 w7 := (Below.refl _ _).drew.trans b7_
  have B7 := B6.trans (b7.mono B6.size)
  have sz7 : w6.heap.size ≤ w7.heap.size := b7.size
  clear b7_ hHeld
  have Q7 := hide ((unhide Q6).below b7)
  have X7 := hide ((unhide X6).below b7)
  have V7 := hide ((unhide V6).below b7)
  clear Q6 X6 V6
  have Y7 : Hid (Nb.Lst w7 (some ⟨g7, 0, none⟩) ms w6.heap.size w7.heap.size) := hide (.inr ⟨g7, rfl, hg7, hz7, hz7, u7⟩)
  clear u7
  refine hK.out _ _ (sHH (unhide Q7) (unhide V7)) (fun hHeld => ?_)
  clear hK K
  (try simp only [Act.put, List.setIfInBounds_toArray, List.set_cons_zero, List.set_cons_succ])
  (refine wpAnyH_ready (rs := [3]) (by kernel_rfl) (by simp) ?_; refine AllReadyH.cons (o := _) rfl (fun K hK => ?_) AllReadyH.nil; go_simp)
  refine (Hs.eq x y _ _ ms _ _ _ hml (unhide X7).rm (unhide Y7).rm).mono ?_
  rintro e w8 ⟨rfl, b8⟩
  have B8 := B7.trans (b8.mono B7.size)
  have sz8 : w7.heap.size ≤ w8.heap.size := b8.size
  have Q8 := hide ((unhide Q7).below b8)
  have X8 := hide ((unhide X7).below b8)
  have V8 := hide ((unhide V7).below b8)
  have Y8 := hide ((unhide Y7).below b8)
  clear Q7 X7 V7 Y7
  clear hHeld
  clear Y8
  refine hK.out _ _ (sHH (unhide Q8) (unhide V8)) (fun hHeld => ?_)
  clear hK K
  (try simp only [Act.put, List.setIfInBounds_toArray, List.set_cons_zero, List.set_cons_succ])
  (refine Rg.tk (i := 4) (d := 39) (v := ?_) rfl rfl (by kernel_rfl) (by kernel_rfl) (by kernel_rfl) (fun _ _ _ h => h) (by rfl) ?_ (by assumption) ?_; rotate_left; (focus (intro w0 hSw; (try dsimp only at hSw); go_simp; (try with_reducible rfl))); (try simp only [Act.put, List.setIfInBounds_toArray, List.set_cons_zero, List.set_cons_succ]))
  refine wpAnyH_done (by kernel_rfl) (NoPanic.normal ?_) _
  clear hHeld
  have HF := hide B8
  go_wp2_with fail
  go_ret
  exact ⟨rfl, unhide HF⟩

set_option maxRecDepth 100000 in
theorem lifted (os : Os) (started : os.Started) (H : Type) (enc : TypeId × Value → H) :
    ReturnsInHanded {} Try.checked os 5 .any (Rows.fnExactEncodeHelloSpec.pre6 enc Try.prog Try.f5 Rows.fnExactEncodeHelloRow.domain false) (Rows.fnExactEncodeHelloSpec.post enc Try.prog Try.f5 false true false false) := by
  refine returnsInHanded_of_change (C := Try.checked) own started (by kernel_rfl) Try.func5
    (ChangeSpec.witness6 (enc := enc) (C := Try.checked) false ⟨#[], #[.agg #[.int .i64 0, .int .i64 0, .slice none 0 0]], []⟩ 8 (by kernel_rfl) (by kernel_rfl) (by kernel_rfl) (by kernel_rfl)) ?_
  intro W base args ds gs before hval0 hW hcnd _
  have hval : ∀ (j : Nat) t v, Try.f5.params[j]? = some t → args[j]? = some v → Value.okWide Try.prog W .any base t v := hval0
  have hW' := hW
  obtain ⟨p, q, hA0, hV, rfl, hfz, hnd⟩ := hW
  have hA : DataW.TrodAll enc Try.prog W 0 (fun _ => true) true Try.f5.params.toList args.toList ds p := hA0
  rw [Try.params5] at hA hval
  obtain ⟨v0, vs0, d0, ds0, p0, q0, hargs0, rfl, rfl, h0, r0⟩ := trodAll_cons hA
  obtain ⟨rfl, rfl, rfl⟩ := trodAll_nil r0
  obtain rfl : args = #[v0] := by cases args; simp_all
  obtain ⟨rfl, rfl⟩ := trodVars_none hV
  have k0 := h0
  have lt0 : ∀ x ∈ p0, x.block < W.heap.size := by obtain ⟨m, hm⟩ := k0; exact DataW.trod_lt m _ _ _ hm
  obtain ⟨x0, y0, a0, len0, cap0, ms0, rfl, hlen0, hmx0, hrd0⟩ := Hs.open_str (hval 0 33 v0 rfl rfl) h0
  subst hlen0
  clear hA0 hval0
  refine (walk x0 y0 a0 ms0 cap0 hmx0 W hrd0).mono fun e W' ⟨he, bel⟩ => ?_
  subst he
  exact ⟨_, rfl, _, _, _, [], _, [], hW', trodAll_mk1 (shut_bool Try.underlying4 _), (trodAll_cons_mk (Below.trod laidOut (by kernel_rfl) (of_decide_eq_true (by kernel_rfl)) k0 bel lt0) trodAll_mk0), rfl, bel.frame _, fun h => by cases h⟩

theorem over : Rows.fnExactEncodeHelloRow.holds Try.pinned (OpenSpec.ofChange Rows.fnExactEncodeHelloSpec) :=
  OpenClaim.holds_of_wide 5 Try.f5 rfl rfl rfl rfl rfl rfl rfl ⟨rfl, rfl, rfl, rfl, rfl⟩ rfl rfl rfl rfl rfl (by kernel_rfl) Try.func5 (by kernel_rfl)
    (of_decide_eq_true (by kernel_rfl)) (by unfold Func.isWrapper; first | (rw [if_pos (by decide +kernel)]; kernel_rfl) | (rw [if_neg (by decide +kernel)]; exact ⟨rfl, rfl⟩))
    (fun os started H enc _ => lifted os started H enc)
end Go.Proofs.Ytmelbilepfnmjak.fnExactEncodeHello
namespace Go.Proofs.Ytmelbilepfnmjak
/-- At every argument the program's EncodeHello answers as its model. -/
theorem fnExactEncodeHello_holds : Rows.FnExactEncodeHelloSaid := fnExactEncodeHello.over
end Go.Proofs.Ytmelbilepfnmjak
