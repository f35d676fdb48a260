/-
  Proved here: for every text, laws.FnExactDecodeHello returns true (the program's DecodeHello answers as its model, and what it answers is its own), and leaves what came in as it was. No condition. (The walk is written by mkhlaw.py.)
-/
import Derived.Test.YtmelbilepfnmjakHelK
import Derived.Test.YtmelbilepfnmjakHelH
import Derived.Test.YtmelbilepfnmjakStrHello
namespace Go.Proofs.Ytmelbilepfnmjak.fnExactDecodeHello
open Go.ChangeMaps (open_string)
open Go.ChangeShapes Go.WideShapes Go.ChangeAt Go.RowKit
open W1 Hl De
set_option linter.unusedVariables false
theorem own : ownKnob Try.prog.godebug = none := by kernel_rfl
theorem laidOut : laidOutB Try.prog = true := by kernel_rfl

set_option maxRecDepth 100000 in
set_option maxHeartbeats 8000000 in
theorem walk (s : ByteArray) (hs : s.size ≤ maxLen) (w0 : World) :
    Calls Try.prog 6 #[.string s] w0 fun e w' => e = .returned (.bool true) ∧ Below w0.heap.size w0 w' := by
  unfold maxLen at hs
  by_cases hbig : (1048576 : Int) < s.size
  · go_enter Try.func6, Try.ntmps6
    go_wp2
    go_ret
    exact ⟨rfl, Below.refl _ _⟩
  have hml : s.size ≤ 1048576 := by omega
  obtain ⟨x, hx⟩ : ∃ x, decX s.data.toList = x := ⟨_, rfl⟩
  obtain ⟨y, hy⟩ : ∃ y, decY s.data.toList = y := ⟨_, rfl⟩
  obtain ⟨cd, hcd⟩ : ∃ cd, decE s.data.toList = cd := ⟨_, rfl⟩
  have hol0 := decL_len s.data.toList
  obtain ⟨ls, hls⟩ : ∃ ls, decL s.data.toList = ls := ⟨_, rfl⟩
  rw [hls] at hol0
  have HX := hide hx
  have HY := hide hy
  have HC := hide hcd
  have HLS := hide hls
  clear hx hy hcd hls
  have hol : ls.length ≤ 1048576 := by omega
  have hne : (cd != cd) = false := by simp
  have B0 := Below.refl w0.heap.size w0
  go_enter Try.func6, Try.ntmps6
  go_wp2_with fail
  refine (specDecode s _ hml).mono ?_
  rintro e w1 ⟨v1, rfl, b1, l1⟩
  have B1 := B0.trans (b1.mono B0.size)
  have sz1 : w0.heap.size ≤ w1.heap.size := b1.size
  rw [unhide HLS] at l1
  rw [unhide HX, unhide HY, unhide HC]
  obtain ⟨a1, c1, rfl, L1⟩ := l1
  have W1 := hide L1
  clear L1
  obtain ⟨w2, hw2⟩ : ∃ w2, w1.alloc (.cells #[.int .i64 x, .int .i64 y, .slice a1 ls.length c1] 38) = w2 := ⟨_, rfl⟩
  have b2 : Below w1.heap.size w1 w2 := by rw [← hw2]; exact (Below.refl _ _).alloc (Nat.le_refl _) _
  have B2 := B1.trans (b2.mono B1.size)
  have sz2 : w1.heap.size ≤ w2.heap.size := b2.size
  have W2 := hide ((unhide W1).below b2)
  clear W1
  have Q2 : Hid (Bx3 w2 w1.heap.size x y (.slice a1 ls.length c1)) := hide (by rw [← hw2]; exact bx3_new _ _ _ _ _)
  have HW2 := hide hw2
  clear hw2
  have hq := (unhide Q2).lt
  go_wp2_with fail
  rw [unhide HW2]
  refine (implDecode s _ hml).mono ?_
  rintro e w3 ⟨v3, rfl, b3, l3⟩
  have B3 := B2.trans (b3.mono B2.size)
  have sz3 : w2.heap.size ≤ w3.heap.size := b3.size
  have W3 := hide ((unhide W2).below b3)
  have Q3 := hide ((unhide Q2).below b3)
  clear W2 Q2
  rw [unhide HLS] at l3
  rw [unhide HX, unhide HY, unhide HC]
  obtain ⟨a3, c3, rfl, L3⟩ := l3
  have X3 := hide L3
  clear L3
  obtain ⟨zQ0, zQ1, zQ2⟩ := unhide Q3
  have lQ := World.block_lt_of_cell? _ _ zQ0
  (try dsimp only at lQ)
  obtain ⟨w4, hw4⟩ : ∃ w4, w3.alloc (.cells #[.int .i64 x, .int .i64 y, .slice a3 ls.length c3] 38) = w4 := ⟨_, rfl⟩
  have b4 : Below w3.heap.size w3 w4 := by rw [← hw4]; exact (Below.refl _ _).alloc (Nat.le_refl _) _
  have B4 := B3.trans (b4.mono B3.size)
  have sz4 : w3.heap.size ≤ w4.heap.size := b4.size
  have W4 := hide ((unhide W3).below b4)
  have Q4 := hide ((unhide Q3).below b4)
  have X4 := hide ((unhide X3).below b4)
  clear W3 Q3 X3
  have V4 : Hid (Bx3 w4 w3.heap.size x y (.slice a3 ls.length c3)) := hide (by rw [← hw4]; exact bx3_new _ _ _ _ _)
  have HW4 := hide hw4
  clear hw4
  go_wp2_with fail
  clear zQ0 zQ1 zQ2 lQ
  rw [unhide HW4]
  refine (Hs.eq x y _ _ ls _ _ _ hol (unhide X4).rm (unhide W4).rm).mono ?_
  rintro e w5 ⟨rfl, b5⟩
  have B5 := B4.trans (b5.mono B4.size)
  have sz5 : w4.heap.size ≤ w5.heap.size := b5.size
  have W5 := hide ((unhide W4).below b5)
  have Q5 := hide ((unhide Q4).below b5)
  have X5 := hide ((unhide X4).below b5)
  have V5 := hide ((unhide V4).below b5)
  clear W4 Q4 X4 V4
  obtain ⟨zV0, zV1, zV2⟩ := unhide V5
  go_wp2_with fail
  clear zV0 zV1 zV2
  refine (Hs.mark x y _ _ _ _ 1 ls _ (by omega) (by omega) hol (unhide X5)).mono ?_
  rintro e w6 ⟨rfl, sz6, b6, f6, k6⟩
  have sB6 := B5.size
  have B6 := B5.trans (b6.mono (by omega))
  have Q6 := hide ((unhide Q5).but (k6 _ (unhide Q5).lt (.inl (by omega))))
  have V6 := hide ((unhide V5).but (k6 _ (unhide V5).lt (.inr (by omega))))
  have W6 := hide ((unhide W5).but (p := fun k => k < w2.heap.size ∨ w3.heap.size ≤ k) sz6 (fun k hk h => k6 k hk h) (fun k h1 h2 => .inl (by omega)))
  have M6 := hide f6
  clear W5 Q5 X5 V5 f6 k6 b6
  have hp6 : ¬ (1 + 4 * (ls.length : Int) < 0) := by omega
  obtain ⟨zV0, zV1, zV2⟩ := unhide V6
  go_wp2_with fail
  clear zV0 zV1 zV2
  refine (Hs.held x y _ _ ls.length _ _ 1 _ (by omega) (by omega) hol (unhide M6)).mono ?_
  rintro e w7 ⟨rfl, b7⟩
  have B7 := B6.trans (b7.mono B6.size)
  have sz7 : w6.heap.size ≤ w7.heap.size := b7.size
  have Q7 := hide ((unhide Q6).below b7)
  have V7 := hide ((unhide V6).below b7)
  have W7 := hide ((unhide W6).below b7)
  have M7 := hide ((unhide M6).below b7)
  clear Q6 V6 W6 M6
  go_wp2_with fail
  refine (implDecode s _ hml).mono ?_
  rintro e w8 ⟨v8, rfl, b8, l8⟩
  have B8 := B7.trans (b8.mono B7.size)
  have sz8 : w7.heap.size ≤ w8.heap.size := b8.size
  have Q8 := hide ((unhide Q7).below b8)
  have V8 := hide ((unhide V7).below b8)
  have W8 := hide ((unhide W7).below b8)
  have M8 := hide ((unhide M7).below b8)
  clear Q7 V7 W7 M7
  rw [unhide HLS] at l8
  rw [unhide HX, unhide HY, unhide HC]
  obtain ⟨a8, c8, rfl, L8⟩ := l8
  have H8 := hide L8
  clear L8
  obtain ⟨zQ0, zQ1, zQ2⟩ := unhide Q8
  have lQ := World.block_lt_of_cell? _ _ zQ0
  (try dsimp only at lQ)
  obtain ⟨w9, hw9⟩ : ∃ w9, w8.alloc (.cells #[.int .i64 x, .int .i64 y, .slice a8 ls.length c8] 38) = w9 := ⟨_, rfl⟩
  have b9 : Below w8.heap.size w8 w9 := by rw [← hw9]; exact (Below.refl _ _).alloc (Nat.le_refl _) _
  have B9 := B8.trans (b9.mono B8.size)
  have sz9 : w8.heap.size ≤ w9.heap.size := b9.size
  have Q9 := hide ((unhide Q8).below b9)
  have V9 := hide ((unhide V8).below b9)
  have W9 := hide ((unhide W8).below b9)
  have M9 := hide ((unhide M8).below b9)
  have H9 := hide ((unhide H8).below b9)
  clear Q8 V8 W8 M8 H8
  have N9 : Hid (Bx3 w9 w8.heap.size x y (.slice a8 ls.length c8)) := hide (by rw [← hw9]; exact bx3_new _ _ _ _ _)
  have HW9 := hide hw9
  clear hw9
  go_wp2_with fail
  clear zQ0 zQ1 zQ2 lQ
  rw [unhide HW9]
  refine (Hs.eq x y _ _ ls _ _ _ hol (unhide H9).rm (unhide W9).rm).mono ?_
  rintro e w10 ⟨rfl, b10⟩
  have B10 := B9.trans (b10.mono B9.size)
  have sz10 : w9.heap.size ≤ w10.heap.size := b10.size
  have Q10 := hide ((unhide Q9).below b10)
  have V10 := hide ((unhide V9).below b10)
  have W10 := hide ((unhide W9).below b10)
  have M10 := hide ((unhide M9).below b10)
  have H10 := hide ((unhide H9).below b10)
  have N10 := hide ((unhide N9).below b10)
  clear Q9 V9 W9 M9 H9 N9
  clear N10
  clear H10
  clear W10
  clear Q10
  obtain ⟨zV0, zV1, zV2⟩ := unhide V10
  go_wp2_with fail
  clear zV0 zV1 zV2
  refine (Hs.held x y _ _ ls.length _ _ 1 _ (by omega) (by omega) hol (unhide M10)).mono ?_
  rintro e w11 ⟨rfl, b11⟩
  have B11 := B10.trans (b11.mono B10.size)
  have sz11 : w10.heap.size ≤ w11.heap.size := b11.size
  have V11 := hide ((unhide V10).below b11)
  have M11 := hide ((unhide M10).below b11)
  clear V10 M10
  have HF := hide B11
  go_wp2_with fail
  go_ret
  exact ⟨rfl, unhide HF⟩

set_option maxRecDepth 100000 in
theorem lifted (os : Os) (started : os.Started) (H : Type) (enc : TypeId × Value → H) :
    ReturnsInHanded {} Try.checked os 6 .any (Rows.fnExactDecodeHelloSpec.pre6 enc Try.prog Try.f6 Rows.fnExactDecodeHelloRow.domain false) (Rows.fnExactDecodeHelloSpec.post enc Try.prog Try.f6 false true false false) := by
  refine returnsInHanded_of_change (C := Try.checked) own started (by kernel_rfl) Try.func6
    (ChangeSpec.witness6 (enc := enc) (C := Try.checked) false ⟨#[], #[.string ByteArray.empty], []⟩ 8 (by kernel_rfl) (by kernel_rfl) (by kernel_rfl) (by kernel_rfl)) ?_
  intro W base args ds gs before hval0 hW hcnd _
  have hval : ∀ (j : Nat) t v, Try.f6.params[j]? = some t → args[j]? = some v → Value.okWide Try.prog W .any base t v := hval0
  have hW' := hW
  obtain ⟨p, q, hA0, hV, rfl, hfz, hnd⟩ := hW
  have hA : DataW.TrodAll enc Try.prog W 0 (fun _ => true) true Try.f6.params.toList args.toList ds p := hA0
  rw [Try.params6] at hA hval
  obtain ⟨v0, vs0, d0, ds0, p0, q0, hargs0, rfl, rfl, h0, r0⟩ := trodAll_cons hA
  obtain ⟨rfl, rfl, rfl⟩ := trodAll_nil r0
  obtain rfl : args = #[v0] := by cases args; simp_all
  obtain ⟨rfl, rfl⟩ := trodVars_none hV
  have k0 := h0
  have lt0 : ∀ x ∈ p0, x.block < W.heap.size := by obtain ⟨m, hm⟩ := k0; exact DataW.trod_lt m _ _ _ hm
  obtain ⟨s0, rfl, _, _, hs0⟩ := open_string Try.underlying9 (hval 0 9 v0 rfl rfl) h0
  clear hA0 hval0
  refine (walk s0 hs0 W).mono fun e W' ⟨he, bel⟩ => ?_
  subst he
  exact ⟨_, rfl, _, _, _, [], _, [], hW', trodAll_mk1 (shut_bool Try.underlying4 _), (trodAll_cons_mk (Below.trod laidOut (by kernel_rfl) (of_decide_eq_true (by kernel_rfl)) k0 bel lt0) trodAll_mk0), rfl, bel.frame _, fun h => by cases h⟩

theorem over : Rows.fnExactDecodeHelloRow.holds Try.pinned (OpenSpec.ofChange Rows.fnExactDecodeHelloSpec) :=
  OpenClaim.holds_of_wide 6 Try.f6 rfl rfl rfl rfl rfl rfl rfl ⟨rfl, rfl, rfl, rfl, rfl⟩ rfl rfl rfl rfl rfl (by kernel_rfl) Try.func6 (by kernel_rfl)
    (of_decide_eq_true (by kernel_rfl)) (by unfold Func.isWrapper; first | (rw [if_pos (by decide +kernel)]; kernel_rfl) | (rw [if_neg (by decide +kernel)]; exact ⟨rfl, rfl⟩))
    (fun os started H enc _ => lifted os started H enc)
end Go.Proofs.Ytmelbilepfnmjak.fnExactDecodeHello
namespace Go.Proofs.Ytmelbilepfnmjak
/-- At every text the program's DecodeHello answers as its model. -/
theorem fnExactDecodeHello_holds : Rows.FnExactDecodeHelloSaid := fnExactDecodeHello.over
end Go.Proofs.Ytmelbilepfnmjak
