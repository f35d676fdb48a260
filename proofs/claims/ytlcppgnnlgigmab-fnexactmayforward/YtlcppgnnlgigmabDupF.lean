/-
  Contracts of passing on: hasHopsLeft, forwardCode, MayForward, Forwarded (the program's); l10Forward, MayForward, l10Next, Forwarded (the model's).
-/
import Derived.Test.YtlcppgnnlgigmabDupM
namespace Go.Proofs.Ytlcppgnnlgigmab
open Go.ChangeShapes Go.WideShapes Go.ChangeAt Go.RowKit
set_option linter.unusedVariables false
set_option linter.unusedSimpArgs false
set_option maxRecDepth 100000
attribute [local go_sem ↓] Go.wp_at_zero Go.wp_at_succ
namespace Du
open W1 Tu St
/-- A message in a variable's block. -/
def Mb (w : World) (b : Nat) (ty og sq hl hp : Int) (body : ByteArray) : Prop := w.heap[b]? = some (.cells #[.int .i64 ty, .int .i64 og, .int .i64 sq, .int .i64 hl, .int .i64 hp, .string body] 42 (0, 0))
theorem Mb.cells {w : World} {b : Nat} {ty og sq hl hp : Int} {body : ByteArray} (h : Mb w b ty og sq hl hp body) : (w.cell? ⟨b, 0, none⟩ = some (.int .i64 ty) ∧ w.cell? ⟨b, 1, none⟩ = some (.int .i64 og) ∧ w.cell? ⟨b, 2, none⟩ = some (.int .i64 sq)) ∧ w.cell? ⟨b, 3, none⟩ = some (.int .i64 hl) ∧ w.cell? ⟨b, 4, none⟩ = some (.int .i64 hp) ∧ w.cell? ⟨b, 5, none⟩ = some (.string body) := by
  unfold Mb at h; refine ⟨⟨?_, ?_, ?_⟩, ?_, ?_, ?_⟩ <;> simp [World.cell?, h]
theorem Mb.free {w : World} {b : Nat} {ty og sq hl hp : Int} {body : ByteArray} (h : Mb w b ty og sq hl hp body) (i : Nat) : w.frozen? ⟨b, i, none⟩ = false := by unfold Mb at h; simp [World.frozen?, h]
theorem Mb.lt {w : World} {b : Nat} {ty og sq hl hp : Int} {body : ByteArray} (h : Mb w b ty og sq hl hp body) : b < w.heap.size := (Array.getElem?_eq_some_iff.1 h).1
theorem Mb.below {w w' : World} {b : Nat} {ty og sq hl hp : Int} {body : ByteArray} (h : Mb w b ty og sq hl hp body) (hb : Below w.heap.size w w') : Mb w' b ty og sq hl hp body := (hb.block b h.lt).trans h
theorem mb_new (w : World) (ty og sq hl hp : Int) (body : ByteArray) : Mb (w.alloc (.cells #[.int .i64 ty, .int .i64 og, .int .i64 sq, .int .i64 hl, .int .i64 hp, .string body] 42)) w.heap.size ty og sq hl hp body := (MapKept.heap_alloc w _).1
set_option maxHeartbeats 1000000 in
theorem hasHopsLeft (ty og sq hl hp : Int) (body : ByteArray) (w : World) : Calls Try.prog 47 #[.agg #[.int .i64 ty, .int .i64 og, .int .i64 sq, .int .i64 hl, .int .i64 hp, .string body]] w fun e w' => e = .returned (.bool (fwdB hl hp)) ∧ Below w.heap.size w w' := by
  have HB : Hid (Below w.heap.size w (w.alloc (.cells #[.int .i64 ty, .int .i64 og, .int .i64 sq, .int .i64 hl, .int .i64 hp, .string body] 42))) := hide ((Below.refl _ _).alloc (Nat.le_refl _) _)
  by_cases h1 : 1 < hl
  rotate_left
  by_cases h2 : hp < 255
  all_goals
    go_enter Try.func47, Try.ntmps47
    go_wp2
    go_ret
    refine ⟨ret_bool ?_, unhide HB⟩
    unfold fwdB
    simp [*]
set_option maxHeartbeats 2000000 in
theorem forwardCode (ty og sq hl hp : Int) (body : ByteArray) (a : Option Addr) (ms : List R) (cap : Nat) (w : World) (hm : ms.length ≤ 1048576) (hr : RM w a ms) :
    Calls Try.prog 45 #[.agg #[.int .i64 ty, .int .i64 og, .int .i64 sq, .int .i64 hl, .int .i64 hp, .string body], .slice a ms.length cap] w fun e w' => e = .returned (.int .i64 (codeF (okB ty og sq hl hp body) ty ms)) ∧ Below w.heap.size w w' := by
  have HB : Hid (Below w.heap.size w (w.alloc (.cells #[.int .i64 ty, .int .i64 og, .int .i64 sq, .int .i64 hl, .int .i64 hp, .string body] 42))) := hide ((Below.refl _ _).alloc (Nat.le_refl _) _)
  have HV : Hid (Mb (w.alloc (.cells #[.int .i64 ty, .int .i64 og, .int .i64 sq, .int .i64 hl, .int .i64 hp, .string body] 42)) w.heap.size ty og sq hl hp body) := hide (mb_new _ _ _ _ _ _ _)
  have HR := hide hr
  clear hr
  obtain ⟨c, hc⟩ : ∃ c, codeS ms = c := ⟨_, rfl⟩
  by_cases h0 : c = 0
  · subst h0
    obtain ⟨t, ht⟩ : ∃ t, okB ty og sq hl hp body = t := ⟨_, rfl⟩
    rw [ht]
    have HT : Hid (codeF t ty ms = if t = true then (if ty = 2 then 0 else 18) else 1) := hide (by unfold codeF; rw [if_pos hc])
    rw [unhide HT]
    have HC := hide hc
    have HA := hide ht
    clear hc ht
    cases t
    · rw [if_neg (by simp)]
      go_enter Try.func45, Try.ntmps45
      go_wp2_with fail
      refine (setCode _ ms cap _ hm ((unhide HR).below (unhide HB))).mono ?_
      rintro e w1 ⟨rfl, b1⟩
      rw [unhide HC]
      have HB1 := hide ((unhide HB).trans (b1.mono (unhide HB).size))
      obtain ⟨⟨c0, c1, c2⟩, c3, c4, c5⟩ := ((unhide HV).below b1).cells
      clear b1
      go_wp2_with fail
      refine (W1.implOK ty og sq hl hp body _).mono ?_
      rintro e w2 ⟨rfl, b2⟩
      rw [unhide HA]
      have HB2 := hide ((unhide HB1).trans (b2.mono (unhide HB1).size))
      clear b2 c0 c1 c2 c3 c4 c5
      go_wp2_with fail
      go_ret
      exact ⟨rfl, unhide HB2⟩
    · rw [if_pos rfl]
      have hsp : ((ty != 2) = false ∧ (if ty = 2 then (0 : Int) else 18) = 0) ∨ ((ty != 2) = true ∧ (if ty = 2 then (0 : Int) else 18) = 18) := by
        by_cases h : ty = 2
        · exact .inl ⟨by simpa using h, if_pos h⟩
        · exact .inr ⟨by simpa using h, if_neg h⟩
      rcases hsp with ⟨hb2, he⟩ | ⟨hb2, he⟩
      all_goals
        rw [he]
        clear he
        go_enter Try.func45, Try.ntmps45
        go_wp2_with fail
        refine (setCode _ ms cap _ hm ((unhide HR).below (unhide HB))).mono ?_
        rintro e w1 ⟨rfl, b1⟩
        rw [unhide HC]
        have HB1 := hide ((unhide HB).trans (b1.mono (unhide HB).size))
        have HV1 := hide ((unhide HV).below b1)
        obtain ⟨⟨c0, c1, c2⟩, c3, c4, c5⟩ := (unhide HV1).cells
        clear b1
        go_wp2_with fail
        refine (W1.implOK ty og sq hl hp body _).mono ?_
        rintro e w2 ⟨rfl, b2⟩
        rw [unhide HA]
        have HB2 := hide ((unhide HB1).trans (b2.mono (unhide HB1).size))
        have HV2 := hide ((unhide HV1).below b2)
        clear b2 c0 c1 c2 c3 c4 c5
        obtain ⟨⟨c0, c1, c2⟩, c3, c4, c5⟩ := (unhide HV2).cells
        go_wp2_with fail
        go_ret
        exact ⟨rfl, unhide HB2⟩
  · have HT : Hid (codeF (okB ty og sq hl hp body) ty ms = c) := hide (by unfold codeF; rw [if_neg (by rw [hc]; exact h0), hc])
    rw [unhide HT]
    have hne : (c != 0) = true := by simpa using h0
    have HC := hide hc
    clear hc h0
    go_enter Try.func45, Try.ntmps45
    go_wp2_with fail
    refine (setCode _ ms cap _ hm ((unhide HR).below (unhide HB))).mono ?_
    rintro e w1 ⟨rfl, b1⟩
    rw [unhide HC]
    have HB1 := hide ((unhide HB).trans (b1.mono (unhide HB).size))
    clear b1
    go_wp2_with fail
    go_ret
    exact ⟨rfl, unhide HB1⟩
/-- What Forwarded answers. -/
def fwdV (ok : Bool) (ty og sq hl hp : Int) (body : ByteArray) : Value := if codeG ok hl hp = 0 then .agg #[.int .i64 ty, .int .i64 og, .int .i64 sq, .int .i64 (hl - 1), .int .i64 (hp + 1), .string body] else .agg #[.int .i64 0, .int .i64 0, .int .i64 0, .int .i64 0, .int .i64 0, .string ⟨#[]⟩]
set_option maxHeartbeats 4000000 in
theorem implFwd (ty og sq hl hp : Int) (body : ByteArray) (w : World) :
    Calls Try.prog 24 #[.agg #[.int .i64 ty, .int .i64 og, .int .i64 sq, .int .i64 hl, .int .i64 hp, .string body]] w fun e w' => e = .returned (.tuple #[fwdV (okB ty og sq hl hp body) ty og sq hl hp body, .int .i64 (codeG (okB ty og sq hl hp body) hl hp)]) ∧ Below w.heap.size w w' := by
  have HB : Hid (Below w.heap.size w ((w.alloc (.cells #[.int .i64 ty, .int .i64 og, .int .i64 sq, .int .i64 hl, .int .i64 hp, .string body] 42)).alloc (.cells #[.int .i64 0, .int .i64 0, .int .i64 0, .int .i64 0, .int .i64 0, .string ⟨#[]⟩] 42))) := hide (((Below.refl _ _).alloc (Nat.le_refl _) _).alloc (by simp) _)
  have HV : Hid (Mb ((w.alloc (.cells #[.int .i64 ty, .int .i64 og, .int .i64 sq, .int .i64 hl, .int .i64 hp, .string body] 42)).alloc (.cells #[.int .i64 0, .int .i64 0, .int .i64 0, .int .i64 0, .int .i64 0, .string ⟨#[]⟩] 42)) w.heap.size ty og sq hl hp body) := hide ((mb_new w _ _ _ _ _ _).below ((Below.refl _ _).alloc (Nat.le_refl _) _))
  have HZ : Hid (Mb ((w.alloc (.cells #[.int .i64 ty, .int .i64 og, .int .i64 sq, .int .i64 hl, .int .i64 hp, .string body] 42)).alloc (.cells #[.int .i64 0, .int .i64 0, .int .i64 0, .int .i64 0, .int .i64 0, .string ⟨#[]⟩] 42)) (w.heap.size + 1) 0 0 0 0 0 ⟨#[]⟩) := hide (by have := mb_new (w.alloc (.cells #[.int .i64 ty, .int .i64 og, .int .i64 sq, .int .i64 hl, .int .i64 hp, .string body] 42)) 0 0 0 0 0 ⟨#[]⟩; rw [show (w.alloc (.cells #[.int .i64 ty, .int .i64 og, .int .i64 sq, .int .i64 hl, .int .i64 hp, .string body] 42)).heap.size = w.heap.size + 1 by simp] at this; exact this)
  obtain ⟨t, ht⟩ : ∃ t, okB ty og sq hl hp body = t := ⟨_, rfl⟩
  rw [ht]
  have HO := hide ht
  have hbd : t = true → 0 ≤ hl ∧ hl ≤ 255 ∧ 0 ≤ hp ∧ hp ≤ 255 := fun h => by rw [h] at ht; unfold okB inB at ht; simp at ht; omega
  clear ht
  cases t
  · rw [show fwdV false ty og sq hl hp body = .agg #[.int .i64 0, .int .i64 0, .int .i64 0, .int .i64 0, .int .i64 0, .string ⟨#[]⟩] from rfl, show codeG false hl hp = 1 from rfl]
    clear hbd
    go_enter Try.func24, Try.ntmps24
    go_wp2_with fail
    refine (W1.implOK ty og sq hl hp body _).mono ?_
    rintro e w1 ⟨rfl, b1⟩
    rw [unhide HO]
    have HB1 := hide ((unhide HB).trans (b1.mono (unhide HB).size))
    have HZ1 := hide ((unhide HZ).below b1)
    obtain ⟨⟨z0, z1, z2⟩, z3, z4, z5⟩ := (unhide HZ1).cells
    have zf := (unhide HZ1).free
    clear b1
    go_wp2_with fail
    refine bodyPost_ret (v := .tuple #[.agg #[.int .i64 0, .int .i64 0, .int .i64 0, .int .i64 0, .int .i64 0, .string ⟨#[]⟩], .int .i64 1]) (by simp [results, Try.results24, go_sem, z0, z1, z2, z3, z4, z5]) rfl ⟨rfl, ?_⟩
    have hB := unhide HB1
    (repeat (first | (with_reducible exact hB) | (with_reducible refine Below.drew ?_) | (with_reducible refine Below.setCell ?_ ?_ _; rotate_left; (first | exact Nat.le_refl _ | (simp; done) | (dsimp only; omega))) | (with_reducible refine Below.alloc ?_ ?_ _; rotate_left; (first | exact Nat.le_refl _ | omega | (simp [World.setCell]; omega)))))
  have hb2 := hbd rfl
  clear hbd
  cases hf : fwdB hl hp
  · rw [show codeG true hl hp = 19 by unfold codeG; rw [hf]; rfl, show fwdV true ty og sq hl hp body = .agg #[.int .i64 0, .int .i64 0, .int .i64 0, .int .i64 0, .int .i64 0, .string ⟨#[]⟩] by unfold fwdV codeG; rw [hf]; rfl]
    have HF := hide hf
    clear hf
    go_enter Try.func24, Try.ntmps24
    go_wp2_with fail
    refine (W1.implOK ty og sq hl hp body _).mono ?_
    rintro e w1 ⟨rfl, b1⟩
    rw [unhide HO]
    have HB1 := hide ((unhide HB).trans (b1.mono (unhide HB).size))
    have HZ1 := hide ((unhide HZ).below b1)
    have HV1 := hide ((unhide HV).below b1)
    obtain ⟨⟨c0, c1, c2⟩, c3, c4, c5⟩ := (unhide HV1).cells
    clear b1
    go_wp2_with fail
    refine (hasHopsLeft ty og sq hl hp body _).mono ?_
    rintro e w2 ⟨rfl, b2⟩
    rw [unhide HF]
    have HB2 := hide ((unhide HB1).trans (b2.mono (unhide HB1).size))
    have HZ2 := hide ((unhide HZ1).below b2)
    clear b2 c0 c1 c2 c3 c4 c5
    obtain ⟨⟨z0, z1, z2⟩, z3, z4, z5⟩ := (unhide HZ2).cells
    have zf := (unhide HZ2).free
    go_wp2_with fail
    refine bodyPost_ret (v := .tuple #[.agg #[.int .i64 0, .int .i64 0, .int .i64 0, .int .i64 0, .int .i64 0, .string ⟨#[]⟩], .int .i64 19]) (by simp [results, Try.results24, go_sem, z0, z1, z2, z3, z4, z5]) rfl ⟨rfl, ?_⟩
    have hB := unhide HB2
    (repeat (first | (with_reducible exact hB) | (with_reducible refine Below.drew ?_) | (with_reducible refine Below.setCell ?_ ?_ _; rotate_left; (first | exact Nat.le_refl _ | (simp; done) | (dsimp only; omega))) | (with_reducible refine Below.alloc ?_ ?_ _; rotate_left; (first | exact Nat.le_refl _ | omega | (simp [World.setCell]; omega)))))
  · have hff : 1 < hl ∧ hp < 255 := by unfold fwdB at hf; simpa using hf
    rw [show codeG true hl hp = 0 by unfold codeG; rw [hf]; rfl, show fwdV true ty og sq hl hp body = .agg #[.int .i64 ty, .int .i64 og, .int .i64 sq, .int .i64 (hl - 1), .int .i64 (hp + 1), .string body] by unfold fwdV codeG; rw [hf]; rfl]
    have HF := hide hf
    clear hf
    go_enter Try.func24, Try.ntmps24
    go_wp2_with fail
    refine (W1.implOK ty og sq hl hp body _).mono ?_
    rintro e w1 ⟨rfl, b1⟩
    rw [unhide HO]
    have HB1 := hide ((unhide HB).trans (b1.mono (unhide HB).size))
    have HZ1 := hide ((unhide HZ).below b1)
    have HV1 := hide ((unhide HV).below b1)
    obtain ⟨⟨c0, c1, c2⟩, c3, c4, c5⟩ := (unhide HV1).cells
    clear b1
    go_wp2_with fail
    refine (hasHopsLeft ty og sq hl hp body _).mono ?_
    rintro e w2 ⟨rfl, b2⟩
    rw [unhide HF]
    have HB2 := hide ((unhide HB1).trans (b2.mono (unhide HB1).size))
    have HZ2 := hide ((unhide HZ1).below b2)
    have HV2 := hide ((unhide HV1).below b2)
    clear b2 c0 c1 c2 c3 c4 c5
    obtain ⟨⟨z0, z1, z2⟩, z3, z4, z5⟩ := (unhide HZ2).cells
    have zf := (unhide HZ2).free
    obtain ⟨⟨c0, c1, c2⟩, c3, c4, c5⟩ := (unhide HV2).cells
    have cf := (unhide HV2).free
    have hne : w.heap.size ≠ w.heap.size + 1 := by omega
    have hne' : w.heap.size + 1 ≠ w.heap.size := by omega
    go_wp2_with fail
    refine bodyPost_ret (v := .tuple #[.agg #[.int .i64 ty, .int .i64 og, .int .i64 sq, .int .i64 (hl - 1), .int .i64 (hp + 1), .string body], .int .i64 0]) (by simp [results, Try.results24, go_sem, z0, z1, z2, z3, z4, z5]) rfl ⟨rfl, ?_⟩
    have hB := unhide HB2
    (repeat (first | (with_reducible exact hB) | (with_reducible refine Below.drew ?_) | (with_reducible refine Below.setCell ?_ ?_ _; rotate_left; (first | exact Nat.le_refl _ | (simp; done) | (dsimp only; omega))) | (with_reducible refine Below.alloc ?_ ?_ _; rotate_left; (first | exact Nat.le_refl _ | omega | (simp [World.setCell]; omega)))))
set_option maxHeartbeats 4000000 in
theorem implMay (ty og sq hl hp : Int) (body : ByteArray) (g off : Nat) (ms : List R) (cap : Nat) (frm now : Int) (w : World) (hm : ms.length ≤ 1048576) (hr : RM w (some ⟨g, off, none⟩) ms) :
    Calls Try.prog 22 #[.agg #[.int .i64 ty, .int .i64 og, .int .i64 sq, .int .i64 hl, .int .i64 hp, .string body], .slice (some ⟨g, off, none⟩) ms.length cap, .int .i64 frm, .int .i64 now] w fun e w' => e = .returned (.tuple #[.bool (mayF (okB ty og sq hl hp body) ty hl hp ms frm now), .int .i64 (codeF (okB ty og sq hl hp body) ty ms)]) ∧ Below w.heap.size w w' := by
  have HB : Hid (Below w.heap.size w (w.alloc (.cells #[.int .i64 ty, .int .i64 og, .int .i64 sq, .int .i64 hl, .int .i64 hp, .string body] 42))) := hide ((Below.refl _ _).alloc (Nat.le_refl _) _)
  have HV : Hid (Mb (w.alloc (.cells #[.int .i64 ty, .int .i64 og, .int .i64 sq, .int .i64 hl, .int .i64 hp, .string body] 42)) w.heap.size ty og sq hl hp body) := hide (mb_new _ _ _ _ _ _ _)
  have HR := hide hr
  clear hr
  obtain ⟨c, hc⟩ : ∃ c, codeF (okB ty og sq hl hp body) ty ms = c := ⟨_, rfl⟩
  obtain ⟨f, hf⟩ : ∃ f, mayF (okB ty og sq hl hp body) ty hl hp ms frm now = f := ⟨_, rfl⟩
  by_cases h0 : c = 0
  rotate_left
  · have e1 : f = false := by rw [← hf]; unfold mayF; rw [hc, decide_eq_false h0]; rfl
    rw [hc, hf, e1]
    have hne : (c != 0) = true := by simpa using h0
    have HC := hide hc
    clear hc h0 e1 hf
    go_enter Try.func22, Try.ntmps22
    go_wp2_with fail
    refine (forwardCode ty og sq hl hp body _ ms cap _ hm ((unhide HR).below (unhide HB))).mono ?_
    rintro e w1 ⟨rfl, b1⟩
    rw [unhide HC]
    have HB1 := hide ((unhide HB).trans (b1.mono (unhide HB).size))
    clear b1
    go_wp2_with fail
    go_ret2
    exact ⟨rfl, unhide HB1⟩
  subst h0
  have hs : setB ms = true := by
    unfold codeF at hc
    split at hc
    · exact code_set (by assumption)
    · contradiction
  have HS := hide hs
  have h64 := setB_len hs
  have hfl : f = (lastB ms frm now && fwdB hl hp) := by rw [← hf]; unfold mayF; rw [hc]; rfl
  rw [hc, hf, hfl]
  have HC := hide hc
  clear hc hf hfl hs
  obtain ⟨p, hp2⟩ : ∃ p, place ms frm = p := ⟨_, rfl⟩
  obtain ⟨t, ht⟩ : ∃ t, thereB ms frm = t := ⟨_, rfl⟩
  have hlb : lastB ms frm now = (t && decide (now < (ms.getD p R.zero).til)) := by unfold lastB; rw [ht, hp2]
  have hat := @there_at ms frm
  rw [ht, hp2] at hat
  rw [hlb]
  have HP := hide hp2
  have HT := hide ht
  clear hlb hp2 ht
  cases t
  · rw [Bool.false_and, Bool.false_and]
    clear hat
    go_enter Try.func22, Try.ntmps22
    go_wp2_with fail
    refine (forwardCode ty og sq hl hp body _ ms cap _ hm ((unhide HR).below (unhide HB))).mono ?_
    rintro e w1 ⟨rfl, b1⟩
    rw [unhide HC]
    have HB1 := hide ((unhide HB).trans (b1.mono (unhide HB).size))
    clear b1
    go_wp2_with fail
    refine (keyPlace g off ms cap frm _ ((unhide HR).below (unhide HB1)) (unhide HS)).mono ?_
    rintro e w2 ⟨rfl, b2⟩
    rw [unhide HT, unhide HP]
    have HB2 := hide ((unhide HB1).trans (b2.mono (unhide HB1).size))
    clear b2
    go_wp2_with fail
    go_ret2
    exact ⟨rfl, unhide HB2⟩
  obtain ⟨hpl, _⟩ := hat rfl
  clear hat
  rw [Bool.true_and]
  have k0 : (0 : Int) ≤ (p : Int) := by omega
  have k1 : (p : Int) < (ms.length : Int) := by omega
  obtain ⟨tl, htl⟩ : ∃ tl, decide (now < (ms.getD p R.zero).til) = tl := ⟨_, rfl⟩
  obtain ⟨fw, hfw⟩ : ∃ fw, fwdB hl hp = fw := ⟨_, rfl⟩
  rw [htl, hfw]
  have HTL := hide htl
  have HFW := hide hfw
  clear htl hfw
  cases tl
  · rw [Bool.false_and]
    go_enter Try.func22, Try.ntmps22
    go_wp2_with fail
    refine (forwardCode ty og sq hl hp body _ ms cap _ hm ((unhide HR).below (unhide HB))).mono ?_
    rintro e w1 ⟨rfl, b1⟩
    rw [unhide HC]
    have HB1 := hide ((unhide HB).trans (b1.mono (unhide HB).size))
    clear b1
    go_wp2_with fail
    refine (keyPlace g off ms cap frm _ ((unhide HR).below (unhide HB1)) (unhide HS)).mono ?_
    rintro e w2 ⟨rfl, b2⟩
    rw [unhide HT, unhide HP]
    have HB2 := hide ((unhide HB1).trans (b2.mono (unhide HB1).size))
    obtain ⟨x0, x1, x2⟩ := ((unhide HR).below (unhide HB2)).at hpl
    clear b2
    have htl := unhide HTL
    generalize ms.getD p R.zero = m at *
    go_wp2_with fail
    go_ret2
    exact ⟨rfl, unhide HB2⟩
  · rw [Bool.true_and]
    go_enter Try.func22, Try.ntmps22
    go_wp2_with fail
    refine (forwardCode ty og sq hl hp body _ ms cap _ hm ((unhide HR).below (unhide HB))).mono ?_
    rintro e w1 ⟨rfl, b1⟩
    rw [unhide HC]
    have HB1 := hide ((unhide HB).trans (b1.mono (unhide HB).size))
    have HV1 := hide ((unhide HV).below b1)
    clear b1
    go_wp2_with fail
    refine (keyPlace g off ms cap frm _ ((unhide HR).below (unhide HB1)) (unhide HS)).mono ?_
    rintro e w2 ⟨rfl, b2⟩
    rw [unhide HT, unhide HP]
    have HB2 := hide ((unhide HB1).trans (b2.mono (unhide HB1).size))
    have HV2 := hide ((unhide HV1).below b2)
    obtain ⟨x0, x1, x2⟩ := ((unhide HR).below (unhide HB2)).at hpl
    obtain ⟨⟨c0, c1, c2⟩, c3, c4, c5⟩ := (unhide HV2).cells
    clear b2
    have htl := unhide HTL
    generalize ms.getD p R.zero = m at *
    go_wp2_with fail
    refine (hasHopsLeft ty og sq hl hp body _).mono ?_
    rintro e w3 ⟨rfl, b3⟩
    rw [unhide HFW]
    have HB3 := hide ((unhide HB2).trans (b3.mono (unhide HB2).size))
    clear b3 x0 x1 x2 c0 c1 c2 c3 c4 c5
    go_wp2_with fail
    go_ret2
    exact ⟨rfl, unhide HB3⟩
set_option maxHeartbeats 2000000 in
theorem l10Next (ty og sq hl hp : Int) (body : ByteArray) (w : World) (h : 0 ≤ hl ∧ hl ≤ 255 ∧ 0 ≤ hp ∧ hp ≤ 255) :
    Calls Try.prog 48 #[.agg #[.int .i64 ty, .int .i64 og, .int .i64 sq, .int .i64 hl, .int .i64 hp, .string body]] w fun e w' => e = .returned (.agg #[.int .i64 ty, .int .i64 og, .int .i64 sq, .int .i64 (hl - 1), .int .i64 (hp + 1), .string body]) ∧ Below w.heap.size w w' := by
  have HB : Hid (Below w.heap.size w w) := hide (Below.refl _ _)
  go_enter Try.func48, Try.ntmps48
  go_wp2
  refine bodyPost_ret (v := .agg #[.int .i64 ty, .int .i64 og, .int .i64 sq, .int .i64 (hl - 1), .int .i64 (hp + 1), .string body]) (by simp [results, Try.results48, go_sem]) rfl ⟨rfl, ?_⟩
  exact ((Below.refl _ _).alloc (Nat.le_refl _) _).alloc (by simp) _
set_option maxHeartbeats 4000000 in
theorem specFwd (ty og sq hl hp : Int) (body : ByteArray) (w : World) :
    Calls Try.prog 23 #[.agg #[.int .i64 ty, .int .i64 og, .int .i64 sq, .int .i64 hl, .int .i64 hp, .string body]] w fun e w' => e = .returned (.tuple #[fwdV (okB ty og sq hl hp body) ty og sq hl hp body, .int .i64 (codeG (okB ty og sq hl hp body) hl hp)]) ∧ Below w.heap.size w w' := by
  have HB : Hid (Below w.heap.size w ((w.alloc (.cells #[.int .i64 ty, .int .i64 og, .int .i64 sq, .int .i64 hl, .int .i64 hp, .string body] 42)).alloc (.cells #[.int .i64 0, .int .i64 0, .int .i64 0, .int .i64 0, .int .i64 0, .string ⟨#[]⟩] 42))) := hide (((Below.refl _ _).alloc (Nat.le_refl _) _).alloc (by simp) _)
  have HV : Hid (Mb ((w.alloc (.cells #[.int .i64 ty, .int .i64 og, .int .i64 sq, .int .i64 hl, .int .i64 hp, .string body] 42)).alloc (.cells #[.int .i64 0, .int .i64 0, .int .i64 0, .int .i64 0, .int .i64 0, .string ⟨#[]⟩] 42)) w.heap.size ty og sq hl hp body) := hide ((mb_new w _ _ _ _ _ _).below ((Below.refl _ _).alloc (Nat.le_refl _) _))
  have HZ : Hid (Mb ((w.alloc (.cells #[.int .i64 ty, .int .i64 og, .int .i64 sq, .int .i64 hl, .int .i64 hp, .string body] 42)).alloc (.cells #[.int .i64 0, .int .i64 0, .int .i64 0, .int .i64 0, .int .i64 0, .string ⟨#[]⟩] 42)) (w.heap.size + 1) 0 0 0 0 0 ⟨#[]⟩) := hide (by have := mb_new (w.alloc (.cells #[.int .i64 ty, .int .i64 og, .int .i64 sq, .int .i64 hl, .int .i64 hp, .string body] 42)) 0 0 0 0 0 ⟨#[]⟩; rw [show (w.alloc (.cells #[.int .i64 ty, .int .i64 og, .int .i64 sq, .int .i64 hl, .int .i64 hp, .string body] 42)).heap.size = w.heap.size + 1 by simp] at this; exact this)
  obtain ⟨t, ht⟩ : ∃ t, okB ty og sq hl hp body = t := ⟨_, rfl⟩
  rw [ht]
  have HO := hide ht
  have hbd : t = true → 0 ≤ hl ∧ hl ≤ 255 ∧ 0 ≤ hp ∧ hp ≤ 255 := fun h => by rw [h] at ht; unfold okB inB at ht; simp at ht; omega
  clear ht
  cases t
  · rw [show fwdV false ty og sq hl hp body = .agg #[.int .i64 0, .int .i64 0, .int .i64 0, .int .i64 0, .int .i64 0, .string ⟨#[]⟩] from rfl, show codeG false hl hp = 1 from rfl]
    clear hbd
    go_enter Try.func23, Try.ntmps23
    go_wp2_with fail
    refine (W1.specOK ty og sq hl hp body _).mono ?_
    rintro e w1 ⟨rfl, b1⟩
    rw [unhide HO]
    have HB1 := hide ((unhide HB).trans (b1.mono (unhide HB).size))
    have HZ1 := hide ((unhide HZ).below b1)
    obtain ⟨⟨z0, z1, z2⟩, z3, z4, z5⟩ := (unhide HZ1).cells
    have zf := (unhide HZ1).free
    clear b1
    go_wp2_with fail
    refine bodyPost_ret (v := .tuple #[.agg #[.int .i64 0, .int .i64 0, .int .i64 0, .int .i64 0, .int .i64 0, .string ⟨#[]⟩], .int .i64 1]) (by simp [results, Try.results23, go_sem, z0, z1, z2, z3, z4, z5]) rfl ⟨rfl, ?_⟩
    have hB := unhide HB1
    (repeat (first | (with_reducible exact hB) | (with_reducible refine Below.drew ?_) | (with_reducible refine Below.setCell ?_ ?_ _; rotate_left; (first | exact Nat.le_refl _ | (simp; done) | (dsimp only; omega))) | (with_reducible refine Below.alloc ?_ ?_ _; rotate_left; (first | exact Nat.le_refl _ | omega | (simp [World.setCell]; omega)))))
  have hb2 := hbd rfl
  clear hbd
  cases hf : fwdB hl hp
  · rw [show codeG true hl hp = 19 by unfold codeG; rw [hf]; rfl, show fwdV true ty og sq hl hp body = .agg #[.int .i64 0, .int .i64 0, .int .i64 0, .int .i64 0, .int .i64 0, .string ⟨#[]⟩] by unfold fwdV codeG; rw [hf]; rfl]
    have hff : hl < 2 ∨ (¬ hl < 2 ∧ (hp == 255) = true) := by
      unfold fwdB at hf
      by_cases h : hl < 2
      · exact .inl h
      · refine .inr ⟨h, ?_⟩
        rw [decide_eq_true (by omega), Bool.true_and] at hf
        have := of_decide_eq_false hf
        simp
        omega
    clear hf
    rcases hff with hc | ⟨hc, hc2⟩
    all_goals
      go_enter Try.func23, Try.ntmps23
      go_wp2_with fail
      refine (W1.specOK ty og sq hl hp body _).mono ?_
      rintro e w1 ⟨rfl, b1⟩
      rw [unhide HO]
      have HB1 := hide ((unhide HB).trans (b1.mono (unhide HB).size))
      have HZ1 := hide ((unhide HZ).below b1)
      have HV1 := hide ((unhide HV).below b1)
      obtain ⟨⟨c0, c1, c2⟩, c3, c4, c5⟩ := (unhide HV1).cells
      clear b1
      obtain ⟨⟨z0, z1, z2⟩, z3, z4, z5⟩ := (unhide HZ1).cells
      have zf := (unhide HZ1).free
      go_wp2_with fail
      refine bodyPost_ret (v := .tuple #[.agg #[.int .i64 0, .int .i64 0, .int .i64 0, .int .i64 0, .int .i64 0, .string ⟨#[]⟩], .int .i64 19]) (by simp [results, Try.results23, go_sem, z0, z1, z2, z3, z4, z5]) rfl ⟨rfl, ?_⟩
      have hB := unhide HB1
      (repeat (first | (with_reducible exact hB) | (with_reducible refine Below.drew ?_) | (with_reducible refine Below.setCell ?_ ?_ _; rotate_left; (first | exact Nat.le_refl _ | (simp; done) | (dsimp only; omega))) | (with_reducible refine Below.alloc ?_ ?_ _; rotate_left; (first | exact Nat.le_refl _ | omega | (simp [World.setCell]; omega)))))
  · have hff : ¬ hl < 2 ∧ (hp == 255) = false := by
      unfold fwdB at hf
      rw [Bool.and_eq_true, decide_eq_true_eq, decide_eq_true_eq] at hf
      refine ⟨by omega, ?_⟩
      simp
      omega
    rw [show codeG true hl hp = 0 by unfold codeG; rw [hf]; rfl, show fwdV true ty og sq hl hp body = .agg #[.int .i64 ty, .int .i64 og, .int .i64 sq, .int .i64 (hl - 1), .int .i64 (hp + 1), .string body] by unfold fwdV codeG; rw [hf]; rfl]
    clear hf
    obtain ⟨hc, hc2⟩ := hff
    obtain ⟨x, hx⟩ : ∃ x, hl - 1 = x := ⟨_, rfl⟩
    obtain ⟨y, hy⟩ : ∃ y, hp + 1 = y := ⟨_, rfl⟩
    rw [hx, hy]
    have HXY := hide (And.intro hx hy)
    clear hx hy
    go_enter Try.func23, Try.ntmps23
    go_wp2_with fail
    refine (W1.specOK ty og sq hl hp body _).mono ?_
    rintro e w1 ⟨rfl, b1⟩
    rw [unhide HO]
    have HB1 := hide ((unhide HB).trans (b1.mono (unhide HB).size))
    have HZ1 := hide ((unhide HZ).below b1)
    have HV1 := hide ((unhide HV).below b1)
    obtain ⟨⟨c0, c1, c2⟩, c3, c4, c5⟩ := (unhide HV1).cells
    clear b1
    go_wp2_with fail
    refine (l10Next ty og sq hl hp body _ hb2).mono ?_
    rintro e w2 ⟨rfl, b2⟩
    rw [(unhide HXY).1, (unhide HXY).2]
    have HB2 := hide ((unhide HB1).trans (b2.mono (unhide HB1).size))
    have HZ2 := hide ((unhide HZ1).below b2)
    clear b2 c0 c1 c2 c3 c4 c5
    obtain ⟨⟨z0, z1, z2⟩, z3, z4, z5⟩ := (unhide HZ2).cells
    have zf := (unhide HZ2).free
    go_wp2_with fail
    refine bodyPost_ret (v := .tuple #[.agg #[.int .i64 ty, .int .i64 og, .int .i64 sq, .int .i64 x, .int .i64 y, .string body], .int .i64 0]) (by simp [results, Try.results23, go_sem, z0, z1, z2, z3, z4, z5]) rfl ⟨rfl, ?_⟩
    have hB := unhide HB2
    (repeat (first | (with_reducible exact hB) | (with_reducible refine Below.drew ?_) | (with_reducible refine Below.setCell ?_ ?_ _; rotate_left; (first | exact Nat.le_refl _ | (simp; done) | (dsimp only; omega))) | (with_reducible refine Below.alloc ?_ ?_ _; rotate_left; (first | exact Nat.le_refl _ | omega | (simp [World.setCell]; omega)))))
theorem fwd_and (hl hp : Int) (t u : Bool) : ((decide (1 < hl) && decide (hp < 255)) && t && u) = ((t && u) && fwdB hl hp) := by
  unfold fwdB; cases decide (1 < hl) <;> cases decide (hp < 255) <;> cases t <;> cases u <;> rfl
set_option maxHeartbeats 4000000 in
theorem l10Forward (ty og sq hl hp : Int) (body : ByteArray) (g off : Nat) (ms : List R) (cap : Nat) (frm now : Int) (w : World) (hm : ms.length ≤ 4096) (hr : RM w (some ⟨g, off, none⟩) ms) :
    Calls Try.prog 44 #[.agg #[.int .i64 ty, .int .i64 og, .int .i64 sq, .int .i64 hl, .int .i64 hp, .string body], .slice (some ⟨g, off, none⟩) ms.length cap, .int .i64 frm, .int .i64 now] w fun e w' => e = .returned (.bool (lastB ms frm now && fwdB hl hp)) ∧ Below w.heap.size w w' := by
  have HB : Hid (Below w.heap.size w (w.alloc (.cells #[.int .i64 ty, .int .i64 og, .int .i64 sq, .int .i64 hl, .int .i64 hp, .string body] 42))) := hide ((Below.refl _ _).alloc (Nat.le_refl _) _)
  have HV : Hid (Mb (w.alloc (.cells #[.int .i64 ty, .int .i64 og, .int .i64 sq, .int .i64 hl, .int .i64 hp, .string body] 42)) w.heap.size ty og sq hl hp body) := hide (mb_new _ _ _ _ _ _ _)
  have HR := hide hr
  clear hr
  obtain ⟨m, hmm⟩ : ∃ m, (if thereB ms frm = true then ms.getD (place ms frm) R.zero else R.zero) = m := ⟨_, rfl⟩
  have hlb : lastB ms frm now = (thereB ms frm && decide (now < m.til)) := by
    unfold lastB
    cases h : thereB ms frm
    · rfl
    · rw [h, if_pos rfl] at hmm; rw [hmm]
  rw [hlb]
  obtain ⟨t, ht⟩ : ∃ t, thereB ms frm = t := ⟨_, rfl⟩
  rw [ht]
  have HT := hide ht
  have HM := hide hmm
  clear ht hmm hlb
  obtain ⟨key, til, val⟩ := m
  dsimp only
  rw [← fwd_and]
  by_cases h1 : 1 < hl
  by_cases h2 : hp < 255
  cases t
  rotate_left
  by_cases h3 : now < til
  all_goals
    go_enter Try.func44, Try.ntmps44
    go_wp2_with fail
    refine (l03Find g off ms cap frm _ hm ((unhide HR).below (unhide HB))).mono ?_
    rintro e w1 ⟨rfl, b1⟩
    rw [unhide HM, unhide HT]
    unfold R.value
    dsimp only
    have HB1 := hide ((unhide HB).trans (b1.mono (unhide HB).size))
    have HV1 := hide ((unhide HV).below b1)
    have HBA := hide ((unhide HB1).alloc (unhide HB1).size (.cells #[.int .i64 key, .int .i64 til, .int .i64 val] 58))
    obtain ⟨⟨c0, c1, c2⟩, c3, c4, c5⟩ := (unhide HV1).cells
    have hlt := (unhide HV1).lt
    clear b1
    go_wp2_with fail
    go_ret
    refine ⟨ret_bool ?_, unhide HBA⟩
    first | (simp [*]; done) | (simp [*]; intros; omega)
set_option maxHeartbeats 4000000 in
theorem specMay (ty og sq hl hp : Int) (body : ByteArray) (g off : Nat) (ms : List R) (cap : Nat) (frm now : Int) (w : World) (hm : ms.length ≤ 1048576) (hr : RM w (some ⟨g, off, none⟩) ms) :
    Calls Try.prog 20 #[.agg #[.int .i64 ty, .int .i64 og, .int .i64 sq, .int .i64 hl, .int .i64 hp, .string body], .slice (some ⟨g, off, none⟩) ms.length cap, .int .i64 frm, .int .i64 now] w fun e w' => e = .returned (.tuple #[.bool (mayF (okB ty og sq hl hp body) ty hl hp ms frm now), .int .i64 (codeF (okB ty og sq hl hp body) ty ms)]) ∧ Below w.heap.size w w' := by
  have HB : Hid (Below w.heap.size w (w.alloc (.cells #[.int .i64 ty, .int .i64 og, .int .i64 sq, .int .i64 hl, .int .i64 hp, .string body] 42))) := hide ((Below.refl _ _).alloc (Nat.le_refl _) _)
  have HV : Hid (Mb (w.alloc (.cells #[.int .i64 ty, .int .i64 og, .int .i64 sq, .int .i64 hl, .int .i64 hp, .string body] 42)) w.heap.size ty og sq hl hp body) := hide (mb_new _ _ _ _ _ _ _)
  have HR := hide hr
  clear hr
  obtain ⟨t, ht⟩ : ∃ t, okB ty og sq hl hp body = t := ⟨_, rfl⟩
  rw [ht]
  have HO := hide ht
  clear ht
  have bad : ∀ c, codeF t ty ms = c → c ≠ 0 → mayF t ty hl hp ms frm now = false := fun c hc h0 => by unfold mayF; rw [hc, decide_eq_false h0]; rfl
  by_cases hbig : (4096 : Int) < ms.length
  · have hc : codeF t ty ms = 2 := by unfold codeF; rw [code_long (by omega)]; rfl
    rw [bad _ hc (by omega), hc]
    clear bad hc
    go_enter Try.func20, Try.ntmps20
    go_wp2_with fail
    go_ret2
    exact ⟨rfl, unhide HB⟩
  cases t
  · have hc : codeF false ty ms = 1 := by
      unfold codeF
      split
      · rfl
      · cases hs : setB ms
        · exact code_bad (by omega) hs
        · exact absurd (code_zero hs) (by assumption)
    rw [bad _ hc (by omega), hc]
    clear bad hc
    go_enter Try.func20, Try.ntmps20
    go_wp2_with fail
    refine (W1.specOK ty og sq hl hp body _).mono ?_
    rintro e w1 ⟨rfl, b1⟩
    rw [unhide HO]
    have HB1 := hide ((unhide HB).trans (b1.mono (unhide HB).size))
    clear b1
    go_wp2_with fail
    go_ret2
    exact ⟨rfl, unhide HB1⟩
  cases hs : setB ms
  · have hc : codeF true ty ms = 1 := by unfold codeF; rw [code_bad (by omega) hs]; rfl
    rw [bad _ hc (by omega), hc]
    have HS := hide hs
    clear bad hc hs
    go_enter Try.func20, Try.ntmps20
    go_wp2_with fail
    refine (W1.specOK ty og sq hl hp body _).mono ?_
    rintro e w1 ⟨rfl, b1⟩
    rw [unhide HO]
    have HB1 := hide ((unhide HB).trans (b1.mono (unhide HB).size))
    clear b1
    go_wp2_with fail
    refine (St.specOK _ ms cap _ hm ((unhide HR).below (unhide HB1))).mono ?_
    rintro e w2 ⟨rfl, b2⟩
    rw [unhide HS]
    have HB2 := hide ((unhide HB1).trans (b2.mono (unhide HB1).size))
    clear b2
    go_wp2_with fail
    go_ret2
    exact ⟨rfl, unhide HB2⟩
  have hc0 := code_zero hs
  have HS := hide hs
  clear hs
  have hsp : ((ty != 2) = false ∧ codeF true ty ms = 0) ∨ ((ty != 2) = true ∧ codeF true ty ms = 18) := by
    unfold codeF
    rw [if_pos hc0, if_pos rfl]
    by_cases h : ty = 2
    · exact .inl ⟨by simpa using h, if_pos h⟩
    · exact .inr ⟨by simpa using h, if_neg h⟩
  clear hc0
  rcases hsp with ⟨hb2, hc⟩ | ⟨hb2, hc⟩
  · have hmy : mayF true ty hl hp ms frm now = (lastB ms frm now && fwdB hl hp) := by unfold mayF; rw [hc]; rfl
    rw [hmy, hc]
    obtain ⟨v, hv⟩ : ∃ v, (lastB ms frm now && fwdB hl hp) = v := ⟨_, rfl⟩
    rw [hv]
    have HVV := hide hv
    clear bad hc hmy hv
    go_enter Try.func20, Try.ntmps20
    go_wp2_with fail
    refine (W1.specOK ty og sq hl hp body _).mono ?_
    rintro e w1 ⟨rfl, b1⟩
    rw [unhide HO]
    have HB1 := hide ((unhide HB).trans (b1.mono (unhide HB).size))
    have HV1 := hide ((unhide HV).below b1)
    clear b1
    go_wp2_with fail
    refine (St.specOK _ ms cap _ hm ((unhide HR).below (unhide HB1))).mono ?_
    rintro e w2 ⟨rfl, b2⟩
    rw [unhide HS]
    have HB2 := hide ((unhide HB1).trans (b2.mono (unhide HB1).size))
    obtain ⟨⟨c0, c1, c2⟩, c3, c4, c5⟩ := ((unhide HV1).below b2).cells
    clear b2
    go_wp2_with fail
    refine (l10Forward ty og sq hl hp body g off ms cap frm now _ (by omega) ((unhide HR).below (unhide HB2))).mono ?_
    rintro e w3 ⟨rfl, b3⟩
    rw [unhide HVV]
    have HB3 := hide ((unhide HB2).trans (b3.mono (unhide HB2).size))
    clear b3 c0 c1 c2 c3 c4 c5
    go_wp2_with fail
    go_ret2
    exact ⟨rfl, unhide HB3⟩
  · rw [bad _ hc (by omega), hc]
    clear bad hc
    go_enter Try.func20, Try.ntmps20
    go_wp2_with fail
    refine (W1.specOK ty og sq hl hp body _).mono ?_
    rintro e w1 ⟨rfl, b1⟩
    rw [unhide HO]
    have HB1 := hide ((unhide HB).trans (b1.mono (unhide HB).size))
    have HV1 := hide ((unhide HV).below b1)
    clear b1
    go_wp2_with fail
    refine (St.specOK _ ms cap _ hm ((unhide HR).below (unhide HB1))).mono ?_
    rintro e w2 ⟨rfl, b2⟩
    rw [unhide HS]
    have HB2 := hide ((unhide HB1).trans (b2.mono (unhide HB1).size))
    obtain ⟨⟨c0, c1, c2⟩, c3, c4, c5⟩ := ((unhide HV1).below b2).cells
    clear b2
    go_wp2_with fail
    go_ret2
    exact ⟨rfl, unhide HB2⟩
end Du
end Go.Proofs.Ytlcppgnnlgigmab
