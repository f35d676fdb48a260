/-
  Contracts of passing on: hasHopsLeft, forwardCode, MayForward, Forwarded (the program's); l10Forward, MayForward, l10Next, Forwarded (the model's).
-/
import Derived.Test.YtlcppgnnlgigmaaDupM
namespace Go.Proofs.Ytlcppgnnlgigmaa
open Go.ChangeShapes Go.WideShapes Go.ChangeAt Go.RowKit
set_option linter.unusedVariables false
set_option linter.unusedSimpArgs false
set_option maxRecDepth 100000
attribute [local go_sem ↓] Go.wp_at_zero Go.wp_at_succ
namespace Du
open W1 Tu St
/-- A message in a variable's block. -/
def Mb (w : World) (b : Nat) (ty og sq hl hp : Int) (body : ByteArray) : Prop := w.heap[b]? = some (.cells #[.int .i64 ty, .int .i64 og, .int .i64 sq, .int .i64 hl, .int .i64 hp, .string body] 62 (0, 0))
theorem Mb.cells {w : World} {b : Nat} {ty og sq hl hp : Int} {body : ByteArray} (h : Mb w b ty og sq hl hp body) : (w.cell? ⟨b, 0, none⟩ = some (.int .i64 ty) ∧ w.cell? ⟨b, 1, none⟩ = some (.int .i64 og) ∧ w.cell? ⟨b, 2, none⟩ = some (.int .i64 sq)) ∧ w.cell? ⟨b, 3, none⟩ = some (.int .i64 hl) ∧ w.cell? ⟨b, 4, none⟩ = some (.int .i64 hp) ∧ w.cell? ⟨b, 5, none⟩ = some (.string body) := by
  unfold Mb at h; refine ⟨⟨?_, ?_, ?_⟩, ?_, ?_, ?_⟩ <;> simp [World.cell?, h]
theorem Mb.free {w : World} {b : Nat} {ty og sq hl hp : Int} {body : ByteArray} (h : Mb w b ty og sq hl hp body) (i : Nat) : w.frozen? ⟨b, i, none⟩ = false := by unfold Mb at h; simp [World.frozen?, h]
theorem Mb.lt {w : World} {b : Nat} {ty og sq hl hp : Int} {body : ByteArray} (h : Mb w b ty og sq hl hp body) : b < w.heap.size := (Array.getElem?_eq_some_iff.1 h).1
theorem Mb.below {w w' : World} {b : Nat} {ty og sq hl hp : Int} {body : ByteArray} (h : Mb w b ty og sq hl hp body) (hb : Below w.heap.size w w') : Mb w' b ty og sq hl hp body := (hb.block b h.lt).trans h
theorem mb_new (w : World) (ty og sq hl hp : Int) (body : ByteArray) : Mb (w.alloc (.cells #[.int .i64 ty, .int .i64 og, .int .i64 sq, .int .i64 hl, .int .i64 hp, .string body] 62)) w.heap.size ty og sq hl hp body := (MapKept.heap_alloc w _).1
set_option maxHeartbeats 1000000 in
theorem hasHopsLeft (ty og sq hl hp : Int) (body : ByteArray) (w : World) : Calls Try.prog 80 #[.agg #[.int .i64 ty, .int .i64 og, .int .i64 sq, .int .i64 hl, .int .i64 hp, .string body]] w fun e w' => e = .returned (.bool (fwdB hl hp)) ∧ Below w.heap.size w w' := by
  have HB : Hid (Below w.heap.size w (w.alloc (.cells #[.int .i64 ty, .int .i64 og, .int .i64 sq, .int .i64 hl, .int .i64 hp, .string body] 62))) := hide ((Below.refl _ _).alloc (Nat.le_refl _) _)
  by_cases h1 : 1 < hl
  rotate_left
  by_cases h2 : hp < 255
  all_goals
    go_enter Try.func80, Try.ntmps80
    go_wp2
    go_ret
    refine ⟨ret_bool ?_, unhide HB⟩
    unfold fwdB
    simp [*]
set_option maxHeartbeats 2000000 in
theorem forwardCode (ty og sq hl hp : Int) (body : ByteArray) (a : Option Addr) (ms : List R) (cap : Nat) (w : World) (hm : ms.length ≤ 1048576) (hr : RM w a ms) :
    Calls Try.prog 79 #[.agg #[.int .i64 ty, .int .i64 og, .int .i64 sq, .int .i64 hl, .int .i64 hp, .string body], .slice a ms.length cap] w fun e w' => e = .returned (.int .i64 (codeF (okB ty og sq hl hp body) ty ms)) ∧ Below w.heap.size w w' := by
  have HB : Hid (Below w.heap.size w (w.alloc (.cells #[.int .i64 ty, .int .i64 og, .int .i64 sq, .int .i64 hl, .int .i64 hp, .string body] 62))) := hide ((Below.refl _ _).alloc (Nat.le_refl _) _)
  have HV : Hid (Mb (w.alloc (.cells #[.int .i64 ty, .int .i64 og, .int .i64 sq, .int .i64 hl, .int .i64 hp, .string body] 62)) w.heap.size ty og sq hl hp body) := hide (mb_new _ _ _ _ _ _ _)
  have HR := hide hr
  clear hr
  obtain ⟨c, hc⟩ : ∃ c, codeS ms = c := ⟨_, rfl⟩
  by_cases h0 : c = 0
  · subst h0
    obtain ⟨t, ht⟩ : ∃ t, okB ty og sq hl hp body = t := ⟨_, rfl⟩
    rw [ht]
    have HT : Hid (codeF t ty ms = if t = true then (if ty = 2 then 0 else 18) else 1) := hide (by unfold codeF; rw [if_pos hc])
    rw [unhide HT]
    have HC := hide hc
    have HA := hide ht
    clear hc ht
    cases t
    · rw [if_neg (by simp)]
      go_enter Try.func79, Try.ntmps79
      go_wp2_with fail
      refine (setCode _ ms cap _ hm ((unhide HR).below (unhide HB))).mono ?_
      rintro e w1 ⟨rfl, b1⟩
      rw [unhide HC]
      have HB1 := hide ((unhide HB).trans (b1.mono (unhide HB).size))
      obtain ⟨⟨c0, c1, c2⟩, c3, c4, c5⟩ := ((unhide HV).below b1).cells
      clear b1
      go_wp2_with fail
      refine (W1.implOK ty og sq hl hp body _).mono ?_
      rintro e w2 ⟨rfl, b2⟩
      rw [unhide HA]
      have HB2 := hide ((unhide HB1).trans (b2.mono (unhide HB1).size))
      clear b2 c0 c1 c2 c3 c4 c5
      go_wp2_with fail
      go_ret
      exact ⟨rfl, unhide HB2⟩
    · rw [if_pos rfl]
      have hsp : ((ty != 2) = false ∧ (if ty = 2 then (0 : Int) else 18) = 0) ∨ ((ty != 2) = true ∧ (if ty = 2 then (0 : Int) else 18) = 18) := by
        by_cases h : ty = 2
        · exact .inl ⟨by simpa using h, if_pos h⟩
        · exact .inr ⟨by simpa using h, if_neg h⟩
      rcases hsp with ⟨hb2, he⟩ | ⟨hb2, he⟩
      all_goals
        rw [he]
        clear he
        go_enter Try.func79, Try.ntmps79
        go_wp2_with fail
        refine (setCode _ ms cap _ hm ((unhide HR).below (unhide HB))).mono ?_
        rintro e w1 ⟨rfl, b1⟩
        rw [unhide HC]
        have HB1 := hide ((unhide HB).trans (b1.mono (unhide HB).size))
        have HV1 := hide ((unhide HV).below b1)
        obtain ⟨⟨c0, c1, c2⟩, c3, c4, c5⟩ := (unhide HV1).cells
        clear b1
        go_wp2_with fail
        refine (W1.implOK ty og sq hl hp body _).mono ?_
        rintro e w2 ⟨rfl, b2⟩
        rw [unhide HA]
        have HB2 := hide ((unhide HB1).trans (b2.mono (unhide HB1).size))
        have HV2 := hide ((unhide HV1).below b2)
        clear b2 c0 c1 c2 c3 c4 c5
        obtain ⟨⟨c0, c1, c2⟩, c3, c4, c5⟩ := (unhide HV2).cells
        go_wp2_with fail
        go_ret
        exact ⟨rfl, unhide HB2⟩
  · have HT : Hid (codeF (okB ty og sq hl hp body) ty ms = c) := hide (by unfold codeF; rw [if_neg (by rw [hc]; exact h0), hc])
    rw [unhide HT]
    have hne : (c != 0) = true := by simpa using h0
    have HC := hide hc
    clear hc h0
    go_enter Try.func79, Try.ntmps79
    go_wp2_with fail
    refine (setCode _ ms cap _ hm ((unhide HR).below (unhide HB))).mono ?_
    rintro e w1 ⟨rfl, b1⟩
    rw [unhide HC]
    have HB1 := hide ((unhide HB).trans (b1.mono (unhide HB).size))
    clear b1
    go_wp2_with fail
    go_ret
    exact ⟨rfl, unhide HB1⟩
/-- What Forwarded answers. -/
def fwdV (ok : Bool) (ty og sq hl hp : Int) (body : ByteArray) : Value := if codeG ok hl hp = 0 then .agg #[.int .i64 ty, .int .i64 og, .int .i64 sq, .int .i64 (hl - 1), .int .i64 (hp + 1), .string body] else .agg #[.int .i64 0, .int .i64 0, .int .i64 0, .int .i64 0, .int .i64 0, .string ⟨#[]⟩]
set_option maxHeartbeats 4000000 in
theorem implFwd (ty og sq hl hp : Int) (body : ByteArray) (w : World) :
    Calls Try.prog 28 #[.agg #[.int .i64 ty, .int .i64 og, .int .i64 sq, .int .i64 hl, .int .i64 hp, .string body]] w fun e w' => e = .returned (.tuple #[fwdV (okB ty og sq hl hp body) ty og sq hl hp body, .int .i64 (codeG (okB ty og sq hl hp body) hl hp)]) ∧ Below w.heap.size w w' := by
  have HB : Hid (Below w.heap.size w ((w.alloc (.cells #[.int .i64 ty, .int .i64 og, .int .i64 sq, .int .i64 hl, .int .i64 hp, .string body] 62)).alloc (.cells #[.int .i64 0, .int .i64 0, .int .i64 0, .int .i64 0, .int .i64 0, .string ⟨#[]⟩] 62))) := hide (((Below.refl _ _).alloc (Nat.le_refl _) _).alloc (by simp) _)
  have HV : Hid (Mb ((w.alloc (.cells #[.int .i64 ty, .int .i64 og, .int .i64 sq, .int .i64 hl, .int .i64 hp, .string body] 62)).alloc (.cells #[.int .i64 0, .int .i64 0, .int .i64 0, .int .i64 0, .int .i64 0, .string ⟨#[]⟩] 62)) w.heap.size ty og sq hl hp body) := hide ((mb_new w _ _ _ _ _ _).below ((Below.refl _ _).alloc (Nat.le_refl _) _))
  have HZ : Hid (Mb ((w.alloc (.cells #[.int .i64 ty, .int .i64 og, .int .i64 sq, .int .i64 hl, .int .i64 hp, .string body] 62)).alloc (.cells #[.int .i64 0, .int .i64 0, .int .i64 0, .int .i64 0, .int .i64 0, .string ⟨#[]⟩] 62)) (w.heap.size + 1) 0 0 0 0 0 ⟨#[]⟩) := hide (by have := mb_new (w.alloc (.cells #[.int .i64 ty, .int .i64 og, .int .i64 sq, .int .i64 hl, .int .i64 hp, .string body] 62)) 0 0 0 0 0 ⟨#[]⟩; rw [show (w.alloc (.cells #[.int .i64 ty, .int .i64 og, .int .i64 sq, .int .i64 hl, .int .i64 hp, .string body] 62)).heap.size = w.heap.size + 1 by simp] at this; exact this)
  obtain ⟨t, ht⟩ : ∃ t, okB ty og sq hl hp body = t := ⟨_, rfl⟩
  rw [ht]
  have HO := hide ht
  have hbd : t = true → 0 ≤ hl ∧ hl ≤ 255 ∧ 0 ≤ hp ∧ hp ≤ 255 := fun h => by rw [h] at ht; unfold okB inB at ht; simp at ht; omega
  clear ht
  cases t
  · rw [show fwdV false ty og sq hl hp body = .agg #[.int .i64 0, .int .i64 0, .int .i64 0, .int .i64 0, .int .i64 0, .string ⟨#[]⟩] from rfl, show codeG false hl hp = 1 from rfl]
    clear hbd
    go_enter Try.func28, Try.ntmps28
    go_wp2_with fail
    refine (W1.implOK ty og sq hl hp body _).mono ?_
    rintro e w1 ⟨rfl, b1⟩
    rw [unhide HO]
    have HB1 := hide ((unhide HB).trans (b1.mono (unhide HB).size))
    have HZ1 := hide ((unhide HZ).below b1)
    obtain ⟨⟨z0, z1, z2⟩, z3, z4, z5⟩ := (unhide HZ1).cells
    have zf := (unhide HZ1).free
    clear b1
    go_wp2_with fail
    refine bodyPost_ret (v := .tuple #[.agg #[.int .i64 0, .int .i64 0, .int .i64 0, .int .i64 0, .int .i64 0, .string ⟨#[]⟩], .int .i64 1]) (by simp [results, Try.results28, go_sem, z0, z1, z2, z3, z4, z5]) rfl ⟨rfl, ?_⟩
    have hB := unhide HB1
    (repeat (first | (with_reducible exact hB) | (with_reducible refine Below.drew ?_) | (with_reducible refine Below.setCell ?_ ?_ _; rotate_left; (first | exact Nat.le_refl _ | (simp; done) | (dsimp only; omega))) | (with_reducible refine Below.alloc ?_ ?_ _; rotate_left; (first | exact Nat.le_refl _ | omega | (simp [World.setCell]; omega)))))
  have hb2 := hbd rfl
  clear hbd
  cases hf : fwdB hl hp
  · rw [show codeG true hl hp = 19 by unfold codeG; rw [hf]; rfl, show fwdV true ty og sq hl hp body = .agg #[.int .i64 0, .int .i64 0, .int .i64 0, .int .i64 0, .int .i64 0, .string ⟨#[]⟩] by unfold fwdV codeG; rw [hf]; rfl]
    have HF := hide hf
    clear hf
    go_enter Try.func28, Try.ntmps28
    go_wp2_with fail
    refine (W1.implOK ty og sq hl hp body _).mono ?_
    rintro e w1 ⟨rfl, b1⟩
    rw [unhide HO]
    have HB1 := hide ((unhide HB).trans (b1.mono (unhide HB).size))
    have HZ1 := hide ((unhide HZ).below b1)
    have HV1 := hide ((unhide HV).below b1)
    obtain ⟨⟨c0, c1, c2⟩, c3, c4, c5⟩ := (unhide HV1).cells
    clear b1
    go_wp2_with fail
    refine (hasHopsLeft ty og sq hl hp body _).mono ?_
    rintro e w2 ⟨rfl, b2⟩
    rw [unhide HF]
    have HB2 := hide ((unhide HB1).trans (b2.mono (unhide HB1).size))
    have HZ2 := hide ((unhide HZ1).below b2)
    clear b2 c0 c1 c2 c3 c4 c5
    obtain ⟨⟨z0, z1, z2⟩, z3, z4, z5⟩ := (unhide HZ2).cells
    have zf := (unhide HZ2).free
    go_wp2_with fail
    refine bodyPost_ret (v := .tuple #[.agg #[.int .i64 0, .int .i64 0, .int .i64 0, .int .i64 0, .int .i64 0, .string ⟨#[]⟩], .int .i64 19]) (by simp [results, Try.results28, go_sem, z0, z1, z2, z3, z4, z5]) rfl ⟨rfl, ?_⟩
    have hB := unhide HB2
    (repeat (first | (with_reducible exact hB) | (with_reducible refine Below.drew ?_) | (with_reducible refine Below.setCell ?_ ?_ _; rotate_left; (first | exact Nat.le_refl _ | (simp; done) | (dsimp only; omega))) | (with_reducible refine Below.alloc ?_ ?_ _; rotate_left; (first | exact Nat.le_refl _ | omega | (simp [World.setCell]; omega)))))
  · have hff : 1 < hl ∧ hp < 255 := by unfold fwdB at hf; simpa using hf
    rw [show codeG true hl hp = 0 by unfold codeG; rw [hf]; rfl, show fwdV true ty og sq hl hp body = .agg #[.int .i64 ty, .int .i64 og, .int .i64 sq, .int .i64 (hl - 1), .int .i64 (hp + 1), .string body] by unfold fwdV codeG; rw [hf]; rfl]
    have HF := hide hf
    clear hf
    go_enter Try.func28, Try.ntmps28
    go_wp2_with fail
    refine (W1.implOK ty og sq hl hp body _).mono ?_
    rintro e w1 ⟨rfl, b1⟩
    rw [unhide HO]
    have HB1 := hide ((unhide HB).trans (b1.mono (unhide HB).size))
    have HZ1 := hide ((unhide HZ).below b1)
    have HV1 := hide ((unhide HV).below b1)
    obtain ⟨⟨c0, c1, c2⟩, c3, c4, c5⟩ := (unhide HV1).cells
    clear b1
    go_wp2_with fail
    refine (hasHopsLeft ty og sq hl hp body _).mono ?_
    rintro e w2 ⟨rfl, b2⟩
    rw [unhide HF]
    have HB2 := hide ((unhide HB1).trans (b2.mono (unhide HB1).size))
    have HZ2 := hide ((unhide HZ1).below b2)
    have HV2 := hide ((unhide HV1).below b2)
    clear b2 c0 c1 c2 c3 c4 c5
    obtain ⟨⟨z0, z1, z2⟩, z3, z4, z5⟩ := (unhide HZ2).cells
    have zf := (unhide HZ2).free
    obtain ⟨⟨c0, c1, c2⟩, c3, c4, c5⟩ := (unhide HV2).cells
    have cf := (unhide HV2).free
    have hne : w.heap.size ≠ w.heap.size + 1 := by omega
    have hne' : w.heap.size + 1 ≠ w.heap.size := by omega
    go_wp2_with fail
    refine bodyPost_ret (v := .tuple #[.agg #[.int .i64 ty, .int .i64 og, .int .i64 sq, .int .i64 (hl - 1), .int .i64 (hp + 1), .string body], .int .i64 0]) (by simp [results, Try.results28, go_sem, z0, z1, z2, z3, z4, z5]) rfl ⟨rfl, ?_⟩
    have hB := unhide HB2
    (repeat (first | (with_reducible exact hB) | (with_reducible refine Below.drew ?_) | (with_reducible refine Below.setCell ?_ ?_ _; rotate_left; (first | exact Nat.le_refl _ | (simp; done) | (dsimp only; omega))) | (with_reducible refine Below.alloc ?_ ?_ _; rotate_left; (first | exact Nat.le_refl _ | omega | (simp [World.setCell]; omega)))))
set_option maxHeartbeats 4000000 in
theorem implMay (ty og sq hl hp : Int) (body : ByteArray) (g off : Nat) (ms : List R) (cap : Nat) (frm now : Int) (w : World) (hm : ms.length ≤ 1048576) (hr : RM w (some ⟨g, off, none⟩) ms) :
    Calls Try.prog 27 #[.agg #[.int .i64 ty, .int .i64 og, .int .i64 sq, .int .i64 hl, .int .i64 hp, .string body], .slice (some ⟨g, off, none⟩) ms.length cap, .int .i64 frm, .int .i64 now] w fun e w' => e = .returned (.tuple #[.bool (mayF (okB ty og sq hl hp body) ty hl hp ms frm now), .int .i64 (codeF (okB ty og sq hl hp body) ty ms)]) ∧ Below w.heap.size w w' := by
  have HB : Hid (Below w.heap.size w (w.alloc (.cells #[.int .i64 ty, .int .i64 og, .int .i64 sq, .int .i64 hl, .int .i64 hp, .string body] 62))) := hide ((Below.refl _ _).alloc (Nat.le_refl _) _)
  have HV : Hid (Mb (w.alloc (.cells #[.int .i64 ty, .int .i64 og, .int .i64 sq, .int .i64 hl, .int .i64 hp, .string body] 62)) w.heap.size ty og sq hl hp body) := hide (mb_new _ _ _ _ _ _ _)
  have HR := hide hr
  clear hr
  obtain ⟨c, hc⟩ : ∃ c, codeF (okB ty og sq hl hp body) ty ms = c := ⟨_, rfl⟩
  obtain ⟨f, hf⟩ : ∃ f, mayF (okB ty og sq hl hp body) ty hl hp ms frm now = f := ⟨_, rfl⟩
  by_cases h0 : c = 0
  rotate_left
  · have e1 : f = false := by rw [← hf]; unfold mayF; rw [hc, decide_eq_false h0]; rfl
    rw [hc, hf, e1]
    have hne : (c != 0) = true := by simpa using h0
    have HC := hide hc
    clear hc h0 e1 hf
    go_enter Try.func27, Try.ntmps27
    go_wp2_with fail
    refine (forwardCode ty og sq hl hp body _ ms cap _ hm ((unhide HR).below (unhide HB))).mono ?_
    rintro e w1 ⟨rfl, b1⟩
    rw [unhide HC]
    have HB1 := hide ((unhide HB).trans (b1.mono (unhide HB).size))
    clear b1
    go_wp2_with fail
    go_ret2
    exact ⟨rfl, unhide HB1⟩
  subst h0
  have hs : setB ms = true := by
    unfold codeF at hc
    split at hc
    · exact code_set (by assumption)
    · contradiction
  have HS := hide hs
  have h64 := setB_len hs
  have hfl : f = (lastB ms frm now && fwdB hl hp) := by rw [← hf]; unfold mayF; rw [hc]; rfl
  rw [hc, hf, hfl]
  have HC := hide hc
  clear hc hf hfl hs
  obtain ⟨p, hp2⟩ : ∃ p, place ms frm = p := ⟨_, rfl⟩
  obtain ⟨t, ht⟩ : ∃ t, thereB ms frm = t := ⟨_, rfl⟩
  have hlb : lastB ms frm now = (t && decide (now < (ms.getD p R.zero).til)) := by unfold lastB; rw [ht, hp2]
  have hat := @there_at ms frm
  rw [ht, hp2] at hat
  rw [hlb]
  have HP := hide hp2
  have HT := hide ht
  clear hlb hp2 ht
  cases t
  · rw [Bool.false_and, Bool.false_and]
    clear hat
    go_enter Try.func27, Try.ntmps27
    go_wp2_with fail
    refine (forwardCode ty og sq hl hp body _ ms cap _ hm ((unhide HR).below (unhide HB))).mono ?_
    rintro e w1 ⟨rfl, b1⟩
    rw [unhide HC]
    have HB1 := hide ((unhide HB).trans (b1.mono (unhide HB).size))
    clear b1
    go_wp2_with fail
    refine (keyPlace g off ms cap frm _ ((unhide HR).below (unhide HB1)) (unhide HS)).mono ?_
    rintro e w2 ⟨rfl, b2⟩
    rw [unhide HT, unhide HP]
    have HB2 := hide ((unhide HB1).trans (b2.mono (unhide HB1).size))
    clear b2
    go_wp2_with fail
    go_ret2
    exact ⟨rfl, unhide HB2⟩
  obtain ⟨hpl, _⟩ := hat rfl
  clear hat
  rw [Bool.true_and]
  have k0 : (0 : Int) ≤ (p : Int) := by omega
  have k1 : (p : Int) < (ms.length : Int) := by omega
  obtain ⟨tl, htl⟩ : ∃ tl, decide (now < (ms.getD p R.zero).til) = tl := ⟨_, rfl⟩
  obtain ⟨fw, hfw⟩ : ∃ fw, fwdB hl hp = fw := ⟨_, rfl⟩
  rw [htl, hfw]
  have HTL := hide htl
  have HFW := hide hfw
  clear htl hfw
  cases tl
  · rw [Bool.false_and]
    go_enter Try.func27, Try.ntmps27
    go_wp2_with fail
    refine (forwardCode ty og sq hl hp body _ ms cap _ hm ((unhide HR).below (unhide HB))).mono ?_
    rintro e w1 ⟨rfl, b1⟩
    rw [unhide HC]
    have HB1 := hide ((unhide HB).trans (b1.mono (unhide HB).size))
    clear b1
    go_wp2_with fail
    refine (keyPlace g off ms cap frm _ ((unhide HR).below (unhide HB1)) (unhide HS)).mono ?_
    rintro e w2 ⟨rfl, b2⟩
    rw [unhide HT, unhide HP]
    have HB2 := hide ((unhide HB1).trans (b2.mono (unhide HB1).size))
    obtain ⟨x0, x1, x2⟩ := ((unhide HR).below (unhide HB2)).at hpl
    clear b2
    have htl := unhide HTL
    generalize ms.getD p R.zero = m at *
    go_wp2_with fail
    go_ret2
    exact ⟨rfl, unhide HB2⟩
  · rw [Bool.true_and]
    go_enter Try.func27, Try.ntmps27
    go_wp2_with fail
    refine (forwardCode ty og sq hl hp body _ ms cap _ hm ((unhide HR).below (unhide HB))).mono ?_
    rintro e w1 ⟨rfl, b1⟩
    rw [unhide HC]
    have HB1 := hide ((unhide HB).trans (b1.mono (unhide HB).size))
    have HV1 := hide ((unhide HV).below b1)
    clear b1
    go_wp2_with fail
    refine (keyPlace g off ms cap frm _ ((unhide HR).below (unhide HB1)) (unhide HS)).mono ?_
    rintro e w2 ⟨rfl, b2⟩
    rw [unhide HT, unhide HP]
    have HB2 := hide ((unhide HB1).trans (b2.mono (unhide HB1).size))
    have HV2 := hide ((unhide HV1).below b2)
    obtain ⟨x0, x1, x2⟩ := ((unhide HR).below (unhide HB2)).at hpl
    obtain ⟨⟨c0, c1, c2⟩, c3, c4, c5⟩ := (unhide HV2).cells
    clear b2
    have htl := unhide HTL
    generalize ms.getD p R.zero = m at *
    go_wp2_with fail
    refine (hasHopsLeft ty og sq hl hp body _).mono ?_
    rintro e w3 ⟨rfl, b3⟩
    rw [unhide HFW]
    have HB3 := hide ((unhide HB2).trans (b3.mono (unhide HB2).size))
    clear b3 x0 x1 x2 c0 c1 c2 c3 c4 c5
    go_wp2_with fail
    go_ret2
    exact ⟨rfl, unhide HB3⟩
end Du
end Go.Proofs.Ytlcppgnnlgigmaa
