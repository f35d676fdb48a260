/-
  Contract of the model's MessageText: the text of a right message, or none and the code. It changes nothing that was there.
-/
import Derived.Test.YtmelbilepfnmjahDoorDig
namespace Go.Proofs.YtmelbilepfnmjahDoor
open Go.ChangeShapes Go.WideShapes Go.ChangeAt Go.RowKit
set_option linter.unusedVariables false
set_option linter.unusedSimpArgs false
attribute [local go_sem ↓] Go.wp_at_zero Go.wp_at_succ
attribute [local go_sem] Go.strOfNums_size ByteArray.size_append
namespace Tx
open W1 Di
/-- The word of a type; a blank; a number's text; a message's text. -/
def kw (k : Nat) : ByteArray := if k = 1 then ⟨#[104, 101, 108, 108, 111]⟩ else ⟨#[116, 99]⟩
def sp : ByteArray := ⟨#[32]⟩
def num (n : Int) : ByteArray := dig n.toNat
def text (k : Nat) (og sq hl hp n : Int) : ByteArray := ((((((((((kw k ++ sp) ++ num og) ++ sp) ++ num sq) ++ sp) ++ num hl) ++ sp) ++ num hp) ++ sp) ++ num n)
def textV (ty og sq hl hp : Int) (body : ByteArray) : Value := if okB ty og sq hl hp body = true then .tuple #[.string (text ty.toNat og sq hl hp body.size), .int .i64 0] else .tuple #[.string ⟨#[]⟩, .int .i64 1]
theorem num_digits (n : Int) (h0 : 0 ≤ n) (h1 : n ≤ 65535) (w : World) :
    Calls Tryd.prog 9 #[.int .i64 n] w fun e w' => e = .returned (.string (num n)) ∧ Below w.heap.size w w' := by
  have := digits n.toNat (by omega) w
  rw [show ((n.toNat : Nat) : Int) = n by omega] at this
  exact this
theorem kw_size (k : Nat) : (kw k).size ≤ 5 := by unfold kw; split <;> decide
theorem num_size (n : Int) (h1 : n ≤ 65535) : (num n).size ≤ 5 := dig_size _ (by omega)

theorem wpAnyH_strong {P : Program} {ops : Array Oper} {Q : Exit → Act → World → Prop} {md : Region.Mode} {S S' : World → Prop} (hi : ∀ w, S' w → S w) :
    ∀ {fuel : Nat} {listed : Array Bool} {a : Act} {w : World}, wpAnyH P md ops Q S' fuel listed a w → wpAnyH P md ops Q S fuel listed a w
  | 0, _, _, _, h => h
  | fuel + 1, _, _, _, h => ⟨h.1, fun i hh => wpOp_mono (fun _ _ h' => ⟨hi _ h'.1, wpAnyH_strong hi h'.2⟩) (h.2 i hh)⟩

structure S0 (w : World) (ty og sq hl hp : Int) (body : ByteArray) (w' : World) : Prop where
  size : w.heap.size + 1 ≤ w'.heap.size
  bel : Below w.heap.size w w'
  c0 : w'.cell? ⟨w.heap.size, 0, none⟩ = some (.int .i64 ty)
  c1 : w'.cell? ⟨w.heap.size, 1, none⟩ = some (.int .i64 og)
  c2 : w'.cell? ⟨w.heap.size, 2, none⟩ = some (.int .i64 sq)
  c3 : w'.cell? ⟨w.heap.size, 3, none⟩ = some (.int .i64 hl)
  c4 : w'.cell? ⟨w.heap.size, 4, none⟩ = some (.int .i64 hp)
  c5 : w'.cell? ⟨w.heap.size, 5, none⟩ = some (.string body)
theorem S0.below {w : World} {ty og sq hl hp : Int} {body : ByteArray} {w1 w2 : World} (h : S0 w ty og sq hl hp body w1) (hb : Below w1.heap.size w1 w2) : S0 w ty og sq hl hp body w2 := by
  have hs := h.size
  have hs2 := hb.size
  exact ⟨by omega, h.bel.trans (hb.mono h.bel.size), by rw [hb.cell (by show w.heap.size < _; omega)]; exact h.c0, by rw [hb.cell (by show w.heap.size < _; omega)]; exact h.c1, by rw [hb.cell (by show w.heap.size < _; omega)]; exact h.c2, by rw [hb.cell (by show w.heap.size < _; omega)]; exact h.c3, by rw [hb.cell (by show w.heap.size < _; omega)]; exact h.c4, by rw [hb.cell (by show w.heap.size < _; omega)]; exact h.c5⟩
theorem S0.drew {w : World} {ty og sq hl hp : Int} {body : ByteArray} {w1 : World} (h : S0 w ty og sq hl hp body w1) : S0 w ty og sq hl hp body w1.drew :=
  ⟨h.size, h.bel.drew, by simpa using h.c0, by simpa using h.c1, by simpa using h.c2, by simpa using h.c3, by simpa using h.c4, by simpa using h.c5⟩
structure S1 (w : World) (ty og sq hl hp : Int) (body : ByteArray) (g k : Nat) (w' : World) : Prop where
  s0 : S0 w ty og sq hl hp body w'
  lt : g < w'.heap.size
  cw : w'.cell? ⟨g, k, none⟩ = some (.string (kw k))
theorem S1.below {w : World} {ty og sq hl hp : Int} {body : ByteArray} {g k : Nat} {w1 w2 : World} (h : S1 w ty og sq hl hp body g k w1) (hb : Below w1.heap.size w1 w2) : S1 w ty og sq hl hp body g k w2 :=
  ⟨h.s0.below hb, Nat.lt_of_lt_of_le h.lt hb.size, by rw [hb.cell (by exact h.lt)]; exact h.cw⟩
def wordsB : Obj := .cells #[.string ⟨#[]⟩, .string ⟨#[104, 101, 108, 108, 111]⟩, .string ⟨#[116, 99]⟩] 9
theorem S1.of {w : World} {ty og sq hl hp : Int} {body : ByteArray} {k : Nat} {w1 : World} (h : S0 w ty og sq hl hp body w1) (k1 : 1 ≤ k) (k2 : k ≤ 2) : S1 w ty og sq hl hp body w1.heap.size k (w1.alloc wordsB) := by
  refine ⟨h.below ((Below.refl _ _).alloc (Nat.le_refl _) _), by simp, ?_⟩
  obtain rfl | rfl : k = 1 ∨ k = 2 := by omega
  · simp [wordsB, kw, go_sem]
  · simp [wordsB, kw, go_sem]

set_option maxRecDepth 100000 in
set_option maxHeartbeats 8000000 in
theorem specText (k : Nat) (og sq hl hp : Int) (body : ByteArray) (w : World) (k1 : 1 ≤ k) (k2 : k ≤ 2) (hk : okB k og sq hl hp body = true) :
    Calls Tryd.prog 5 #[.agg #[.int .i64 (k : Int), .int .i64 og, .int .i64 sq, .int .i64 hl, .int .i64 hp, .string body]] w
      fun e w' => e = .returned (.tuple #[.string (text k og sq hl hp body.size), .int .i64 0]) ∧ Below w.heap.size w w' := by
  obtain ⟨o0, o1, s0, s1, l0, l1, p0, p1, bz⟩ : 1 ≤ og ∧ og ≤ 8 ∧ 0 ≤ sq ∧ sq ≤ 65535 ∧ 0 ≤ hl ∧ hl ≤ 255 ∧ 0 ≤ hp ∧ hp ≤ 255 ∧ (body.size : Int) ≤ 120 := by
    simp [okB, inB] at hk; omega
  have D1 := hide (num_digits og (by omega) (by omega))
  have D2 := hide (num_digits sq (by omega) (by omega))
  have D3 := hide (num_digits hl (by omega) (by omega))
  have D4 := hide (num_digits hp (by omega) (by omega))
  have D5 := hide (num_digits (body.size : Int) (by omega) (by omega))
  have z0 := kw_size k
  have z1 := num_size og (by omega)
  have z2 := num_size sq (by omega)
  have z3 := num_size hl (by omega)
  have z4 := num_size hp (by omega)
  have z5 := num_size (body.size : Int) (by omega)
  have hT : text k og sq hl hp body.size = ((((((((((kw k ++ sp) ++ num og) ++ sp) ++ num sq) ++ sp) ++ num hl) ++ sp) ++ num hp) ++ sp) ++ num body.size) := rfl
  rw [hT]
  clear hT
  generalize num og = d1 at *
  generalize num sq = d2 at *
  generalize num hl = d3 at *
  generalize num hp = d4 at *
  generalize num (body.size : Int) = d5 at *
  have k1' : (1 : Int) ≤ k := by omega
  have k2' : (k : Int) < 3 := by omega
  have k0' : (0 : Int) ≤ k := by omega
  go_enter Tryd.func5, Tryd.ntmps5
  go_wp2_with fail
  refine (specOK _ _ _ _ _ _ _).mono ?_
  rintro e w1 ⟨rfl, b1⟩
  rw [hk]
  clear hk
  go_wp2_with fail
  have hSA : S0 w (k : Int) og sq hl hp body (w.alloc (.cells #[.int .i64 (k : Int), .int .i64 og, .int .i64 sq, .int .i64 hl, .int .i64 hp, .string body] 27)) :=
    ⟨by simp, (Below.refl _ _).alloc (Nat.le_refl _) _, by simp, by simp, by simp, by simp, by simp, by simp⟩
  have hSB := (hSA.below b1).drew
  have hsp : sp.size = 1 := rfl
  clear hSA b1
  refine wp_region_noPanic ?_
  refine wp_region_held_drew (S := S0 w (k : Int) og sq hl hp body) (by kernel_rfl) hSB (fun hHeld => ?_)
  clear hSB
  generalize w1.drew = u0 at hHeld ⊢
  refine wpAnyH_take (i := 1) (oi := _) (v := .pointer (some ⟨w.heap.size, 0, none⟩)) rfl (by kernel_rfl) (by kernel_rfl) (by kernel_rfl) (fun _ _ _ h => h) (Or.inl ⟨by rfl, ?_⟩) (by assumption) ?_
  · intro w0 hSw; go_simp
  simp only [Act.put, List.setIfInBounds_toArray, List.set_cons_zero, List.set_cons_succ]
  refine wpAnyH_take (i := 2) (oi := _) (v := .int .i64 k) rfl (by kernel_rfl) (by kernel_rfl) (by kernel_rfl) (fun _ _ _ h => h) (Or.inl ⟨by rfl, ?_⟩) (by assumption) ?_
  · intro w0 hSw; have hc := hSw.c0; go_simp
  simp only [Act.put, List.setIfInBounds_toArray, List.set_cons_zero, List.set_cons_succ]
  refine wpAnyH_take (i := 6) (oi := _) (v := .pointer (some ⟨w.heap.size, 1, none⟩)) rfl (by kernel_rfl) (by kernel_rfl) (by kernel_rfl) (fun _ _ _ h => h) (Or.inl ⟨by rfl, ?_⟩) (by assumption) ?_
  · intro w0 hSw; go_simp
  simp only [Act.put, List.setIfInBounds_toArray, List.set_cons_zero, List.set_cons_succ]
  refine wpAnyH_take (i := 7) (oi := _) (v := .int .i64 og) rfl (by kernel_rfl) (by kernel_rfl) (by kernel_rfl) (fun _ _ _ h => h) (Or.inl ⟨by rfl, ?_⟩) (by assumption) ?_
  · intro w0 hSw; have hc := hSw.c1; go_simp
  simp only [Act.put, List.setIfInBounds_toArray, List.set_cons_zero, List.set_cons_succ]
  refine wpAnyH_take (i := 11) (oi := _) (v := .pointer (some ⟨w.heap.size, 2, none⟩)) rfl (by kernel_rfl) (by kernel_rfl) (by kernel_rfl) (fun _ _ _ h => h) (Or.inl ⟨by rfl, ?_⟩) (by assumption) ?_
  · intro w0 hSw; go_simp
  simp only [Act.put, List.setIfInBounds_toArray, List.set_cons_zero, List.set_cons_succ]
  refine wpAnyH_take (i := 12) (oi := _) (v := .int .i64 sq) rfl (by kernel_rfl) (by kernel_rfl) (by kernel_rfl) (fun _ _ _ h => h) (Or.inl ⟨by rfl, ?_⟩) (by assumption) ?_
  · intro w0 hSw; have hc := hSw.c2; go_simp
  simp only [Act.put, List.setIfInBounds_toArray, List.set_cons_zero, List.set_cons_succ]
  refine wpAnyH_take (i := 16) (oi := _) (v := .pointer (some ⟨w.heap.size, 3, none⟩)) rfl (by kernel_rfl) (by kernel_rfl) (by kernel_rfl) (fun _ _ _ h => h) (Or.inl ⟨by rfl, ?_⟩) (by assumption) ?_
  · intro w0 hSw; go_simp
  simp only [Act.put, List.setIfInBounds_toArray, List.set_cons_zero, List.set_cons_succ]
  refine wpAnyH_take (i := 17) (oi := _) (v := .int .i64 hl) rfl (by kernel_rfl) (by kernel_rfl) (by kernel_rfl) (fun _ _ _ h => h) (Or.inl ⟨by rfl, ?_⟩) (by assumption) ?_
  · intro w0 hSw; have hc := hSw.c3; go_simp
  simp only [Act.put, List.setIfInBounds_toArray, List.set_cons_zero, List.set_cons_succ]
  refine wpAnyH_take (i := 21) (oi := _) (v := .pointer (some ⟨w.heap.size, 4, none⟩)) rfl (by kernel_rfl) (by kernel_rfl) (by kernel_rfl) (fun _ _ _ h => h) (Or.inl ⟨by rfl, ?_⟩) (by assumption) ?_
  · intro w0 hSw; go_simp
  simp only [Act.put, List.setIfInBounds_toArray, List.set_cons_zero, List.set_cons_succ]
  refine wpAnyH_take (i := 22) (oi := _) (v := .int .i64 hp) rfl (by kernel_rfl) (by kernel_rfl) (by kernel_rfl) (fun _ _ _ h => h) (Or.inl ⟨by rfl, ?_⟩) (by assumption) ?_
  · intro w0 hSw; have hc := hSw.c4; go_simp
  simp only [Act.put, List.setIfInBounds_toArray, List.set_cons_zero, List.set_cons_succ]
  refine wpAnyH_take (i := 26) (oi := _) (v := .pointer (some ⟨w.heap.size, 5, none⟩)) rfl (by kernel_rfl) (by kernel_rfl) (by kernel_rfl) (fun _ _ _ h => h) (Or.inl ⟨by rfl, ?_⟩) (by assumption) ?_
  · intro w0 hSw; go_simp
  simp only [Act.put, List.setIfInBounds_toArray, List.set_cons_zero, List.set_cons_succ]
  refine wpAnyH_take (i := 27) (oi := _) (v := .string body) rfl (by kernel_rfl) (by kernel_rfl) (by kernel_rfl) (fun _ _ _ h => h) (Or.inl ⟨by rfl, ?_⟩) (by assumption) ?_
  · intro w0 hSw; have hc := hSw.c5; go_simp
  simp only [Act.put, List.setIfInBounds_toArray, List.set_cons_zero, List.set_cons_succ]
  refine wpAnyH_take (i := 28) (oi := _) (v := .int .i64 ((body.size : Nat) : Int)) rfl (by kernel_rfl) (by kernel_rfl) (by kernel_rfl) (fun _ _ _ h => h) (Or.inl ⟨by rfl, ?_⟩) (by assumption) ?_
  · intro w0 hSw; go_simp
  simp only [Act.put, List.setIfInBounds_toArray, List.set_cons_zero, List.set_cons_succ]
  refine wpAnyH_ready (rs := [0, 8]) (by kernel_rfl) (by simp) ?_
  refine AllReadyH.cons (o := _) rfl (fun K hK => ?_) (AllReadyH.cons (o := _) rfl (fun K hK => ?_) AllReadyH.nil)
  · skip
    go_simp
    have hHeld0 := hHeld
    refine hK.out _ _ (hHeld.below ((Below.refl _ _).alloc (Nat.le_refl _) _)) (fun hHeld => ?_)
    clear hK K
    try simp only [Act.put, List.setIfInBounds_toArray, List.set_cons_zero, List.set_cons_succ]
    have hS1 := S1.of hHeld0 k1 k2
    clear hHeld hHeld0
    unfold wordsB at hS1
    refine wpAnyH_strong (S' := S1 w (k : Int) og sq hl hp body u0.heap.size k) (fun _ h => h.s0) ?_
    refine wpAnyH_take (i := 3) (oi := _) (v := .pointer (some ⟨u0.heap.size, k, none⟩)) rfl (by kernel_rfl) (by kernel_rfl) (by kernel_rfl) (fun _ _ _ h => h) (Or.inl ⟨by rfl, ?_⟩) (by assumption) ?_
    · intro w0 hSw; go_simp
    simp only [Act.put, List.setIfInBounds_toArray, List.set_cons_zero, List.set_cons_succ]
    refine wpAnyH_take (i := 4) (oi := _) (v := .string (kw k)) rfl (by kernel_rfl) (by kernel_rfl) (by kernel_rfl) (fun _ _ _ h => h) (Or.inl ⟨by rfl, ?_⟩) (by assumption) ?_
    · intro w0 hSw; have hc := hSw.cw; go_simp
    simp only [Act.put, List.setIfInBounds_toArray, List.set_cons_zero, List.set_cons_succ]
    refine wpAnyH_take (i := 5) (oi := _) (v := .string (kw k ++ sp)) rfl (by kernel_rfl) (by kernel_rfl) (by kernel_rfl) (fun _ _ _ h => h) (Or.inl ⟨by rfl, ?_⟩) (by assumption) ?_
    · intro w0 hSw; go_simp; rw [if_neg (by first | omega | (simp; omega))]; rfl
    simp only [Act.put, List.setIfInBounds_toArray, List.set_cons_zero, List.set_cons_succ]
    refine wpAnyH_ready (rs := [8]) (by kernel_rfl) (by simp) ?_
    refine AllReadyH.cons (o := _) rfl (fun K hK => ?_) AllReadyH.nil
    go_simp
    refine (unhide D1 _).mono ?_
    rintro e v0 ⟨rfl, hbel⟩
    dsimp only
    refine hK.out _ _ (hS1.below hbel) (fun hS1 => ?_)
    clear hK K hbel
    try simp only [Act.put, List.setIfInBounds_toArray, List.set_cons_zero, List.set_cons_succ]
    refine wpAnyH_take (i := 9) (oi := _) (v := .string ((kw k ++ sp) ++ d1)) rfl (by kernel_rfl) (by kernel_rfl) (by kernel_rfl) (fun _ _ _ h => h) (Or.inl ⟨by rfl, ?_⟩) (by assumption) ?_
    · intro w0 hSw; go_simp; omega
    simp only [Act.put, List.setIfInBounds_toArray, List.set_cons_zero, List.set_cons_succ]
    refine wpAnyH_take (i := 10) (oi := _) (v := .string (((kw k ++ sp) ++ d1) ++ sp)) rfl (by kernel_rfl) (by kernel_rfl) (by kernel_rfl) (fun _ _ _ h => h) (Or.inl ⟨by rfl, ?_⟩) (by assumption) ?_
    · intro w0 hSw; go_simp; rw [if_neg (by first | omega | (simp; omega))]; rfl
    simp only [Act.put, List.setIfInBounds_toArray, List.set_cons_zero, List.set_cons_succ]
    refine wpAnyH_ready (rs := [13]) (by kernel_rfl) (by simp) ?_
    refine AllReadyH.cons (o := _) rfl (fun K hK => ?_) AllReadyH.nil
    go_simp
    refine (unhide D2 _).mono ?_
    rintro e v1 ⟨rfl, hbel⟩
    dsimp only
    refine hK.out _ _ (hS1.below hbel) (fun hS1 => ?_)
    clear hK K hbel
    try simp only [Act.put, List.setIfInBounds_toArray, List.set_cons_zero, List.set_cons_succ]
    refine wpAnyH_take (i := 14) (oi := _) (v := .string ((((kw k ++ sp) ++ d1) ++ sp) ++ d2)) rfl (by kernel_rfl) (by kernel_rfl) (by kernel_rfl) (fun _ _ _ h => h) (Or.inl ⟨by rfl, ?_⟩) (by assumption) ?_
    · intro w0 hSw; go_simp; omega
    simp only [Act.put, List.setIfInBounds_toArray, List.set_cons_zero, List.set_cons_succ]
    refine wpAnyH_take (i := 15) (oi := _) (v := .string (((((kw k ++ sp) ++ d1) ++ sp) ++ d2) ++ sp)) rfl (by kernel_rfl) (by kernel_rfl) (by kernel_rfl) (fun _ _ _ h => h) (Or.inl ⟨by rfl, ?_⟩) (by assumption) ?_
    · intro w0 hSw; go_simp; rw [if_neg (by first | omega | (simp; omega))]; rfl
    simp only [Act.put, List.setIfInBounds_toArray, List.set_cons_zero, List.set_cons_succ]
    refine wpAnyH_ready (rs := [18]) (by kernel_rfl) (by simp) ?_
    refine AllReadyH.cons (o := _) rfl (fun K hK => ?_) AllReadyH.nil
    go_simp
    refine (unhide D3 _).mono ?_
    rintro e v2 ⟨rfl, hbel⟩
    dsimp only
    refine hK.out _ _ (hS1.below hbel) (fun hS1 => ?_)
    clear hK K hbel
    try simp only [Act.put, List.setIfInBounds_toArray, List.set_cons_zero, List.set_cons_succ]
    refine wpAnyH_take (i := 19) (oi := _) (v := .string ((((((kw k ++ sp) ++ d1) ++ sp) ++ d2) ++ sp) ++ d3)) rfl (by kernel_rfl) (by kernel_rfl) (by kernel_rfl) (fun _ _ _ h => h) (Or.inl ⟨by rfl, ?_⟩) (by assumption) ?_
    · intro w0 hSw; go_simp; omega
    simp only [Act.put, List.setIfInBounds_toArray, List.set_cons_zero, List.set_cons_succ]
    refine wpAnyH_take (i := 20) (oi := _) (v := .string (((((((kw k ++ sp) ++ d1) ++ sp) ++ d2) ++ sp) ++ d3) ++ sp)) rfl (by kernel_rfl) (by kernel_rfl) (by kernel_rfl) (fun _ _ _ h => h) (Or.inl ⟨by rfl, ?_⟩) (by assumption) ?_
    · intro w0 hSw; go_simp; rw [if_neg (by first | omega | (simp; omega))]; rfl
    simp only [Act.put, List.setIfInBounds_toArray, List.set_cons_zero, List.set_cons_succ]
    refine wpAnyH_ready (rs := [23]) (by kernel_rfl) (by simp) ?_
    refine AllReadyH.cons (o := _) rfl (fun K hK => ?_) AllReadyH.nil
    go_simp
    refine (unhide D4 _).mono ?_
    rintro e v3 ⟨rfl, hbel⟩
    dsimp only
    refine hK.out _ _ (hS1.below hbel) (fun hS1 => ?_)
    clear hK K hbel
    try simp only [Act.put, List.setIfInBounds_toArray, List.set_cons_zero, List.set_cons_succ]
    refine wpAnyH_take (i := 24) (oi := _) (v := .string ((((((((kw k ++ sp) ++ d1) ++ sp) ++ d2) ++ sp) ++ d3) ++ sp) ++ d4)) rfl (by kernel_rfl) (by kernel_rfl) (by kernel_rfl) (fun _ _ _ h => h) (Or.inl ⟨by rfl, ?_⟩) (by assumption) ?_
    · intro w0 hSw; go_simp; omega
    simp only [Act.put, List.setIfInBounds_toArray, List.set_cons_zero, List.set_cons_succ]
    refine wpAnyH_take (i := 25) (oi := _) (v := .string (((((((((kw k ++ sp) ++ d1) ++ sp) ++ d2) ++ sp) ++ d3) ++ sp) ++ d4) ++ sp)) rfl (by kernel_rfl) (by kernel_rfl) (by kernel_rfl) (fun _ _ _ h => h) (Or.inl ⟨by rfl, ?_⟩) (by assumption) ?_
    · intro w0 hSw; go_simp; rw [if_neg (by first | omega | (simp; omega))]; rfl
    simp only [Act.put, List.setIfInBounds_toArray, List.set_cons_zero, List.set_cons_succ]
    refine wpAnyH_ready (rs := [29]) (by kernel_rfl) (by simp) ?_
    refine AllReadyH.cons (o := _) rfl (fun K hK => ?_) AllReadyH.nil
    go_simp
    refine (unhide D5 _).mono ?_
    rintro e v4 ⟨rfl, hbel⟩
    dsimp only
    refine hK.out _ _ (hS1.below hbel) (fun hS1 => ?_)
    clear hK K hbel
    try simp only [Act.put, List.setIfInBounds_toArray, List.set_cons_zero, List.set_cons_succ]
    refine wpAnyH_take (i := 30) (oi := _) (v := .string ((((((((((kw k ++ sp) ++ d1) ++ sp) ++ d2) ++ sp) ++ d3) ++ sp) ++ d4) ++ sp) ++ d5)) rfl (by kernel_rfl) (by kernel_rfl) (by kernel_rfl) (fun _ _ _ h => h) (Or.inl ⟨by rfl, ?_⟩) (by assumption) ?_
    · intro w0 hSw; go_simp; omega
    simp only [Act.put, List.setIfInBounds_toArray, List.set_cons_zero, List.set_cons_succ]
    refine wpAnyH_ready (rs := [31]) (by kernel_rfl) (by simp) ?_
    refine AllReadyH.cons (o := _) rfl (fun K hK => ?_) AllReadyH.nil
    go_simp
    refine hK.out _ _ hS1 (fun hS1 => ?_)
    clear hK K
    try simp only [Act.put, List.setIfInBounds_toArray, List.set_cons_zero, List.set_cons_succ]
    refine wpAnyH_ready (rs := [32]) (by kernel_rfl) (by simp) ?_
    refine AllReadyH.cons (o := _) rfl (fun K hK => ?_) AllReadyH.nil
    go_simp
    refine hK.out _ _ hS1 (fun hS1 => ?_)
    clear hK K
    try simp only [Act.put, List.setIfInBounds_toArray, List.set_cons_zero, List.set_cons_succ]
    all_goals refine wpAnyH_done (by kernel_rfl) ?_ _
    all_goals refine NoPanic.normal ?_
    all_goals go_wp2
    all_goals go_ret2
    all_goals exact ⟨rfl, hS1.s0.bel⟩
  go_simp
  refine (unhide D1 _).mono ?_
  rintro e u1 ⟨rfl, hbel⟩
  dsimp only
  refine hK.out _ _ (hHeld.below hbel) (fun hHeld => ?_)
  clear hK K hbel
  try simp only [Act.put, List.setIfInBounds_toArray, List.set_cons_zero, List.set_cons_succ]
  refine wpAnyH_ready (rs := [0, 13]) (by kernel_rfl) (by simp) ?_
  refine AllReadyH.cons (o := _) rfl (fun K hK => ?_) (AllReadyH.cons (o := _) rfl (fun K hK => ?_) AllReadyH.nil)
  · skip
    go_simp
    have hHeld0 := hHeld
    refine hK.out _ _ (hHeld.below ((Below.refl _ _).alloc (Nat.le_refl _) _)) (fun hHeld => ?_)
    clear hK K
    try simp only [Act.put, List.setIfInBounds_toArray, List.set_cons_zero, List.set_cons_succ]
    have hS1 := S1.of hHeld0 k1 k2
    clear hHeld hHeld0
    unfold wordsB at hS1
    refine wpAnyH_strong (S' := S1 w (k : Int) og sq hl hp body u1.heap.size k) (fun _ h => h.s0) ?_
    refine wpAnyH_take (i := 3) (oi := _) (v := .pointer (some ⟨u1.heap.size, k, none⟩)) rfl (by kernel_rfl) (by kernel_rfl) (by kernel_rfl) (fun _ _ _ h => h) (Or.inl ⟨by rfl, ?_⟩) (by assumption) ?_
    · intro w0 hSw; go_simp
    simp only [Act.put, List.setIfInBounds_toArray, List.set_cons_zero, List.set_cons_succ]
    refine wpAnyH_take (i := 4) (oi := _) (v := .string (kw k)) rfl (by kernel_rfl) (by kernel_rfl) (by kernel_rfl) (fun _ _ _ h => h) (Or.inl ⟨by rfl, ?_⟩) (by assumption) ?_
    · intro w0 hSw; have hc := hSw.cw; go_simp
    simp only [Act.put, List.setIfInBounds_toArray, List.set_cons_zero, List.set_cons_succ]
    refine wpAnyH_take (i := 5) (oi := _) (v := .string (kw k ++ sp)) rfl (by kernel_rfl) (by kernel_rfl) (by kernel_rfl) (fun _ _ _ h => h) (Or.inl ⟨by rfl, ?_⟩) (by assumption) ?_
    · intro w0 hSw; go_simp; rw [if_neg (by first | omega | (simp; omega))]; rfl
    simp only [Act.put, List.setIfInBounds_toArray, List.set_cons_zero, List.set_cons_succ]
    refine wpAnyH_take (i := 9) (oi := _) (v := .string ((kw k ++ sp) ++ d1)) rfl (by kernel_rfl) (by kernel_rfl) (by kernel_rfl) (fun _ _ _ h => h) (Or.inl ⟨by rfl, ?_⟩) (by assumption) ?_
    · intro w0 hSw; go_simp; omega
    simp only [Act.put, List.setIfInBounds_toArray, List.set_cons_zero, List.set_cons_succ]
    refine wpAnyH_take (i := 10) (oi := _) (v := .string (((kw k ++ sp) ++ d1) ++ sp)) rfl (by kernel_rfl) (by kernel_rfl) (by kernel_rfl) (fun _ _ _ h => h) (Or.inl ⟨by rfl, ?_⟩) (by assumption) ?_
    · intro w0 hSw; go_simp; rw [if_neg (by first | omega | (simp; omega))]; rfl
    simp only [Act.put, List.setIfInBounds_toArray, List.set_cons_zero, List.set_cons_succ]
    refine wpAnyH_ready (rs := [13]) (by kernel_rfl) (by simp) ?_
    refine AllReadyH.cons (o := _) rfl (fun K hK => ?_) AllReadyH.nil
    go_simp
    refine (unhide D2 _).mono ?_
    rintro e v1 ⟨rfl, hbel⟩
    dsimp only
    refine hK.out _ _ (hS1.below hbel) (fun hS1 => ?_)
    clear hK K hbel
    try simp only [Act.put, List.setIfInBounds_toArray, List.set_cons_zero, List.set_cons_succ]
    refine wpAnyH_take (i := 14) (oi := _) (v := .string ((((kw k ++ sp) ++ d1) ++ sp) ++ d2)) rfl (by kernel_rfl) (by kernel_rfl) (by kernel_rfl) (fun _ _ _ h => h) (Or.inl ⟨by rfl, ?_⟩) (by assumption) ?_
    · intro w0 hSw; go_simp; omega
    simp only [Act.put, List.setIfInBounds_toArray, List.set_cons_zero, List.set_cons_succ]
    refine wpAnyH_take (i := 15) (oi := _) (v := .string (((((kw k ++ sp) ++ d1) ++ sp) ++ d2) ++ sp)) rfl (by kernel_rfl) (by kernel_rfl) (by kernel_rfl) (fun _ _ _ h => h) (Or.inl ⟨by rfl, ?_⟩) (by assumption) ?_
    · intro w0 hSw; go_simp; rw [if_neg (by first | omega | (simp; omega))]; rfl
    simp only [Act.put, List.setIfInBounds_toArray, List.set_cons_zero, List.set_cons_succ]
    refine wpAnyH_ready (rs := [18]) (by kernel_rfl) (by simp) ?_
    refine AllReadyH.cons (o := _) rfl (fun K hK => ?_) AllReadyH.nil
    go_simp
    refine (unhide D3 _).mono ?_
    rintro e v2 ⟨rfl, hbel⟩
    dsimp only
    refine hK.out _ _ (hS1.below hbel) (fun hS1 => ?_)
    clear hK K hbel
    try simp only [Act.put, List.setIfInBounds_toArray, List.set_cons_zero, List.set_cons_succ]
    refine wpAnyH_take (i := 19) (oi := _) (v := .string ((((((kw k ++ sp) ++ d1) ++ sp) ++ d2) ++ sp) ++ d3)) rfl (by kernel_rfl) (by kernel_rfl) (by kernel_rfl) (fun _ _ _ h => h) (Or.inl ⟨by rfl, ?_⟩) (by assumption) ?_
    · intro w0 hSw; go_simp; omega
    simp only [Act.put, List.setIfInBounds_toArray, List.set_cons_zero, List.set_cons_succ]
    refine wpAnyH_take (i := 20) (oi := _) (v := .string (((((((kw k ++ sp) ++ d1) ++ sp) ++ d2) ++ sp) ++ d3) ++ sp)) rfl (by kernel_rfl) (by kernel_rfl) (by kernel_rfl) (fun _ _ _ h => h) (Or.inl ⟨by rfl, ?_⟩) (by assumption) ?_
    · intro w0 hSw; go_simp; rw [if_neg (by first | omega | (simp; omega))]; rfl
    simp only [Act.put, List.setIfInBounds_toArray, List.set_cons_zero, List.set_cons_succ]
    refine wpAnyH_ready (rs := [23]) (by kernel_rfl) (by simp) ?_
    refine AllReadyH.cons (o := _) rfl (fun K hK => ?_) AllReadyH.nil
    go_simp
    refine (unhide D4 _).mono ?_
    rintro e v3 ⟨rfl, hbel⟩
    dsimp only
    refine hK.out _ _ (hS1.below hbel) (fun hS1 => ?_)
    clear hK K hbel
    try simp only [Act.put, List.setIfInBounds_toArray, List.set_cons_zero, List.set_cons_succ]
    refine wpAnyH_take (i := 24) (oi := _) (v := .string ((((((((kw k ++ sp) ++ d1) ++ sp) ++ d2) ++ sp) ++ d3) ++ sp) ++ d4)) rfl (by kernel_rfl) (by kernel_rfl) (by kernel_rfl) (fun _ _ _ h => h) (Or.inl ⟨by rfl, ?_⟩) (by assumption) ?_
    · intro w0 hSw; go_simp; omega
    simp only [Act.put, List.setIfInBounds_toArray, List.set_cons_zero, List.set_cons_succ]
    refine wpAnyH_take (i := 25) (oi := _) (v := .string (((((((((kw k ++ sp) ++ d1) ++ sp) ++ d2) ++ sp) ++ d3) ++ sp) ++ d4) ++ sp)) rfl (by kernel_rfl) (by kernel_rfl) (by kernel_rfl) (fun _ _ _ h => h) (Or.inl ⟨by rfl, ?_⟩) (by assumption) ?_
    · intro w0 hSw; go_simp; rw [if_neg (by first | omega | (simp; omega))]; rfl
    simp only [Act.put, List.setIfInBounds_toArray, List.set_cons_zero, List.set_cons_succ]
    refine wpAnyH_ready (rs := [29]) (by kernel_rfl) (by simp) ?_
    refine AllReadyH.cons (o := _) rfl (fun K hK => ?_) AllReadyH.nil
    go_simp
    refine (unhide D5 _).mono ?_
    rintro e v4 ⟨rfl, hbel⟩
    dsimp only
    refine hK.out _ _ (hS1.below hbel) (fun hS1 => ?_)
    clear hK K hbel
    try simp only [Act.put, List.setIfInBounds_toArray, List.set_cons_zero, List.set_cons_succ]
    refine wpAnyH_take (i := 30) (oi := _) (v := .string ((((((((((kw k ++ sp) ++ d1) ++ sp) ++ d2) ++ sp) ++ d3) ++ sp) ++ d4) ++ sp) ++ d5)) rfl (by kernel_rfl) (by kernel_rfl) (by kernel_rfl) (fun _ _ _ h => h) (Or.inl ⟨by rfl, ?_⟩) (by assumption) ?_
    · intro w0 hSw; go_simp; omega
    simp only [Act.put, List.setIfInBounds_toArray, List.set_cons_zero, List.set_cons_succ]
    refine wpAnyH_ready (rs := [31]) (by kernel_rfl) (by simp) ?_
    refine AllReadyH.cons (o := _) rfl (fun K hK => ?_) AllReadyH.nil
    go_simp
    refine hK.out _ _ hS1 (fun hS1 => ?_)
    clear hK K
    try simp only [Act.put, List.setIfInBounds_toArray, List.set_cons_zero, List.set_cons_succ]
    refine wpAnyH_ready (rs := [32]) (by kernel_rfl) (by simp) ?_
    refine AllReadyH.cons (o := _) rfl (fun K hK => ?_) AllReadyH.nil
    go_simp
    refine hK.out _ _ hS1 (fun hS1 => ?_)
    clear hK K
    try simp only [Act.put, List.setIfInBounds_toArray, List.set_cons_zero, List.set_cons_succ]
    all_goals refine wpAnyH_done (by kernel_rfl) ?_ _
    all_goals refine NoPanic.normal ?_
    all_goals go_wp2
    all_goals go_ret2
    all_goals exact ⟨rfl, hS1.s0.bel⟩
  go_simp
  refine (unhide D2 _).mono ?_
  rintro e u2 ⟨rfl, hbel⟩
  dsimp only
  refine hK.out _ _ (hHeld.below hbel) (fun hHeld => ?_)
  clear hK K hbel
  try simp only [Act.put, List.setIfInBounds_toArray, List.set_cons_zero, List.set_cons_succ]
  refine wpAnyH_ready (rs := [0, 18]) (by kernel_rfl) (by simp) ?_
  refine AllReadyH.cons (o := _) rfl (fun K hK => ?_) (AllReadyH.cons (o := _) rfl (fun K hK => ?_) AllReadyH.nil)
  · skip
    go_simp
    have hHeld0 := hHeld
    refine hK.out _ _ (hHeld.below ((Below.refl _ _).alloc (Nat.le_refl _) _)) (fun hHeld => ?_)
    clear hK K
    try simp only [Act.put, List.setIfInBounds_toArray, List.set_cons_zero, List.set_cons_succ]
    have hS1 := S1.of hHeld0 k1 k2
    clear hHeld hHeld0
    unfold wordsB at hS1
    refine wpAnyH_strong (S' := S1 w (k : Int) og sq hl hp body u2.heap.size k) (fun _ h => h.s0) ?_
    refine wpAnyH_take (i := 3) (oi := _) (v := .pointer (some ⟨u2.heap.size, k, none⟩)) rfl (by kernel_rfl) (by kernel_rfl) (by kernel_rfl) (fun _ _ _ h => h) (Or.inl ⟨by rfl, ?_⟩) (by assumption) ?_
    · intro w0 hSw; go_simp
    simp only [Act.put, List.setIfInBounds_toArray, List.set_cons_zero, List.set_cons_succ]
    refine wpAnyH_take (i := 4) (oi := _) (v := .string (kw k)) rfl (by kernel_rfl) (by kernel_rfl) (by kernel_rfl) (fun _ _ _ h => h) (Or.inl ⟨by rfl, ?_⟩) (by assumption) ?_
    · intro w0 hSw; have hc := hSw.cw; go_simp
    simp only [Act.put, List.setIfInBounds_toArray, List.set_cons_zero, List.set_cons_succ]
    refine wpAnyH_take (i := 5) (oi := _) (v := .string (kw k ++ sp)) rfl (by kernel_rfl) (by kernel_rfl) (by kernel_rfl) (fun _ _ _ h => h) (Or.inl ⟨by rfl, ?_⟩) (by assumption) ?_
    · intro w0 hSw; go_simp; rw [if_neg (by first | omega | (simp; omega))]; rfl
    simp only [Act.put, List.setIfInBounds_toArray, List.set_cons_zero, List.set_cons_succ]
    refine wpAnyH_take (i := 9) (oi := _) (v := .string ((kw k ++ sp) ++ d1)) rfl (by kernel_rfl) (by kernel_rfl) (by kernel_rfl) (fun _ _ _ h => h) (Or.inl ⟨by rfl, ?_⟩) (by assumption) ?_
    · intro w0 hSw; go_simp; omega
    simp only [Act.put, List.setIfInBounds_toArray, List.set_cons_zero, List.set_cons_succ]
    refine wpAnyH_take (i := 10) (oi := _) (v := .string (((kw k ++ sp) ++ d1) ++ sp)) rfl (by kernel_rfl) (by kernel_rfl) (by kernel_rfl) (fun _ _ _ h => h) (Or.inl ⟨by rfl, ?_⟩) (by assumption) ?_
    · intro w0 hSw; go_simp; rw [if_neg (by first | omega | (simp; omega))]; rfl
    simp only [Act.put, List.setIfInBounds_toArray, List.set_cons_zero, List.set_cons_succ]
    refine wpAnyH_take (i := 14) (oi := _) (v := .string ((((kw k ++ sp) ++ d1) ++ sp) ++ d2)) rfl (by kernel_rfl) (by kernel_rfl) (by kernel_rfl) (fun _ _ _ h => h) (Or.inl ⟨by rfl, ?_⟩) (by assumption) ?_
    · intro w0 hSw; go_simp; omega
    simp only [Act.put, List.setIfInBounds_toArray, List.set_cons_zero, List.set_cons_succ]
    refine wpAnyH_take (i := 15) (oi := _) (v := .string (((((kw k ++ sp) ++ d1) ++ sp) ++ d2) ++ sp)) rfl (by kernel_rfl) (by kernel_rfl) (by kernel_rfl) (fun _ _ _ h => h) (Or.inl ⟨by rfl, ?_⟩) (by assumption) ?_
    · intro w0 hSw; go_simp; rw [if_neg (by first | omega | (simp; omega))]; rfl
    simp only [Act.put, List.setIfInBounds_toArray, List.set_cons_zero, List.set_cons_succ]
    refine wpAnyH_ready (rs := [18]) (by kernel_rfl) (by simp) ?_
    refine AllReadyH.cons (o := _) rfl (fun K hK => ?_) AllReadyH.nil
    go_simp
    refine (unhide D3 _).mono ?_
    rintro e v2 ⟨rfl, hbel⟩
    dsimp only
    refine hK.out _ _ (hS1.below hbel) (fun hS1 => ?_)
    clear hK K hbel
    try simp only [Act.put, List.setIfInBounds_toArray, List.set_cons_zero, List.set_cons_succ]
    refine wpAnyH_take (i := 19) (oi := _) (v := .string ((((((kw k ++ sp) ++ d1) ++ sp) ++ d2) ++ sp) ++ d3)) rfl (by kernel_rfl) (by kernel_rfl) (by kernel_rfl) (fun _ _ _ h => h) (Or.inl ⟨by rfl, ?_⟩) (by assumption) ?_
    · intro w0 hSw; go_simp; omega
    simp only [Act.put, List.setIfInBounds_toArray, List.set_cons_zero, List.set_cons_succ]
    refine wpAnyH_take (i := 20) (oi := _) (v := .string (((((((kw k ++ sp) ++ d1) ++ sp) ++ d2) ++ sp) ++ d3) ++ sp)) rfl (by kernel_rfl) (by kernel_rfl) (by kernel_rfl) (fun _ _ _ h => h) (Or.inl ⟨by rfl, ?_⟩) (by assumption) ?_
    · intro w0 hSw; go_simp; rw [if_neg (by first | omega | (simp; omega))]; rfl
    simp only [Act.put, List.setIfInBounds_toArray, List.set_cons_zero, List.set_cons_succ]
    refine wpAnyH_ready (rs := [23]) (by kernel_rfl) (by simp) ?_
    refine AllReadyH.cons (o := _) rfl (fun K hK => ?_) AllReadyH.nil
    go_simp
    refine (unhide D4 _).mono ?_
    rintro e v3 ⟨rfl, hbel⟩
    dsimp only
    refine hK.out _ _ (hS1.below hbel) (fun hS1 => ?_)
    clear hK K hbel
    try simp only [Act.put, List.setIfInBounds_toArray, List.set_cons_zero, List.set_cons_succ]
    refine wpAnyH_take (i := 24) (oi := _) (v := .string ((((((((kw k ++ sp) ++ d1) ++ sp) ++ d2) ++ sp) ++ d3) ++ sp) ++ d4)) rfl (by kernel_rfl) (by kernel_rfl) (by kernel_rfl) (fun _ _ _ h => h) (Or.inl ⟨by rfl, ?_⟩) (by assumption) ?_
    · intro w0 hSw; go_simp; omega
    simp only [Act.put, List.setIfInBounds_toArray, List.set_cons_zero, List.set_cons_succ]
    refine wpAnyH_take (i := 25) (oi := _) (v := .string (((((((((kw k ++ sp) ++ d1) ++ sp) ++ d2) ++ sp) ++ d3) ++ sp) ++ d4) ++ sp)) rfl (by kernel_rfl) (by kernel_rfl) (by kernel_rfl) (fun _ _ _ h => h) (Or.inl ⟨by rfl, ?_⟩) (by assumption) ?_
    · intro w0 hSw; go_simp; rw [if_neg (by first | omega | (simp; omega))]; rfl
    simp only [Act.put, List.setIfInBounds_toArray, List.set_cons_zero, List.set_cons_succ]
    refine wpAnyH_ready (rs := [29]) (by kernel_rfl) (by simp) ?_
    refine AllReadyH.cons (o := _) rfl (fun K hK => ?_) AllReadyH.nil
    go_simp
    refine (unhide D5 _).mono ?_
    rintro e v4 ⟨rfl, hbel⟩
    dsimp only
    refine hK.out _ _ (hS1.below hbel) (fun hS1 => ?_)
    clear hK K hbel
    try simp only [Act.put, List.setIfInBounds_toArray, List.set_cons_zero, List.set_cons_succ]
    refine wpAnyH_take (i := 30) (oi := _) (v := .string ((((((((((kw k ++ sp) ++ d1) ++ sp) ++ d2) ++ sp) ++ d3) ++ sp) ++ d4) ++ sp) ++ d5)) rfl (by kernel_rfl) (by kernel_rfl) (by kernel_rfl) (fun _ _ _ h => h) (Or.inl ⟨by rfl, ?_⟩) (by assumption) ?_
    · intro w0 hSw; go_simp; omega
    simp only [Act.put, List.setIfInBounds_toArray, List.set_cons_zero, List.set_cons_succ]
    refine wpAnyH_ready (rs := [31]) (by kernel_rfl) (by simp) ?_
    refine AllReadyH.cons (o := _) rfl (fun K hK => ?_) AllReadyH.nil
    go_simp
    refine hK.out _ _ hS1 (fun hS1 => ?_)
    clear hK K
    try simp only [Act.put, List.setIfInBounds_toArray, List.set_cons_zero, List.set_cons_succ]
    refine wpAnyH_ready (rs := [32]) (by kernel_rfl) (by simp) ?_
    refine AllReadyH.cons (o := _) rfl (fun K hK => ?_) AllReadyH.nil
    go_simp
    refine hK.out _ _ hS1 (fun hS1 => ?_)
    clear hK K
    try simp only [Act.put, List.setIfInBounds_toArray, List.set_cons_zero, List.set_cons_succ]
    all_goals refine wpAnyH_done (by kernel_rfl) ?_ _
    all_goals refine NoPanic.normal ?_
    all_goals go_wp2
    all_goals go_ret2
    all_goals exact ⟨rfl, hS1.s0.bel⟩
  go_simp
  refine (unhide D3 _).mono ?_
  rintro e u3 ⟨rfl, hbel⟩
  dsimp only
  refine hK.out _ _ (hHeld.below hbel) (fun hHeld => ?_)
  clear hK K hbel
  try simp only [Act.put, List.setIfInBounds_toArray, List.set_cons_zero, List.set_cons_succ]
  refine wpAnyH_ready (rs := [0, 23]) (by kernel_rfl) (by simp) ?_
  refine AllReadyH.cons (o := _) rfl (fun K hK => ?_) (AllReadyH.cons (o := _) rfl (fun K hK => ?_) AllReadyH.nil)
  · skip
    go_simp
    have hHeld0 := hHeld
    refine hK.out _ _ (hHeld.below ((Below.refl _ _).alloc (Nat.le_refl _) _)) (fun hHeld => ?_)
    clear hK K
    try simp only [Act.put, List.setIfInBounds_toArray, List.set_cons_zero, List.set_cons_succ]
    have hS1 := S1.of hHeld0 k1 k2
    clear hHeld hHeld0
    unfold wordsB at hS1
    refine wpAnyH_strong (S' := S1 w (k : Int) og sq hl hp body u3.heap.size k) (fun _ h => h.s0) ?_
    refine wpAnyH_take (i := 3) (oi := _) (v := .pointer (some ⟨u3.heap.size, k, none⟩)) rfl (by kernel_rfl) (by kernel_rfl) (by kernel_rfl) (fun _ _ _ h => h) (Or.inl ⟨by rfl, ?_⟩) (by assumption) ?_
    · intro w0 hSw; go_simp
    simp only [Act.put, List.setIfInBounds_toArray, List.set_cons_zero, List.set_cons_succ]
    refine wpAnyH_take (i := 4) (oi := _) (v := .string (kw k)) rfl (by kernel_rfl) (by kernel_rfl) (by kernel_rfl) (fun _ _ _ h => h) (Or.inl ⟨by rfl, ?_⟩) (by assumption) ?_
    · intro w0 hSw; have hc := hSw.cw; go_simp
    simp only [Act.put, List.setIfInBounds_toArray, List.set_cons_zero, List.set_cons_succ]
    refine wpAnyH_take (i := 5) (oi := _) (v := .string (kw k ++ sp)) rfl (by kernel_rfl) (by kernel_rfl) (by kernel_rfl) (fun _ _ _ h => h) (Or.inl ⟨by rfl, ?_⟩) (by assumption) ?_
    · intro w0 hSw; go_simp; rw [if_neg (by first | omega | (simp; omega))]; rfl
    simp only [Act.put, List.setIfInBounds_toArray, List.set_cons_zero, List.set_cons_succ]
    refine wpAnyH_take (i := 9) (oi := _) (v := .string ((kw k ++ sp) ++ d1)) rfl (by kernel_rfl) (by kernel_rfl) (by kernel_rfl) (fun _ _ _ h => h) (Or.inl ⟨by rfl, ?_⟩) (by assumption) ?_
    · intro w0 hSw; go_simp; omega
    simp only [Act.put, List.setIfInBounds_toArray, List.set_cons_zero, List.set_cons_succ]
    refine wpAnyH_take (i := 10) (oi := _) (v := .string (((kw k ++ sp) ++ d1) ++ sp)) rfl (by kernel_rfl) (by kernel_rfl) (by kernel_rfl) (fun _ _ _ h => h) (Or.inl ⟨by rfl, ?_⟩) (by assumption) ?_
    · intro w0 hSw; go_simp; rw [if_neg (by first | omega | (simp; omega))]; rfl
    simp only [Act.put, List.setIfInBounds_toArray, List.set_cons_zero, List.set_cons_succ]
    refine wpAnyH_take (i := 14) (oi := _) (v := .string ((((kw k ++ sp) ++ d1) ++ sp) ++ d2)) rfl (by kernel_rfl) (by kernel_rfl) (by kernel_rfl) (fun _ _ _ h => h) (Or.inl ⟨by rfl, ?_⟩) (by assumption) ?_
    · intro w0 hSw; go_simp; omega
    simp only [Act.put, List.setIfInBounds_toArray, List.set_cons_zero, List.set_cons_succ]
    refine wpAnyH_take (i := 15) (oi := _) (v := .string (((((kw k ++ sp) ++ d1) ++ sp) ++ d2) ++ sp)) rfl (by kernel_rfl) (by kernel_rfl) (by kernel_rfl) (fun _ _ _ h => h) (Or.inl ⟨by rfl, ?_⟩) (by assumption) ?_
    · intro w0 hSw; go_simp; rw [if_neg (by first | omega | (simp; omega))]; rfl
    simp only [Act.put, List.setIfInBounds_toArray, List.set_cons_zero, List.set_cons_succ]
    refine wpAnyH_take (i := 19) (oi := _) (v := .string ((((((kw k ++ sp) ++ d1) ++ sp) ++ d2) ++ sp) ++ d3)) rfl (by kernel_rfl) (by kernel_rfl) (by kernel_rfl) (fun _ _ _ h => h) (Or.inl ⟨by rfl, ?_⟩) (by assumption) ?_
    · intro w0 hSw; go_simp; omega
    simp only [Act.put, List.setIfInBounds_toArray, List.set_cons_zero, List.set_cons_succ]
    refine wpAnyH_take (i := 20) (oi := _) (v := .string (((((((kw k ++ sp) ++ d1) ++ sp) ++ d2) ++ sp) ++ d3) ++ sp)) rfl (by kernel_rfl) (by kernel_rfl) (by kernel_rfl) (fun _ _ _ h => h) (Or.inl ⟨by rfl, ?_⟩) (by assumption) ?_
    · intro w0 hSw; go_simp; rw [if_neg (by first | omega | (simp; omega))]; rfl
    simp only [Act.put, List.setIfInBounds_toArray, List.set_cons_zero, List.set_cons_succ]
    refine wpAnyH_ready (rs := [23]) (by kernel_rfl) (by simp) ?_
    refine AllReadyH.cons (o := _) rfl (fun K hK => ?_) AllReadyH.nil
    go_simp
    refine (unhide D4 _).mono ?_
    rintro e v3 ⟨rfl, hbel⟩
    dsimp only
    refine hK.out _ _ (hS1.below hbel) (fun hS1 => ?_)
    clear hK K hbel
    try simp only [Act.put, List.setIfInBounds_toArray, List.set_cons_zero, List.set_cons_succ]
    refine wpAnyH_take (i := 24) (oi := _) (v := .string ((((((((kw k ++ sp) ++ d1) ++ sp) ++ d2) ++ sp) ++ d3) ++ sp) ++ d4)) rfl (by kernel_rfl) (by kernel_rfl) (by kernel_rfl) (fun _ _ _ h => h) (Or.inl ⟨by rfl, ?_⟩) (by assumption) ?_
    · intro w0 hSw; go_simp; omega
    simp only [Act.put, List.setIfInBounds_toArray, List.set_cons_zero, List.set_cons_succ]
    refine wpAnyH_take (i := 25) (oi := _) (v := .string (((((((((kw k ++ sp) ++ d1) ++ sp) ++ d2) ++ sp) ++ d3) ++ sp) ++ d4) ++ sp)) rfl (by kernel_rfl) (by kernel_rfl) (by kernel_rfl) (fun _ _ _ h => h) (Or.inl ⟨by rfl, ?_⟩) (by assumption) ?_
    · intro w0 hSw; go_simp; rw [if_neg (by first | omega | (simp; omega))]; rfl
    simp only [Act.put, List.setIfInBounds_toArray, List.set_cons_zero, List.set_cons_succ]
    refine wpAnyH_ready (rs := [29]) (by kernel_rfl) (by simp) ?_
    refine AllReadyH.cons (o := _) rfl (fun K hK => ?_) AllReadyH.nil
    go_simp
    refine (unhide D5 _).mono ?_
    rintro e v4 ⟨rfl, hbel⟩
    dsimp only
    refine hK.out _ _ (hS1.below hbel) (fun hS1 => ?_)
    clear hK K hbel
    try simp only [Act.put, List.setIfInBounds_toArray, List.set_cons_zero, List.set_cons_succ]
    refine wpAnyH_take (i := 30) (oi := _) (v := .string ((((((((((kw k ++ sp) ++ d1) ++ sp) ++ d2) ++ sp) ++ d3) ++ sp) ++ d4) ++ sp) ++ d5)) rfl (by kernel_rfl) (by kernel_rfl) (by kernel_rfl) (fun _ _ _ h => h) (Or.inl ⟨by rfl, ?_⟩) (by assumption) ?_
    · intro w0 hSw; go_simp; omega
    simp only [Act.put, List.setIfInBounds_toArray, List.set_cons_zero, List.set_cons_succ]
    refine wpAnyH_ready (rs := [31]) (by kernel_rfl) (by simp) ?_
    refine AllReadyH.cons (o := _) rfl (fun K hK => ?_) AllReadyH.nil
    go_simp
    refine hK.out _ _ hS1 (fun hS1 => ?_)
    clear hK K
    try simp only [Act.put, List.setIfInBounds_toArray, List.set_cons_zero, List.set_cons_succ]
    refine wpAnyH_ready (rs := [32]) (by kernel_rfl) (by simp) ?_
    refine AllReadyH.cons (o := _) rfl (fun K hK => ?_) AllReadyH.nil
    go_simp
    refine hK.out _ _ hS1 (fun hS1 => ?_)
    clear hK K
    try simp only [Act.put, List.setIfInBounds_toArray, List.set_cons_zero, List.set_cons_succ]
    all_goals refine wpAnyH_done (by kernel_rfl) ?_ _
    all_goals refine NoPanic.normal ?_
    all_goals go_wp2
    all_goals go_ret2
    all_goals exact ⟨rfl, hS1.s0.bel⟩
  go_simp
  refine (unhide D4 _).mono ?_
  rintro e u4 ⟨rfl, hbel⟩
  dsimp only
  refine hK.out _ _ (hHeld.below hbel) (fun hHeld => ?_)
  clear hK K hbel
  try simp only [Act.put, List.setIfInBounds_toArray, List.set_cons_zero, List.set_cons_succ]
  refine wpAnyH_ready (rs := [0, 29]) (by kernel_rfl) (by simp) ?_
  refine AllReadyH.cons (o := _) rfl (fun K hK => ?_) (AllReadyH.cons (o := _) rfl (fun K hK => ?_) AllReadyH.nil)
  · skip
    go_simp
    have hHeld0 := hHeld
    refine hK.out _ _ (hHeld.below ((Below.refl _ _).alloc (Nat.le_refl _) _)) (fun hHeld => ?_)
    clear hK K
    try simp only [Act.put, List.setIfInBounds_toArray, List.set_cons_zero, List.set_cons_succ]
    have hS1 := S1.of hHeld0 k1 k2
    clear hHeld hHeld0
    unfold wordsB at hS1
    refine wpAnyH_strong (S' := S1 w (k : Int) og sq hl hp body u4.heap.size k) (fun _ h => h.s0) ?_
    refine wpAnyH_take (i := 3) (oi := _) (v := .pointer (some ⟨u4.heap.size, k, none⟩)) rfl (by kernel_rfl) (by kernel_rfl) (by kernel_rfl) (fun _ _ _ h => h) (Or.inl ⟨by rfl, ?_⟩) (by assumption) ?_
    · intro w0 hSw; go_simp
    simp only [Act.put, List.setIfInBounds_toArray, List.set_cons_zero, List.set_cons_succ]
    refine wpAnyH_take (i := 4) (oi := _) (v := .string (kw k)) rfl (by kernel_rfl) (by kernel_rfl) (by kernel_rfl) (fun _ _ _ h => h) (Or.inl ⟨by rfl, ?_⟩) (by assumption) ?_
    · intro w0 hSw; have hc := hSw.cw; go_simp
    simp only [Act.put, List.setIfInBounds_toArray, List.set_cons_zero, List.set_cons_succ]
    refine wpAnyH_take (i := 5) (oi := _) (v := .string (kw k ++ sp)) rfl (by kernel_rfl) (by kernel_rfl) (by kernel_rfl) (fun _ _ _ h => h) (Or.inl ⟨by rfl, ?_⟩) (by assumption) ?_
    · intro w0 hSw; go_simp; rw [if_neg (by first | omega | (simp; omega))]; rfl
    simp only [Act.put, List.setIfInBounds_toArray, List.set_cons_zero, List.set_cons_succ]
    refine wpAnyH_take (i := 9) (oi := _) (v := .string ((kw k ++ sp) ++ d1)) rfl (by kernel_rfl) (by kernel_rfl) (by kernel_rfl) (fun _ _ _ h => h) (Or.inl ⟨by rfl, ?_⟩) (by assumption) ?_
    · intro w0 hSw; go_simp; omega
    simp only [Act.put, List.setIfInBounds_toArray, List.set_cons_zero, List.set_cons_succ]
    refine wpAnyH_take (i := 10) (oi := _) (v := .string (((kw k ++ sp) ++ d1) ++ sp)) rfl (by kernel_rfl) (by kernel_rfl) (by kernel_rfl) (fun _ _ _ h => h) (Or.inl ⟨by rfl, ?_⟩) (by assumption) ?_
    · intro w0 hSw; go_simp; rw [if_neg (by first | omega | (simp; omega))]; rfl
    simp only [Act.put, List.setIfInBounds_toArray, List.set_cons_zero, List.set_cons_succ]
    refine wpAnyH_take (i := 14) (oi := _) (v := .string ((((kw k ++ sp) ++ d1) ++ sp) ++ d2)) rfl (by kernel_rfl) (by kernel_rfl) (by kernel_rfl) (fun _ _ _ h => h) (Or.inl ⟨by rfl, ?_⟩) (by assumption) ?_
    · intro w0 hSw; go_simp; omega
    simp only [Act.put, List.setIfInBounds_toArray, List.set_cons_zero, List.set_cons_succ]
    refine wpAnyH_take (i := 15) (oi := _) (v := .string (((((kw k ++ sp) ++ d1) ++ sp) ++ d2) ++ sp)) rfl (by kernel_rfl) (by kernel_rfl) (by kernel_rfl) (fun _ _ _ h => h) (Or.inl ⟨by rfl, ?_⟩) (by assumption) ?_
    · intro w0 hSw; go_simp; rw [if_neg (by first | omega | (simp; omega))]; rfl
    simp only [Act.put, List.setIfInBounds_toArray, List.set_cons_zero, List.set_cons_succ]
    refine wpAnyH_take (i := 19) (oi := _) (v := .string ((((((kw k ++ sp) ++ d1) ++ sp) ++ d2) ++ sp) ++ d3)) rfl (by kernel_rfl) (by kernel_rfl) (by kernel_rfl) (fun _ _ _ h => h) (Or.inl ⟨by rfl, ?_⟩) (by assumption) ?_
    · intro w0 hSw; go_simp; omega
    simp only [Act.put, List.setIfInBounds_toArray, List.set_cons_zero, List.set_cons_succ]
    refine wpAnyH_take (i := 20) (oi := _) (v := .string (((((((kw k ++ sp) ++ d1) ++ sp) ++ d2) ++ sp) ++ d3) ++ sp)) rfl (by kernel_rfl) (by kernel_rfl) (by kernel_rfl) (fun _ _ _ h => h) (Or.inl ⟨by rfl, ?_⟩) (by assumption) ?_
    · intro w0 hSw; go_simp; rw [if_neg (by first | omega | (simp; omega))]; rfl
    simp only [Act.put, List.setIfInBounds_toArray, List.set_cons_zero, List.set_cons_succ]
    refine wpAnyH_take (i := 24) (oi := _) (v := .string ((((((((kw k ++ sp) ++ d1) ++ sp) ++ d2) ++ sp) ++ d3) ++ sp) ++ d4)) rfl (by kernel_rfl) (by kernel_rfl) (by kernel_rfl) (fun _ _ _ h => h) (Or.inl ⟨by rfl, ?_⟩) (by assumption) ?_
    · intro w0 hSw; go_simp; omega
    simp only [Act.put, List.setIfInBounds_toArray, List.set_cons_zero, List.set_cons_succ]
    refine wpAnyH_take (i := 25) (oi := _) (v := .string (((((((((kw k ++ sp) ++ d1) ++ sp) ++ d2) ++ sp) ++ d3) ++ sp) ++ d4) ++ sp)) rfl (by kernel_rfl) (by kernel_rfl) (by kernel_rfl) (fun _ _ _ h => h) (Or.inl ⟨by rfl, ?_⟩) (by assumption) ?_
    · intro w0 hSw; go_simp; rw [if_neg (by first | omega | (simp; omega))]; rfl
    simp only [Act.put, List.setIfInBounds_toArray, List.set_cons_zero, List.set_cons_succ]
    refine wpAnyH_ready (rs := [29]) (by kernel_rfl) (by simp) ?_
    refine AllReadyH.cons (o := _) rfl (fun K hK => ?_) AllReadyH.nil
    go_simp
    refine (unhide D5 _).mono ?_
    rintro e v4 ⟨rfl, hbel⟩
    dsimp only
    refine hK.out _ _ (hS1.below hbel) (fun hS1 => ?_)
    clear hK K hbel
    try simp only [Act.put, List.setIfInBounds_toArray, List.set_cons_zero, List.set_cons_succ]
    refine wpAnyH_take (i := 30) (oi := _) (v := .string ((((((((((kw k ++ sp) ++ d1) ++ sp) ++ d2) ++ sp) ++ d3) ++ sp) ++ d4) ++ sp) ++ d5)) rfl (by kernel_rfl) (by kernel_rfl) (by kernel_rfl) (fun _ _ _ h => h) (Or.inl ⟨by rfl, ?_⟩) (by assumption) ?_
    · intro w0 hSw; go_simp; omega
    simp only [Act.put, List.setIfInBounds_toArray, List.set_cons_zero, List.set_cons_succ]
    refine wpAnyH_ready (rs := [31]) (by kernel_rfl) (by simp) ?_
    refine AllReadyH.cons (o := _) rfl (fun K hK => ?_) AllReadyH.nil
    go_simp
    refine hK.out _ _ hS1 (fun hS1 => ?_)
    clear hK K
    try simp only [Act.put, List.setIfInBounds_toArray, List.set_cons_zero, List.set_cons_succ]
    refine wpAnyH_ready (rs := [32]) (by kernel_rfl) (by simp) ?_
    refine AllReadyH.cons (o := _) rfl (fun K hK => ?_) AllReadyH.nil
    go_simp
    refine hK.out _ _ hS1 (fun hS1 => ?_)
    clear hK K
    try simp only [Act.put, List.setIfInBounds_toArray, List.set_cons_zero, List.set_cons_succ]
    all_goals refine wpAnyH_done (by kernel_rfl) ?_ _
    all_goals refine NoPanic.normal ?_
    all_goals go_wp2
    all_goals go_ret2
    all_goals exact ⟨rfl, hS1.s0.bel⟩
  go_simp
  refine (unhide D5 _).mono ?_
  rintro e u5 ⟨rfl, hbel⟩
  dsimp only
  refine hK.out _ _ (hHeld.below hbel) (fun hHeld => ?_)
  clear hK K hbel
  try simp only [Act.put, List.setIfInBounds_toArray, List.set_cons_zero, List.set_cons_succ]
  refine wpAnyH_ready (rs := [0]) (by kernel_rfl) (by simp) ?_
  refine AllReadyH.cons (o := _) rfl (fun K hK => ?_) AllReadyH.nil
  go_simp
  have hHeld0 := hHeld
  refine hK.out _ _ (hHeld.below ((Below.refl _ _).alloc (Nat.le_refl _) _)) (fun hHeld => ?_)
  clear hK K
  try simp only [Act.put, List.setIfInBounds_toArray, List.set_cons_zero, List.set_cons_succ]
  have hS1 := S1.of hHeld0 k1 k2
  clear hHeld hHeld0
  unfold wordsB at hS1
  refine wpAnyH_strong (S' := S1 w (k : Int) og sq hl hp body u5.heap.size k) (fun _ h => h.s0) ?_
  refine wpAnyH_take (i := 3) (oi := _) (v := .pointer (some ⟨u5.heap.size, k, none⟩)) rfl (by kernel_rfl) (by kernel_rfl) (by kernel_rfl) (fun _ _ _ h => h) (Or.inl ⟨by rfl, ?_⟩) (by assumption) ?_
  · intro w0 hSw; go_simp
  simp only [Act.put, List.setIfInBounds_toArray, List.set_cons_zero, List.set_cons_succ]
  refine wpAnyH_take (i := 4) (oi := _) (v := .string (kw k)) rfl (by kernel_rfl) (by kernel_rfl) (by kernel_rfl) (fun _ _ _ h => h) (Or.inl ⟨by rfl, ?_⟩) (by assumption) ?_
  · intro w0 hSw; have hc := hSw.cw; go_simp
  simp only [Act.put, List.setIfInBounds_toArray, List.set_cons_zero, List.set_cons_succ]
  refine wpAnyH_take (i := 5) (oi := _) (v := .string (kw k ++ sp)) rfl (by kernel_rfl) (by kernel_rfl) (by kernel_rfl) (fun _ _ _ h => h) (Or.inl ⟨by rfl, ?_⟩) (by assumption) ?_
  · intro w0 hSw; go_simp; rw [if_neg (by first | omega | (simp; omega))]; rfl
  simp only [Act.put, List.setIfInBounds_toArray, List.set_cons_zero, List.set_cons_succ]
  refine wpAnyH_take (i := 9) (oi := _) (v := .string ((kw k ++ sp) ++ d1)) rfl (by kernel_rfl) (by kernel_rfl) (by kernel_rfl) (fun _ _ _ h => h) (Or.inl ⟨by rfl, ?_⟩) (by assumption) ?_
  · intro w0 hSw; go_simp; omega
  simp only [Act.put, List.setIfInBounds_toArray, List.set_cons_zero, List.set_cons_succ]
  refine wpAnyH_take (i := 10) (oi := _) (v := .string (((kw k ++ sp) ++ d1) ++ sp)) rfl (by kernel_rfl) (by kernel_rfl) (by kernel_rfl) (fun _ _ _ h => h) (Or.inl ⟨by rfl, ?_⟩) (by assumption) ?_
  · intro w0 hSw; go_simp; rw [if_neg (by first | omega | (simp; omega))]; rfl
  simp only [Act.put, List.setIfInBounds_toArray, List.set_cons_zero, List.set_cons_succ]
  refine wpAnyH_take (i := 14) (oi := _) (v := .string ((((kw k ++ sp) ++ d1) ++ sp) ++ d2)) rfl (by kernel_rfl) (by kernel_rfl) (by kernel_rfl) (fun _ _ _ h => h) (Or.inl ⟨by rfl, ?_⟩) (by assumption) ?_
  · intro w0 hSw; go_simp; omega
  simp only [Act.put, List.setIfInBounds_toArray, List.set_cons_zero, List.set_cons_succ]
  refine wpAnyH_take (i := 15) (oi := _) (v := .string (((((kw k ++ sp) ++ d1) ++ sp) ++ d2) ++ sp)) rfl (by kernel_rfl) (by kernel_rfl) (by kernel_rfl) (fun _ _ _ h => h) (Or.inl ⟨by rfl, ?_⟩) (by assumption) ?_
  · intro w0 hSw; go_simp; rw [if_neg (by first | omega | (simp; omega))]; rfl
  simp only [Act.put, List.setIfInBounds_toArray, List.set_cons_zero, List.set_cons_succ]
  refine wpAnyH_take (i := 19) (oi := _) (v := .string ((((((kw k ++ sp) ++ d1) ++ sp) ++ d2) ++ sp) ++ d3)) rfl (by kernel_rfl) (by kernel_rfl) (by kernel_rfl) (fun _ _ _ h => h) (Or.inl ⟨by rfl, ?_⟩) (by assumption) ?_
  · intro w0 hSw; go_simp; omega
  simp only [Act.put, List.setIfInBounds_toArray, List.set_cons_zero, List.set_cons_succ]
  refine wpAnyH_take (i := 20) (oi := _) (v := .string (((((((kw k ++ sp) ++ d1) ++ sp) ++ d2) ++ sp) ++ d3) ++ sp)) rfl (by kernel_rfl) (by kernel_rfl) (by kernel_rfl) (fun _ _ _ h => h) (Or.inl ⟨by rfl, ?_⟩) (by assumption) ?_
  · intro w0 hSw; go_simp; rw [if_neg (by first | omega | (simp; omega))]; rfl
  simp only [Act.put, List.setIfInBounds_toArray, List.set_cons_zero, List.set_cons_succ]
  refine wpAnyH_take (i := 24) (oi := _) (v := .string ((((((((kw k ++ sp) ++ d1) ++ sp) ++ d2) ++ sp) ++ d3) ++ sp) ++ d4)) rfl (by kernel_rfl) (by kernel_rfl) (by kernel_rfl) (fun _ _ _ h => h) (Or.inl ⟨by rfl, ?_⟩) (by assumption) ?_
  · intro w0 hSw; go_simp; omega
  simp only [Act.put, List.setIfInBounds_toArray, List.set_cons_zero, List.set_cons_succ]
  refine wpAnyH_take (i := 25) (oi := _) (v := .string (((((((((kw k ++ sp) ++ d1) ++ sp) ++ d2) ++ sp) ++ d3) ++ sp) ++ d4) ++ sp)) rfl (by kernel_rfl) (by kernel_rfl) (by kernel_rfl) (fun _ _ _ h => h) (Or.inl ⟨by rfl, ?_⟩) (by assumption) ?_
  · intro w0 hSw; go_simp; rw [if_neg (by first | omega | (simp; omega))]; rfl
  simp only [Act.put, List.setIfInBounds_toArray, List.set_cons_zero, List.set_cons_succ]
  refine wpAnyH_take (i := 30) (oi := _) (v := .string ((((((((((kw k ++ sp) ++ d1) ++ sp) ++ d2) ++ sp) ++ d3) ++ sp) ++ d4) ++ sp) ++ d5)) rfl (by kernel_rfl) (by kernel_rfl) (by kernel_rfl) (fun _ _ _ h => h) (Or.inl ⟨by rfl, ?_⟩) (by assumption) ?_
  · intro w0 hSw; go_simp; omega
  simp only [Act.put, List.setIfInBounds_toArray, List.set_cons_zero, List.set_cons_succ]
  refine wpAnyH_ready (rs := [31]) (by kernel_rfl) (by simp) ?_
  refine AllReadyH.cons (o := _) rfl (fun K hK => ?_) AllReadyH.nil
  go_simp
  refine hK.out _ _ hS1 (fun hS1 => ?_)
  clear hK K
  try simp only [Act.put, List.setIfInBounds_toArray, List.set_cons_zero, List.set_cons_succ]
  refine wpAnyH_ready (rs := [32]) (by kernel_rfl) (by simp) ?_
  refine AllReadyH.cons (o := _) rfl (fun K hK => ?_) AllReadyH.nil
  go_simp
  refine hK.out _ _ hS1 (fun hS1 => ?_)
  clear hK K
  try simp only [Act.put, List.setIfInBounds_toArray, List.set_cons_zero, List.set_cons_succ]
  all_goals refine wpAnyH_done (by kernel_rfl) ?_ _
  all_goals refine NoPanic.normal ?_
  all_goals go_wp2
  all_goals go_ret2
  all_goals exact ⟨rfl, hS1.s0.bel⟩
end Tx
end Go.Proofs.YtmelbilepfnmjahDoor
