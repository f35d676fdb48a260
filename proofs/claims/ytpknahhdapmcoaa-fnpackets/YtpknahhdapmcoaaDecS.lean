/-
  Contract of the model's l01Next: the first message of a text, or none.
-/
import Derived.Test.YtpknahhdapmcoaaDec
namespace Go.Proofs.Ytpknahhdapmcoaa
open Go.ChangeShapes Go.WideShapes Go.ChangeAt Go.RowKit
set_option linter.unusedVariables false
set_option linter.unusedSimpArgs false
attribute [local go_sem ↓] Go.wp_at_zero Go.wp_at_succ
namespace De
open W1 By

/-- The body that the bytes tell; whether they begin with a right message. -/
def bodyOf (bs : List UInt8) : ByteArray := ⟨((bs.take (two bs 1).toNat).drop 8).toArray⟩
def decB (bs : List UInt8) : Bool := decide (8 ≤ bs.length) && (decide (8 ≤ two bs 1) && (decide (two bs 1 ≤ bs.length) && okB (fld bs 0) (fld bs 3) (two bs 4) (fld bs 6) (fld bs 7) (bodyOf bs)))
theorem wrapF (bs : List UInt8) (i : Nat) : IntKind.i64.wrap (fld bs i) = fld bs i := by have := fld_lo bs i; have := fld_hi bs i; rw [IntWalk.i64_left]; unfold wrap64; omega
theorem fld_at (s : ByteArray) (i : Nat) (h : i < s.size) : ((s[i].toNat : Nat) : Int) = fld s.data.toList i := by
  unfold fld
  have h' : i < s.data.size := h
  rw [List.getD_eq_getElem?_getD, Array.getElem?_toList, Array.getElem?_eq_getElem h']; rfl
theorem two_at (s : ByteArray) (i : Nat) (h : i + 1 < s.size) : 256 * ((s[i].toNat : Nat) : Int) + ((s[i + 1].toNat : Nat) : Int) = two s.data.toList i := by
  unfold two
  rw [fld_at s i (by omega), fld_at s (i + 1) h]
theorem two_lo (bs : List UInt8) (i : Nat) : 0 ≤ two bs i := by unfold two; have := fld_lo bs i; have := fld_lo bs (i + 1); omega
theorem two_hi (bs : List UInt8) (i : Nat) : two bs i ≤ 65535 := by unfold two; have := fld_hi bs i; have := fld_hi bs (i + 1); omega
theorem extract_two (s : ByteArray) (i : Nat) (h : i + 1 < s.size) : s.extract i (i + 2) = ⟨#[s[i]'(by omega), s[i + 1]]⟩ := by
  have h' : i + 1 < s.data.size := h
  apply ByteArray.ext
  apply Array.ext'
  rw [ByteArray.data_extract, Array.toList_extract]
  show List.take (i + 2 - i) (List.drop i s.data.toList) = [s.data[i], s.data[i + 1]]
  rw [List.drop_eq_getElem_cons (by simp; omega), List.drop_eq_getElem_cons (by simp; omega), show i + 2 - i = 2 by omega]
  simp
theorem extract_body (s : ByteArray) (n : Int) (h : n = two s.data.toList 1) : s.extract 8 n.toNat = bodyOf s.data.toList := by
  subst h
  apply ByteArray.ext
  apply Array.ext'
  rw [ByteArray.data_extract, Array.toList_extract]
  unfold bodyOf
  simp [List.drop_take]
/-- What l01Next answers. -/
def nextV (bs : List UInt8) : Value := if decB bs = true then .tuple #[.agg #[.int .i64 (fld bs 0), .int .i64 (fld bs 3), .int .i64 (two bs 4), .int .i64 (fld bs 6), .int .i64 (fld bs 7), .string (bodyOf bs)], .int .i64 (two bs 1), .bool true] else .tuple #[.agg #[.int .i64 0, .int .i64 0, .int .i64 0, .int .i64 0, .int .i64 0, .string ⟨#[]⟩], .int .i64 0, .bool false]
theorem nextV_no {bs : List UInt8} (h : decB bs = false) : nextV bs = .tuple #[.agg #[.int .i64 0, .int .i64 0, .int .i64 0, .int .i64 0, .int .i64 0, .string ⟨#[]⟩], .int .i64 0, .bool false] := by unfold nextV; rw [h]; rfl
set_option maxRecDepth 100000 in
set_option maxHeartbeats 2000000 in
theorem l01Next (s : ByteArray) (w : World) (hm : s.size ≤ 1048576) :
    Calls Try.prog 72 #[.string s] w fun e w' => e = .returned (nextV s.data.toList) ∧ Below w.heap.size w w' := by
  have hdl : s.data.toList.length = s.size := by simp
  by_cases h8 : (s.size : Int) < 8
  · have hf := hide (nextV_no (bs := s.data.toList) (by unfold decB; rw [hdl, decide_eq_false (by omega)]; rfl))
    clear hdl
    go_enter Try.func72, Try.ntmps72
    go_wp2
    refine bodyPost_ret (v := .tuple #[.agg #[.int .i64 0, .int .i64 0, .int .i64 0, .int .i64 0, .int .i64 0, .string ⟨#[]⟩], .int .i64 0, .bool false]) (by simp [results, Try.results72, go_sem]) rfl ⟨by rw [unhide hf], ?_⟩
    repeat (first | exact Below.refl _ _ | refine Below.setCell ?_ (by simp <;> omega) _ | refine Below.alloc ?_ (by simp <;> omega) _)
  · have HD := hide hdl
    clear hdl
    have z8 : (8 : Int) ≤ s.size := by omega
    have z0 : (0 : Int) < s.size := by omega
    have z3 : (3 : Int) < s.size := by omega
    have z6 : (6 : Int) < s.size := by omega
    have z7 : (7 : Int) < s.size := by omega
    have y3 : (3 : Int) ≤ s.size := by omega
    have y6 : (6 : Int) ≤ s.size := by omega
    have l1 := two_lo s.data.toList 1
    have u1 := two_hi s.data.toList 1
    have N1 : Hid ((256 : Int) * (((s[1]'(by omega)).toNat : Nat) : Int) + (((s[2]'(by omega)).toNat : Nat) : Int) = two s.data.toList 1) := two_at s 1 (by omega)
    have N4 : Hid ((256 : Int) * (((s[4]'(by omega)).toNat : Nat) : Int) + (((s[5]'(by omega)).toNat : Nat) : Int) = two s.data.toList 4) := two_at s 4 (by omega)
    go_enter Try.func72, Try.ntmps72
    go_wp2_with fail
    refine (l01Of _ (s[1]'(by omega)) (s[2]'(by omega)) (extract_two s 1 (by omega)) _).mono ?_
    rintro e w1 ⟨rfl, rfl⟩
    rw [unhide N1]
    by_cases n8 : two s.data.toList 1 < 8
    · have hf := hide (nextV_no (bs := s.data.toList) (by unfold decB; rw [decide_eq_false (by omega : ¬ (8 ≤ two s.data.toList 1))]; simp))
      go_wp2_with fail
      refine bodyPost_ret (v := .tuple #[.agg #[.int .i64 0, .int .i64 0, .int .i64 0, .int .i64 0, .int .i64 0, .string ⟨#[]⟩], .int .i64 0, .bool false]) (by simp [results, Try.results72, go_sem]) rfl ⟨by rw [unhide hf], ?_⟩
      repeat (first | exact Below.refl _ _ | refine Below.setCell ?_ (by simp <;> omega) _ | refine Below.alloc ?_ (by simp <;> omega) _)
    by_cases nl : (s.size : Int) < two s.data.toList 1
    · have hf := hide (nextV_no (bs := s.data.toList) (by unfold decB; rw [unhide HD, decide_eq_false (by omega : ¬ (two s.data.toList 1 ≤ ((s.size : Nat) : Int)))]; simp))
      go_wp2_with fail
      refine bodyPost_ret (v := .tuple #[.agg #[.int .i64 0, .int .i64 0, .int .i64 0, .int .i64 0, .int .i64 0, .string ⟨#[]⟩], .int .i64 0, .bool false]) (by simp [results, Try.results72, go_sem]) rfl ⟨by rw [unhide hf], ?_⟩
      repeat (first | exact Below.refl _ _ | refine Below.setCell ?_ (by simp <;> omega) _ | refine Below.alloc ?_ (by simp <;> omega) _)
    have a0 := fld_lo s.data.toList 0
    have b0 := fld_hi s.data.toList 0
    have a3 := fld_lo s.data.toList 3
    have b3 := fld_hi s.data.toList 3
    have a6 := fld_lo s.data.toList 6
    have b6 := fld_hi s.data.toList 6
    have a7 := fld_lo s.data.toList 7
    have b7 := fld_hi s.data.toList 7
    have e0 := fld_at s 0 (by omega)
    have e3 := fld_at s 3 (by omega)
    have e6 := fld_at s 6 (by omega)
    have e7 := fld_at s 7 (by omega)
    have eb := extract_body s _ rfl
    have hne : ¬ s = ByteArray.empty := by intro e; rw [e] at z0; simp at z0
    have wf0 := wrapF s.data.toList 0
    have wf3 := wrapF s.data.toList 3
    have wf6 := wrapF s.data.toList 6
    have wf7 := wrapF s.data.toList 7
    have n8' : (8 : Int) ≤ two s.data.toList 1 := by omega
    have nl' : two s.data.toList 1 ≤ (s.size : Int) := by omega
    go_wp2_with fail
    refine wp_region_noPanic ?_
    refine wp_region_held_drew (S := fun _ => True) (by kernel_rfl) trivial (fun hHeld => ?_)
    refine wpAnyH_take (i := 0) (oi := _) (v := .string s) rfl (by kernel_rfl) (by kernel_rfl) (by kernel_rfl) (fun _ _ _ h => h) (Or.inl ⟨by rfl, ?_⟩) (by assumption) ?_
    · intro w0 hSw; go_simp
    simp only [Act.put, List.setIfInBounds_toArray, List.set_cons_zero, List.set_cons_succ]
    refine wpAnyH_take (i := 1) (oi := _) (v := .int .u8 (fld s.data.toList 0)) rfl (by kernel_rfl) (by kernel_rfl) (by kernel_rfl) (fun _ _ _ h => h) (Or.inl ⟨by rfl, ?_⟩) (by assumption) ?_
    · intro w0 hSw; go_simp
    simp only [Act.put, List.setIfInBounds_toArray, List.set_cons_zero, List.set_cons_succ]
    refine wpAnyH_take (i := 2) (oi := _) (v := .int .i64 (fld s.data.toList 0)) rfl (by kernel_rfl) (by kernel_rfl) (by kernel_rfl) (fun _ _ _ h => h) (Or.inl ⟨by rfl, ?_⟩) (by assumption) ?_
    · intro w0 hSw; go_simp
    simp only [Act.put, List.setIfInBounds_toArray, List.set_cons_zero, List.set_cons_succ]
    refine wpAnyH_take (i := 3) (oi := _) (v := .string s) rfl (by kernel_rfl) (by kernel_rfl) (by kernel_rfl) (fun _ _ _ h => h) (Or.inl ⟨by rfl, ?_⟩) (by assumption) ?_
    · intro w0 hSw; go_simp
    simp only [Act.put, List.setIfInBounds_toArray, List.set_cons_zero, List.set_cons_succ]
    refine wpAnyH_take (i := 4) (oi := _) (v := .int .u8 (fld s.data.toList 3)) rfl (by kernel_rfl) (by kernel_rfl) (by kernel_rfl) (fun _ _ _ h => h) (Or.inl ⟨by rfl, ?_⟩) (by assumption) ?_
    · intro w0 hSw; go_simp
    simp only [Act.put, List.setIfInBounds_toArray, List.set_cons_zero, List.set_cons_succ]
    refine wpAnyH_take (i := 5) (oi := _) (v := .int .i64 (fld s.data.toList 3)) rfl (by kernel_rfl) (by kernel_rfl) (by kernel_rfl) (fun _ _ _ h => h) (Or.inl ⟨by rfl, ?_⟩) (by assumption) ?_
    · intro w0 hSw; go_simp
    simp only [Act.put, List.setIfInBounds_toArray, List.set_cons_zero, List.set_cons_succ]
    refine wpAnyH_take (i := 6) (oi := _) (v := .string s) rfl (by kernel_rfl) (by kernel_rfl) (by kernel_rfl) (fun _ _ _ h => h) (Or.inl ⟨by rfl, ?_⟩) (by assumption) ?_
    · intro w0 hSw; go_simp
    simp only [Act.put, List.setIfInBounds_toArray, List.set_cons_zero, List.set_cons_succ]
    refine wpAnyH_take (i := 7) (oi := _) (v := .string (s.extract 4 6)) rfl (by kernel_rfl) (by kernel_rfl) (by kernel_rfl) (fun _ _ _ h => h) (Or.inl ⟨by rfl, ?_⟩) (by assumption) ?_
    · intro w0 hSw; go_simp
    simp only [Act.put, List.setIfInBounds_toArray, List.set_cons_zero, List.set_cons_succ]
    refine wpAnyH_take (i := 9) (oi := _) (v := .string s) rfl (by kernel_rfl) (by kernel_rfl) (by kernel_rfl) (fun _ _ _ h => h) (Or.inl ⟨by rfl, ?_⟩) (by assumption) ?_
    · intro w0 hSw; go_simp
    simp only [Act.put, List.setIfInBounds_toArray, List.set_cons_zero, List.set_cons_succ]
    refine wpAnyH_take (i := 10) (oi := _) (v := .int .u8 (fld s.data.toList 6)) rfl (by kernel_rfl) (by kernel_rfl) (by kernel_rfl) (fun _ _ _ h => h) (Or.inl ⟨by rfl, ?_⟩) (by assumption) ?_
    · intro w0 hSw; go_simp
    simp only [Act.put, List.setIfInBounds_toArray, List.set_cons_zero, List.set_cons_succ]
    refine wpAnyH_take (i := 11) (oi := _) (v := .int .i64 (fld s.data.toList 6)) rfl (by kernel_rfl) (by kernel_rfl) (by kernel_rfl) (fun _ _ _ h => h) (Or.inl ⟨by rfl, ?_⟩) (by assumption) ?_
    · intro w0 hSw; go_simp
    simp only [Act.put, List.setIfInBounds_toArray, List.set_cons_zero, List.set_cons_succ]
    refine wpAnyH_take (i := 12) (oi := _) (v := .string s) rfl (by kernel_rfl) (by kernel_rfl) (by kernel_rfl) (fun _ _ _ h => h) (Or.inl ⟨by rfl, ?_⟩) (by assumption) ?_
    · intro w0 hSw; go_simp
    simp only [Act.put, List.setIfInBounds_toArray, List.set_cons_zero, List.set_cons_succ]
    refine wpAnyH_take (i := 13) (oi := _) (v := .int .u8 (fld s.data.toList 7)) rfl (by kernel_rfl) (by kernel_rfl) (by kernel_rfl) (fun _ _ _ h => h) (Or.inl ⟨by rfl, ?_⟩) (by assumption) ?_
    · intro w0 hSw; go_simp
    simp only [Act.put, List.setIfInBounds_toArray, List.set_cons_zero, List.set_cons_succ]
    refine wpAnyH_take (i := 14) (oi := _) (v := .int .i64 (fld s.data.toList 7)) rfl (by kernel_rfl) (by kernel_rfl) (by kernel_rfl) (fun _ _ _ h => h) (Or.inl ⟨by rfl, ?_⟩) (by assumption) ?_
    · intro w0 hSw; go_simp
    simp only [Act.put, List.setIfInBounds_toArray, List.set_cons_zero, List.set_cons_succ]
    refine wpAnyH_take (i := 15) (oi := _) (v := .string s) rfl (by kernel_rfl) (by kernel_rfl) (by kernel_rfl) (fun _ _ _ h => h) (Or.inl ⟨by rfl, ?_⟩) (by assumption) ?_
    · intro w0 hSw; go_simp
    simp only [Act.put, List.setIfInBounds_toArray, List.set_cons_zero, List.set_cons_succ]
    refine wpAnyH_take (i := 16) (oi := _) (v := .int .i64 (two s.data.toList 1)) rfl (by kernel_rfl) (by kernel_rfl) (by kernel_rfl) (fun _ _ _ h => h) (Or.inl ⟨by rfl, ?_⟩) (by assumption) ?_
    · intro w0 hSw; go_simp
    simp only [Act.put, List.setIfInBounds_toArray, List.set_cons_zero, List.set_cons_succ]
    refine wpAnyH_take (i := 17) (oi := _) (v := .string (bodyOf s.data.toList)) rfl (by kernel_rfl) (by kernel_rfl) (by kernel_rfl) (fun _ _ _ h => h) (Or.inl ⟨by rfl, ?_⟩) (by assumption) ?_
    · intro w0 hSw; go_simp
    simp only [Act.put, List.setIfInBounds_toArray, List.set_cons_zero, List.set_cons_succ]
    refine wpAnyH_ready (rs := [8, 19]) (by kernel_rfl) (by simp) ?_
    refine AllReadyH.cons (o := _) rfl (fun K hK => ?_) (AllReadyH.cons (o := _) rfl (fun K hK => ?_) AllReadyH.nil)
    rotate_left
    go_simp
    refine hK.out _ _ trivial (fun hHeld => ?_)
    clear hK K
    try simp only [Act.put, List.setIfInBounds_toArray, List.set_cons_zero, List.set_cons_succ]
    refine wpAnyH_ready (rs := [8]) (by kernel_rfl) (by simp) ?_
    refine AllReadyH.cons (o := _) rfl (fun K hK => ?_) AllReadyH.nil
    go_simp
    refine (l01Of _ (s[4]'(by omega)) (s[5]'(by omega)) (extract_two s 4 (by omega)) _).mono ?_
    rintro e w9 ⟨rfl, rfl⟩
    rw [unhide N4]
    dsimp only
    refine hK.out _ _ trivial (fun hHeld => ?_)
    clear hK K
    try simp only [Act.put, List.setIfInBounds_toArray, List.set_cons_zero, List.set_cons_succ]
    refine wpAnyH_take (i := 18) (oi := _) (v := .agg #[.int .i64 (fld s.data.toList 0), .int .i64 (fld s.data.toList 3), .int .i64 (two s.data.toList 4), .int .i64 (fld s.data.toList 6), .int .i64 (fld s.data.toList 7), .string (bodyOf s.data.toList)]) rfl (by kernel_rfl) (by kernel_rfl) (by kernel_rfl) (fun _ _ _ h => h) (Or.inl ⟨by rfl, ?_⟩) (by assumption) ?_
    · intro w0 hSw; go_simp
    simp only [Act.put, List.setIfInBounds_toArray, List.set_cons_zero, List.set_cons_succ]
    refine wpAnyH_ready (rs := [20]) (by kernel_rfl) (by simp) ?_
    refine AllReadyH.cons (o := _) rfl (fun K hK => ?_) AllReadyH.nil
    go_simp
    refine hK.out _ _ trivial (fun hHeld => ?_)
    clear hK K
    try simp only [Act.put, List.setIfInBounds_toArray, List.set_cons_zero, List.set_cons_succ]
    refine wpAnyH_done (by kernel_rfl) ?_ _
    rotate_left
    go_simp
    refine (l01Of _ (s[4]'(by omega)) (s[5]'(by omega)) (extract_two s 4 (by omega)) _).mono ?_
    rintro e w9 ⟨rfl, rfl⟩
    rw [unhide N4]
    dsimp only
    refine hK.out _ _ trivial (fun hHeld => ?_)
    clear hK K
    try simp only [Act.put, List.setIfInBounds_toArray, List.set_cons_zero, List.set_cons_succ]
    refine wpAnyH_take (i := 18) (oi := _) (v := .agg #[.int .i64 (fld s.data.toList 0), .int .i64 (fld s.data.toList 3), .int .i64 (two s.data.toList 4), .int .i64 (fld s.data.toList 6), .int .i64 (fld s.data.toList 7), .string (bodyOf s.data.toList)]) rfl (by kernel_rfl) (by kernel_rfl) (by kernel_rfl) (fun _ _ _ h => h) (Or.inl ⟨by rfl, ?_⟩) (by assumption) ?_
    · intro w0 hSw; go_simp
    simp only [Act.put, List.setIfInBounds_toArray, List.set_cons_zero, List.set_cons_succ]
    refine wpAnyH_ready (rs := [19]) (by kernel_rfl) (by simp) ?_
    refine AllReadyH.cons (o := _) rfl (fun K hK => ?_) AllReadyH.nil
    go_simp
    refine hK.out _ _ trivial (fun hHeld => ?_)
    clear hK K
    try simp only [Act.put, List.setIfInBounds_toArray, List.set_cons_zero, List.set_cons_succ]
    refine wpAnyH_ready (rs := [20]) (by kernel_rfl) (by simp) ?_
    refine AllReadyH.cons (o := _) rfl (fun K hK => ?_) AllReadyH.nil
    go_simp
    refine hK.out _ _ trivial (fun hHeld => ?_)
    clear hK K
    try simp only [Act.put, List.setIfInBounds_toArray, List.set_cons_zero, List.set_cons_succ]
    refine wpAnyH_done (by kernel_rfl) ?_ _
    all_goals
      refine NoPanic.normal ?_
      go_wp2_with fail
      refine (specOK _ _ _ _ _ _ _).mono ?_
      rintro e w5 ⟨rfl, b5⟩
      have hz5 : w.heap.size + 2 ≤ w5.heap.size := by have := b5.size; simp at this; omega
      have hb5 : Below w.heap.size w w5 := ((((Below.refl _ _).alloc (Nat.le_refl _) _).alloc (by simp) _).drew).trans (b5.mono (by simp; omega))
      have HB5 := hide hb5
      obtain ⟨c5, f5⟩ := bcell b5
      have d0 : w5.cell? ⟨w.heap.size, 0, none⟩ = some (.int .i64 0) := by rw [c5 _ _ (by simp; omega)]; simp
      have d1 : w5.cell? ⟨w.heap.size, 1, none⟩ = some (.int .i64 0) := by rw [c5 _ _ (by simp; omega)]; simp
      have d2 : w5.cell? ⟨w.heap.size, 2, none⟩ = some (.int .i64 0) := by rw [c5 _ _ (by simp; omega)]; simp
      have d3 : w5.cell? ⟨w.heap.size, 3, none⟩ = some (.int .i64 0) := by rw [c5 _ _ (by simp; omega)]; simp
      have d4 : w5.cell? ⟨w.heap.size, 4, none⟩ = some (.int .i64 0) := by rw [c5 _ _ (by simp; omega)]; simp
      have d5 : w5.cell? ⟨w.heap.size, 5, none⟩ = some (.string ⟨#[]⟩) := by rw [c5 _ _ (by simp; omega)]; simp
      clear hb5 b5
      cases hk : okB (fld s.data.toList 0) (fld s.data.toList 3) (two s.data.toList 4) (fld s.data.toList 6) (fld s.data.toList 7) (bodyOf s.data.toList)
      · have hf := hide (nextV_no (bs := s.data.toList) (by unfold decB; rw [hk]; simp))
        clear hk
        go_wp2_with fail
        refine bodyPost_ret (v := .tuple #[.agg #[.int .i64 0, .int .i64 0, .int .i64 0, .int .i64 0, .int .i64 0, .string ⟨#[]⟩], .int .i64 0, .bool false]) (by simp [results, Try.results72, go_sem, d0, d1, d2, d3, d4, d5]) rfl ⟨by rw [unhide hf], ?_⟩
        exact (((((((unhide HB5).setCell (p := ⟨w.heap.size, 0, none⟩) (Nat.le_refl _) _).setCell (p := ⟨w.heap.size, 1, none⟩) (Nat.le_refl _) _).setCell (p := ⟨w.heap.size, 2, none⟩) (Nat.le_refl _) _).setCell (p := ⟨w.heap.size, 3, none⟩) (Nat.le_refl _) _).setCell (p := ⟨w.heap.size, 4, none⟩) (Nat.le_refl _) _).setCell (p := ⟨w.heap.size, 5, none⟩) (Nat.le_refl _) _)
      · have hf : Hid (nextV s.data.toList = .tuple #[.agg #[.int .i64 (fld s.data.toList 0), .int .i64 (fld s.data.toList 3), .int .i64 (two s.data.toList 4), .int .i64 (fld s.data.toList 6), .int .i64 (fld s.data.toList 7), .string (bodyOf s.data.toList)], .int .i64 (two s.data.toList 1), .bool true]) := by
          unfold nextV
          rw [if_pos (by unfold decB; rw [hk, unhide HD]; simp; omega)]
          exact hide rfl
        clear hk
        go_wp2_with fail
        refine bodyPost_ret (v := .tuple #[.agg #[.int .i64 (fld s.data.toList 0), .int .i64 (fld s.data.toList 3), .int .i64 (two s.data.toList 4), .int .i64 (fld s.data.toList 6), .int .i64 (fld s.data.toList 7), .string (bodyOf s.data.toList)], .int .i64 (two s.data.toList 1), .bool true]) (by simp [results, Try.results72, go_sem, d0, d1, d2, d3, d4, d5]) rfl ⟨by rw [unhide hf], ?_⟩
        exact (((((((unhide HB5).setCell (p := ⟨w.heap.size, 0, none⟩) (Nat.le_refl _) _).setCell (p := ⟨w.heap.size, 1, none⟩) (Nat.le_refl _) _).setCell (p := ⟨w.heap.size, 2, none⟩) (Nat.le_refl _) _).setCell (p := ⟨w.heap.size, 3, none⟩) (Nat.le_refl _) _).setCell (p := ⟨w.heap.size, 4, none⟩) (Nat.le_refl _) _).setCell (p := ⟨w.heap.size, 5, none⟩) (Nat.le_refl _) _)
end De
end Go.Proofs.Ytpknahhdapmcoaa
