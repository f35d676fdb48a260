/-
  Contracts over lists of messages: their size, their copy, whether a packet is right (the program's and the model's), whether two lists are alike.
-/
import Derived.Test.YtpknahhdapmcoaaWire1
import Derived.Deep.RegionHeld3
import Derived.Deep.DrawnRows
namespace Go.Proofs.Ytpknahhdapmcoaa
open Go.ChangeShapes Go.WideShapes Go.ChangeAt Go.RowKit
set_option linter.unusedVariables false
set_option linter.unusedSimpArgs false
attribute [local go_sem ↓] Go.wp_at_zero Go.wp_at_succ
namespace Ml
open W1
/-- A message. -/
structure M where
  ty : Int
  og : Int
  sq : Int
  hl : Int
  hp : Int
  body : ByteArray
def M.zero : M := ⟨0, 0, 0, 0, 0, ⟨#[]⟩⟩
/-- The cells of a message that lies at an address. -/
def At (w : World) (g o : Nat) (m : M) : Prop :=
  w.cell? ⟨g, o, none⟩ = some (.int .i64 m.ty) ∧ w.cell? ⟨g, o + 1, none⟩ = some (.int .i64 m.og) ∧ w.cell? ⟨g, o + 2, none⟩ = some (.int .i64 m.sq) ∧
  w.cell? ⟨g, o + 3, none⟩ = some (.int .i64 m.hl) ∧ w.cell? ⟨g, o + 4, none⟩ = some (.int .i64 m.hp) ∧ w.cell? ⟨g, o + 5, none⟩ = some (.string m.body)
/-- The slice at a reads as these messages. -/
def RM (w : World) (a : Option Addr) (ms : List M) : Prop :=
  ms = [] ∨ ∃ g off, a = some ⟨g, off, none⟩ ∧ ∀ i, i < ms.length → At w g (off + i * 6) (ms.getD i M.zero)
def M.ok (m : M) : Bool := okB m.ty m.og m.sq m.hl m.hp m.body
theorem At.below {w w' : World} {g o : Nat} {m : M} (h : At w g o m) (hb : Below w.heap.size w w') : At w' g o m := by
  have hg : g < w.heap.size := World.block_lt_of_cell? _ _ h.1
  obtain ⟨h0, h1, h2, h3, h4, h5⟩ := h
  refine ⟨?_, ?_, ?_, ?_, ?_, ?_⟩ <;> (rw [hb.cell hg]; assumption)
theorem RM.below {w w' : World} {a : Option Addr} {ms : List M} (h : RM w a ms) (hb : Below w.heap.size w w') : RM w' a ms := by
  rcases h with h | ⟨g, off, rfl, hc⟩
  · exact .inl h
  · exact .inr ⟨g, off, rfl, fun i hi => (hc i hi).below hb⟩


theorem infoM : ∃ i, Try.prog.info? 58 = some i ∧ i.zero = some (.agg #[.int .i64 0, .int .i64 0, .int .i64 0, .int .i64 0, .int .i64 0, .string ⟨#[]⟩]) ∧ i.size = 6 ∧ i.bytes = 56 := by
  have h : (Try.prog.info? 58).map (fun i => (i.zero, i.size, i.bytes)) = some (some (.agg #[.int .i64 0, .int .i64 0, .int .i64 0, .int .i64 0, .int .i64 0, .string ⟨#[]⟩]), 6, 56) := by kernel_rfl
  obtain ⟨i, hi, he⟩ := Option.map_eq_some_iff.1 h
  simp only [Prod.mk.injEq] at he
  exact ⟨i, hi, he.1, he.2.1, he.2.2⟩
/-- Six stores in a row: a message laid at an address. -/
def put (w : World) (g o : Nat) (m : M) : World :=
  (((((w.setCell ⟨g, o, none⟩ (.int .i64 m.ty)).setCell ⟨g, o + 1, none⟩ (.int .i64 m.og)).setCell ⟨g, o + 2, none⟩ (.int .i64 m.sq)).setCell ⟨g, o + 3, none⟩ (.int .i64 m.hl)).setCell ⟨g, o + 4, none⟩ (.int .i64 m.hp)).setCell ⟨g, o + 5, none⟩ (.string m.body)
theorem put_below {B : Nat} {w0 w : World} {g o : Nat} {m : M} (h : Below B w0 w) (hg : B ≤ g) : Below B w0 (put w g o m) :=
  (((((h.setCell (p := ⟨g, o, none⟩) hg _).setCell (p := ⟨g, o + 1, none⟩) hg _).setCell (p := ⟨g, o + 2, none⟩) hg _).setCell (p := ⟨g, o + 3, none⟩) hg _).setCell (p := ⟨g, o + 4, none⟩) hg _).setCell (p := ⟨g, o + 5, none⟩) hg _
theorem put_size (w : World) (g o : Nat) (m : M) : (put w g o m).heap.size = w.heap.size := by simp [put, World.setCell]
theorem put_frozen (w : World) (g o : Nat) (m : M) (a : Addr) : (put w g o m).frozen? a = w.frozen? a := by
  unfold put; rw [World.frozen?_setCell, World.frozen?_setCell, World.frozen?_setCell, World.frozen?_setCell, World.frozen?_setCell, World.frozen?_setCell]
theorem put_far (w : World) (g o : Nat) (m : M) {b q : Nat} (h : b ≠ g ∨ q < o ∨ o + 6 ≤ q) : (put w g o m).cell? ⟨b, q, none⟩ = w.cell? ⟨b, q, none⟩ := by
  unfold put
  rw [World.cell?_setCell_other _ _ _ _ (by intro e; cases e <;> omega), World.cell?_setCell_other _ _ _ _ (by intro e; cases e <;> omega), World.cell?_setCell_other _ _ _ _ (by intro e; cases e <;> omega), World.cell?_setCell_other _ _ _ _ (by intro e; cases e <;> omega), World.cell?_setCell_other _ _ _ _ (by intro e; cases e <;> omega), World.cell?_setCell_other _ _ _ _ (by intro e; cases e <;> omega)]
theorem put_at (w : World) (g o : Nat) (m : M) (h : ∀ k, k < 6 → (w.cell? ⟨g, o + k, none⟩).isSome = true) : At (put w g o m) g o m := by
  obtain ⟨v0, h0⟩ := Option.isSome_iff_exists.1 (h 0 (by omega))
  obtain ⟨v1, h1⟩ := Option.isSome_iff_exists.1 (h 1 (by omega))
  obtain ⟨v2, h2⟩ := Option.isSome_iff_exists.1 (h 2 (by omega))
  obtain ⟨v3, h3⟩ := Option.isSome_iff_exists.1 (h 3 (by omega))
  obtain ⟨v4, h4⟩ := Option.isSome_iff_exists.1 (h 4 (by omega))
  obtain ⟨v5, h5⟩ := Option.isSome_iff_exists.1 (h 5 (by omega))
  rw [Nat.add_zero] at h0
  have n : ∀ {w : World} {v : Value} {a b : Nat}, a ≠ b → (w.setCell ⟨g, a, none⟩ v).cell? ⟨g, b, none⟩ = w.cell? ⟨g, b, none⟩ := fun {w v a b} e => World.cell?_setCell_other _ _ _ _ (by intro h; cases h; exact e rfl)
  unfold put
  refine ⟨?_, ?_, ?_, ?_, ?_, ?_⟩
  · rw [n (by omega), n (by omega), n (by omega), n (by omega), n (by omega), World.cell?_setCell_same _ _ _ h0]
  · rw [n (by omega), n (by omega), n (by omega), n (by omega), World.cell?_setCell_same _ _ _ ((n (by omega)).trans h1)]
  · rw [n (by omega), n (by omega), n (by omega), World.cell?_setCell_same _ _ _ ((n (by omega)).trans ((n (by omega)).trans h2))]
  · rw [n (by omega), n (by omega), World.cell?_setCell_same _ _ _ ((n (by omega)).trans ((n (by omega)).trans ((n (by omega)).trans h3)))]
  · rw [n (by omega), World.cell?_setCell_same _ _ _ ((n (by omega)).trans ((n (by omega)).trans ((n (by omega)).trans ((n (by omega)).trans h4))))]
  · rw [World.cell?_setCell_same _ _ _ ((n (by omega)).trans ((n (by omega)).trans ((n (by omega)).trans ((n (by omega)).trans ((n (by omega)).trans h5)))))]
theorem put_some (w : World) (g o : Nat) (m : M) (b q : Nat) (h : (w.cell? ⟨b, q, none⟩).isSome = true) : ((put w g o m).cell? ⟨b, q, none⟩).isSome = true := by
  obtain ⟨v, hv⟩ := Option.isSome_iff_exists.1 h
  unfold put
  obtain ⟨v1, h1⟩ := cell?_setCell_some (p := ⟨g, o, none⟩) (x := .int .i64 m.ty) hv
  obtain ⟨v2, h2⟩ := cell?_setCell_some (p := ⟨g, o + 1, none⟩) (x := .int .i64 m.og) h1
  obtain ⟨v3, h3⟩ := cell?_setCell_some (p := ⟨g, o + 2, none⟩) (x := .int .i64 m.sq) h2
  obtain ⟨v4, h4⟩ := cell?_setCell_some (p := ⟨g, o + 3, none⟩) (x := .int .i64 m.hl) h3
  obtain ⟨v5, h5⟩ := cell?_setCell_some (p := ⟨g, o + 4, none⟩) (x := .int .i64 m.hp) h4
  obtain ⟨v6, h6⟩ := cell?_setCell_some (p := ⟨g, o + 5, none⟩) (x := .string m.body) h5
  rw [h6]; rfl
/-- The first j messages stand at the head of block g, whose n times six cells may be written. -/
def Upto (w : World) (g n j : Nat) (ms : List M) : Prop :=
  (∀ i, i < j → At w g (i * 6) (ms.getD i M.zero)) ∧ ∀ i, i < n * 6 → (w.cell? ⟨g, i, none⟩).isSome = true ∧ w.frozen? ⟨g, i, none⟩ = false
theorem Upto.step {w : World} {g n j : Nat} {ms : List M} (h : Upto w g n j ms) (hj : j < n) : Upto (put w g (j * 6) (ms.getD j M.zero)) g n (j + 1) ms := by
  refine ⟨fun i hi => ?_, fun i hi => ⟨put_some _ _ _ _ _ _ (h.2 i hi).1, by rw [put_frozen]; exact (h.2 i hi).2⟩⟩
  by_cases e : i = j
  · subst e
    exact put_at _ _ _ _ (fun k hk => (h.2 _ (by omega)).1)
  · obtain ⟨h0, h1, h2, h3, h4, h5⟩ := h.1 i (by omega)
    exact ⟨(put_far _ _ _ _ (by omega)).trans h0, (put_far _ _ _ _ (by omega)).trans h1, (put_far _ _ _ _ (by omega)).trans h2, (put_far _ _ _ _ (by omega)).trans h3, (put_far _ _ _ _ (by omega)).trans h4, (put_far _ _ _ _ (by omega)).trans h5⟩
theorem Upto.below {w w' : World} {g n j : Nat} {ms : List M} (h : Upto w g n j ms) (hb : Below w.heap.size w w') (hg : g < w.heap.size) : Upto w' g n j ms :=
  ⟨fun i hi => (h.1 i hi).below hb, fun i hi => ⟨by rw [hb.cell (p := ⟨g, i, none⟩) hg]; exact (h.2 i hi).1, by rw [hb.frozen (p := ⟨g, i, none⟩) hg]; exact (h.2 i hi).2⟩⟩


/-- Whether a packet is right. -/
def pktB (ms : List M) : Bool := inB ms.length 1 6 && ms.all M.ok
theorem all_snoc (ms : List M) (j : Nat) (h : j < ms.length) : (ms.drop j).all M.ok = ((ms.getD j M.zero).ok && (ms.drop (j + 1)).all M.ok) := by
  rw [List.drop_eq_getElem_cons h, List.all_cons, List.getD_eq_getElem?_getD, List.getElem?_eq_getElem h]; rfl
theorem rm_of {w : World} {g n : Nat} {ms : List M} (h : Upto w g n ms.length ms) : RM w (some ⟨g, 0, none⟩) ms := .inr ⟨g, 0, rfl, fun i hi => by rw [Nat.zero_add]; exact h.1 i hi⟩

set_option maxHeartbeats 2000000 in
theorem specPkt (a : Option Addr) (ms : List M) (cap : Nat) (w : World) (hm : ms.length ≤ 1048576) (hr : RM w a ms) :
    Calls Try.prog 34 #[.slice a ms.length cap] w fun e w' => e = .returned (.bool (pktB ms)) ∧ Below w.heap.size w w' := by
  by_cases hbig : (4096 : Int) < ms.length
  · have hf : Hid (pktB ms = false) := hide (by unfold pktB inB; rw [decide_eq_false (by omega : ¬ ((ms.length : Int) ≤ 6))]; simp)
    go_enter Try.func34, Try.ntmps34
    go_wp2
    go_ret
    exact ⟨ret_bool (unhide hf).symm, Below.refl _ _⟩
  cases hin : inB ms.length 1 6
  · have hf : Hid (pktB ms = false) := hide (by unfold pktB; rw [hin]; rfl)
    go_enter Try.func34, Try.ntmps34
    go_wp2_with (go_at_call 44; refine (l01In _ _ _ _).mono ?_; rintro e w' ⟨rfl, rfl⟩)
    go_ret
    exact ⟨ret_bool (unhide hf).symm, Below.refl _ _⟩
  have hf : Hid (pktB ms = (ms.drop 0).all M.ok) := hide (by unfold pktB; rw [hin]; rfl)
  have HR := hide hr
  clear hr
  have HIN := hide hin
  generalize hN : ms.length = n at *
  have HN := hide hN
  clear hN
  go_enter Try.func34, Try.ntmps34
  go_wp2_with (go_at_call 44; refine (l01In _ _ _ _).mono ?_; rintro e w ⟨rfl, rfl⟩)
  go_loopw [3] (fun i wr => ∃ j : Nat, j ≤ n ∧ i = .int .i64 j ∧ Hid (pktB ms = (ms.drop j).all M.ok) ∧ Hid (Below w.heap.size w wr)) (fun i _ => n - (intOf i).toNat)
  case atStart => exact ⟨0, by omega, rfl, hf, hide (Below.refl _ _)⟩
  case round =>
    obtain ⟨j, hj, rfl, hrl, hbl⟩ := hrel
    clear hin
    by_cases hlt : (j : Int) < (n : Int)
    · have k0 : (0 : Int) ≤ (j : Int) := by omega
      rcases (unhide HR).below (by exact (unhide hbl)) with e0 | ⟨g, off, rfl, hc⟩
      · exfalso
        have := unhide HN
        rw [e0] at this
        simp at this
        omega
      have hlen : j < ms.length := by rw [unhide HN]; omega
      obtain ⟨c0, c1, c2, c3, c4, c5⟩ := hc j hlen
      have hsn := hide ((unhide hrl).trans (all_snoc ms j hlen))
      generalize ms.getD j M.zero = m at *
      obtain ⟨ty, og, sq, hl, hp, body⟩ := m
      dsimp only at c0 c1 c2 c3 c4 c5
      clear hc
      go_wp2_with fail
      refine (specOK ty og sq hl hp body _).mono ?_
      rintro e w1 ⟨rfl, b1⟩
      have hb1 := hide ((unhide hbl).trans (b1.mono (unhide hbl).size))
      clear c0 c1 c2 c3 c4 c5 b1
      cases hk : okB ty og sq hl hp body
      · go_wp2_with fail
        go_ret
        exact ⟨ret_bool (by rw [unhide hsn]; unfold M.ok; dsimp only; rw [hk]; rfl), unhide hb1⟩
      · go_wp2_with fail
        go_roundw
        case rel => exact ⟨j + 1, by omega, by go_num, hide (by rw [unhide hsn]; unfold M.ok; dsimp only; rw [hk]; rfl), hb1⟩
        case measure => simp [intOf]; omega
    · go_wp2
      go_ret
      exact ⟨ret_bool (by rw [unhide hrl, List.drop_eq_nil_of_le (by rw [unhide HN]; omega)]; rfl), unhide hbl⟩

set_option maxHeartbeats 2000000 in
theorem implPkt (a : Option Addr) (ms : List M) (cap : Nat) (w : World) (hm : ms.length ≤ 1048576) (hr : RM w a ms) :
    Calls Try.prog 13 #[.slice a ms.length cap] w fun e w' => e = .returned (.bool (pktB ms)) ∧ Below w.heap.size w w' := by
  cases hin : inB ms.length 1 6
  · have hf : Hid (pktB ms = false) := hide (by unfold pktB; rw [hin]; rfl)
    go_enter Try.func13, Try.ntmps13
    go_wp2_with (go_at_call 37; refine (within _ _ _ _).mono ?_; rintro e w' ⟨rfl, rfl⟩)
    go_ret
    exact ⟨ret_bool (unhide hf).symm, Below.refl _ _⟩
  have hf : Hid (pktB ms = (ms.drop 0).all M.ok) := hide (by unfold pktB; rw [hin]; rfl)
  have HR := hide hr
  clear hr
  generalize hN : ms.length = n at *
  have HN := hide hN
  clear hN
  go_enter Try.func13, Try.ntmps13
  go_wp2_with (go_at_call 37; refine (within _ _ _ _).mono ?_; rintro e w ⟨rfl, rfl⟩)
  go_loopw [11] (fun i wr => ∃ j : Nat, j ≤ n ∧ i = .int .i64 j ∧ Hid (pktB ms = (ms.drop j).all M.ok) ∧ Hid (Below w.heap.size w wr)) (fun i _ => n - (intOf i).toNat)
  case atStart => exact ⟨0, by omega, rfl, hf, hide (Below.refl _ _)⟩
  case round =>
    obtain ⟨j, hj, rfl, hrl, hbl⟩ := hrel
    clear hin
    by_cases hlt : (j : Int) < (n : Int)
    · have k0 : (0 : Int) ≤ (j : Int) := by omega
      rcases (unhide HR).below (by exact (unhide hbl)) with e0 | ⟨g, off, rfl, hc⟩
      · exfalso
        have := unhide HN
        rw [e0] at this
        simp at this
        omega
      have hlen : j < ms.length := by rw [unhide HN]; omega
      obtain ⟨c0, c1, c2, c3, c4, c5⟩ := hc j hlen
      have hsn := hide ((unhide hrl).trans (all_snoc ms j hlen))
      generalize ms.getD j M.zero = m at *
      obtain ⟨ty, og, sq, hl, hp, body⟩ := m
      dsimp only at c0 c1 c2 c3 c4 c5
      clear hc
      go_wp2_with fail
      refine (implOK ty og sq hl hp body _).mono ?_
      rintro e w1 ⟨rfl, b1⟩
      have hb1 := hide (((unhide hbl).alloc (unhide hbl).size _).trans (b1.mono (by have := (unhide hbl).size; simp; omega)))
      clear c0 c1 c2 c3 c4 c5 b1
      cases hk : okB ty og sq hl hp body
      · go_wp2_with fail
        go_ret
        exact ⟨ret_bool (by rw [unhide hsn]; unfold M.ok; dsimp only; rw [hk]; rfl), unhide hb1⟩
      · go_wp2_with fail
        go_roundw
        case rel => exact ⟨j + 1, by omega, by go_num, hide (by rw [unhide hsn]; unfold M.ok; dsimp only; rw [hk]; rfl), hb1⟩
        case measure => simp [intOf]; omega
    · go_wp2
      go_ret
      exact ⟨ret_bool (by rw [unhide hrl, List.drop_eq_nil_of_le (by rw [unhide HN]; omega)]; rfl), unhide hbl⟩

theorem At.drew {w : World} {g o : Nat} {m : M} (h : At w g o m) : At w.drew g o m := h
theorem sAt {w : World} {g g' o o' : Nat} {ty og sq hl hp : Int} {body : ByteArray} (h : At w g o ⟨ty, og, sq, hl, hp, body⟩) (h' : At w g' o' ⟨ty, og, sq, hl, hp, body⟩) :
    (At w g o ⟨ty, og, sq, hl, hp, body⟩ ∧ At w g' o' ⟨ty, og, sq, hl, hp, body⟩) ∧ w.cell? ⟨g, o, none⟩ = some (.int .i64 ty) ∧ w.cell? ⟨g, o + 1, none⟩ = some (.int .i64 og) ∧ w.cell? ⟨g, o + 2, none⟩ = some (.int .i64 sq) ∧ w.cell? ⟨g, o + 3, none⟩ = some (.int .i64 hl) ∧ w.cell? ⟨g, o + 4, none⟩ = some (.int .i64 hp) ∧ w.cell? ⟨g, o + 5, none⟩ = some (.string body) ∧ w.cell? ⟨g', o', none⟩ = some (.int .i64 ty) ∧ w.cell? ⟨g', o' + 1, none⟩ = some (.int .i64 og) ∧ w.cell? ⟨g', o' + 2, none⟩ = some (.int .i64 sq) ∧ w.cell? ⟨g', o' + 3, none⟩ = some (.int .i64 hl) ∧ w.cell? ⟨g', o' + 4, none⟩ = some (.int .i64 hp) ∧ w.cell? ⟨g', o' + 5, none⟩ = some (.string body) := ⟨⟨h, h'⟩, h.1, h.2.1, h.2.2.1, h.2.2.2.1, h.2.2.2.2.1, h.2.2.2.2.2, h'⟩

end Ml
end Go.Proofs.Ytpknahhdapmcoaa
