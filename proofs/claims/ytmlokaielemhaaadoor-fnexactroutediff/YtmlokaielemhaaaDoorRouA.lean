/-
  The program's contracts over routes: whether one, whether a list is right; where an address stands; RouteTo. (written by mkroua.py)
-/
import Derived.Test.YtmlokaielemhaaaDoorRouM
import Derived.Test.YtmlokaielemhaaaDoorRg
import Derived.Laws.NewBlocks
namespace Go.Proofs.YtmlokaielemhaaaDoor
open Go.ChangeShapes Go.WideShapes Go.ChangeAt Go.RowKit
set_option linter.unusedVariables false
set_option linter.unusedSimpArgs false
set_option maxRecDepth 100000
attribute [local go_sem ↓] Go.wp_at_zero Go.wp_at_succ
namespace Rw
open W1 Ro
set_option maxHeartbeats 1000000 in
theorem isRoute (ds nx co hp : Int) (w : World) :
    Calls Tryd.prog 33 #[.agg #[.int .i64 ds, .int .i64 nx, .int .i64 co, .int .i64 hp]] w fun e w' => e = .returned (.bool (okT ⟨ds, nx, co, hp⟩)) ∧ Below w.heap.size w w' := by
  have E : Hid (okT ⟨ds, nx, co, hp⟩ = (inB ds 1 8 && (inB nx 1 8 && (inB co 1 1099511627776 && inB hp 1 8)))) := hide rfl
  cases h1 : inB ds 1 8
  rotate_left
  cases h2 : inB nx 1 8
  rotate_left
  cases h3 : inB co 1 1099511627776
  rotate_left
  cases h4 : inB hp 1 8
  all_goals
    go_enter Tryd.func33, Tryd.ntmps33
    go_wp2_with (first | (go_at_call 36; refine (within _ _ _ _).mono ?_; rintro e w' ⟨rfl, rfl⟩) | (go_at_call 35; refine (isAddress _ _).mono ?_; rintro e w' ⟨rfl, rfl⟩))
    go_ret
    exact ⟨ret_bool (by rw [unhide E]; simp [*]), (Below.refl _ _).alloc (Nat.le_refl _) _⟩
/-- A route in a variable's block. -/
def Bx (w : World) (b : Nat) (m : R) : Prop := w.cell? ⟨b, 0, none⟩ = some (.int .i64 m.ds) ∧ w.cell? ⟨b, 1, none⟩ = some (.int .i64 m.nx) ∧ w.cell? ⟨b, 2, none⟩ = some (.int .i64 m.co) ∧ w.cell? ⟨b, 3, none⟩ = some (.int .i64 m.hp)
theorem Bx.below {w w' : World} {b : Nat} {m : R} (h : Bx w b m) (hb : Below w.heap.size w w') : Bx w' b m := by
  have hg : b < w.heap.size := World.block_lt_of_cell? _ _ h.1
  obtain ⟨h0, h1, h2, h3⟩ := h
  refine ⟨?_, ?_, ?_, ?_⟩ <;> (rw [hb.cell hg]; assumption)
theorem Bx.lt {w : World} {b : Nat} {m : R} (h : Bx w b m) : b < w.heap.size := World.block_lt_of_cell? _ _ h.1
theorem Bx.drew {w : World} {b : Nat} {m : R} (h : Bx w b m) : Bx w.drew b m := h
theorem bx_new (w : World) (m : R) (t : Nat) : Bx (w.alloc (.cells #[.int .i64 m.ds, .int .i64 m.nx, .int .i64 m.co, .int .i64 m.hp] t)) w.heap.size m := by
  refine ⟨?_, ?_, ?_, ?_⟩ <;> simp [World.cell?_alloc_new]
theorem sBox {w : World} {b : Nat} {ds nx co hp : Int} (h : Bx w b ⟨ds, nx, co, hp⟩) : Bx w b ⟨ds, nx, co, hp⟩ ∧ w.cell? ⟨b, 0, none⟩ = some (.int .i64 ds) ∧ w.cell? ⟨b, 1, none⟩ = some (.int .i64 nx) ∧ w.cell? ⟨b, 2, none⟩ = some (.int .i64 co) ∧ w.cell? ⟨b, 3, none⟩ = some (.int .i64 hp) := ⟨h, h⟩
theorem sBox2 {w : World} {b g p : Nat} {m : R} {ds nx co hp : Int} (h : Bx w b ⟨ds, nx, co, hp⟩) (h' : At w g p m) :
    (Bx w b ⟨ds, nx, co, hp⟩ ∧ At w g p m) ∧ w.cell? ⟨b, 0, none⟩ = some (.int .i64 ds) ∧ w.cell? ⟨b, 1, none⟩ = some (.int .i64 nx) ∧ w.cell? ⟨b, 2, none⟩ = some (.int .i64 co) ∧ w.cell? ⟨b, 3, none⟩ = some (.int .i64 hp) ∧ w.cell? ⟨g, p, none⟩ = some (.int .i64 m.ds) := ⟨⟨h, h'⟩, h.1, h.2.1, h.2.2.1, h.2.2.2, h'.1⟩
set_option maxRecDepth 100000 in
set_option maxHeartbeats 4000000 in
theorem areRoutes (a : Option Addr) (ms : List R) (cap : Nat) (w : World) (hm : ms.length ≤ 1048576) (hr : RM w a ms) :
    Calls Tryd.prog 28 #[.slice a ms.length cap] w fun e w' => e = .returned (.bool (rouB ms)) ∧ Below w.heap.size w w' := by
  have HR := hide hr
  clear hr
  generalize hN : ms.length = n at *
  have HN := hide hN
  clear hN
  go_enter Tryd.func28, Tryd.ntmps28
  go_wp2
  go_loopw [7] (fun i wr => ∃ j : Nat, j ≤ n ∧ i = .int .i64 j ∧ Hid (allT ms j = true) ∧ Hid (Below w.heap.size w wr)) (fun i _ => n - (intOf i).toNat)
  case atStart => exact ⟨0, by omega, rfl, hide Ri.all_zero, hide (Below.refl _ _)⟩
  case round =>
    obtain ⟨j, hj, rfl, hrl, hbl⟩ := hrel
    by_cases hlt : (j : Int) < (n : Int)
    · have k0 : (0 : Int) ≤ (j : Int) := by omega
      have hlen : j < ms.length := by rw [unhide HN]; omega
      rcases (unhide HR).below (by exact (unhide hbl)) with e0 | ⟨g, off, rfl, hc⟩
      · exfalso; rw [e0] at hlen; simp at hlen
      have HL := hide hlen
      have hA := hc j hlen
      have hsz := (unhide hbl).size
      have HBX := hide (bx_new wr (ms.getD j R.zero) 39)
      have HBL := hide ((unhide hbl).alloc hsz (.cells #[.int .i64 (ms.getD j R.zero).ds, .int .i64 (ms.getD j R.zero).nx, .int .i64 (ms.getD j R.zero).co, .int .i64 (ms.getD j R.zero).hp] 39))
      cases hk : okT (ms.getD j R.zero)
      · clear hc
        have HST := hide (Ri.all_no hlen (Ri.step_bad (key := R.ds) hk))
        have HK := hide hk
        clear hk
        generalize ms.getD j R.zero = m at *
        obtain ⟨ds, nx, co, hp⟩ := m
        obtain ⟨c0, c1, c2, c3⟩ := hA
        dsimp only at c0 c1 c2 c3
        go_wp2_with fail
        generalize hW : wr.alloc (.cells #[.int .i64 ds, .int .i64 nx, .int .i64 co, .int .i64 hp] 39) = W0 at *
        clear hW
        refine wp_region_noPanic ?_
        refine wp_region_held_drew (S := fun w' => Bx w' wr.heap.size ⟨ds, nx, co, hp⟩ ∧ w'.cell? ⟨wr.heap.size, 0, none⟩ = some (.int .i64 ds) ∧ w'.cell? ⟨wr.heap.size, 1, none⟩ = some (.int .i64 nx) ∧ w'.cell? ⟨wr.heap.size, 2, none⟩ = some (.int .i64 co) ∧ w'.cell? ⟨wr.heap.size, 3, none⟩ = some (.int .i64 hp)) (by kernel_rfl) (sBox (unhide HBX).drew) (fun hHeld => ?_)
        (refine Rg.tk (i := 0) (d := 12) (v := ?_) rfl rfl (by kernel_rfl) (by kernel_rfl) (by kernel_rfl) (fun _ _ _ h => h) (by rfl) ?_ (by assumption) ?_; rotate_left; (focus (intro w0 hSw; (try dsimp only at hSw); go_simp; (try with_reducible rfl))); (try simp only [Act.put, List.setIfInBounds_toArray, List.set_cons_zero, List.set_cons_succ]))
        (refine wpAnyH_ready (rs := [1]) (by kernel_rfl) (by simp) ?_; refine AllReadyH.cons (o := _) rfl (fun K hK => ?_) AllReadyH.nil; go_simp)
        refine (isRoute ds nx co hp _).mono ?_
        rintro e w2 ⟨rfl, b2⟩
        rw [unhide HK]
        refine hK.out _ _ (sBox ((unhide HBX).drew.below b2)) (fun hHeld => ?_)
        clear hK K
        (try simp only [Act.put, List.setIfInBounds_toArray, List.set_cons_zero, List.set_cons_succ])
        (refine Rg.tk (i := 2) (d := 14) (v := ?_) rfl rfl (by kernel_rfl) (by kernel_rfl) (by kernel_rfl) (fun _ _ _ h => h) (by rfl) ?_ (by assumption) ?_; rotate_left; (focus (intro w0 hSw; (try dsimp only at hSw); go_simp; (try with_reducible rfl))); (try simp only [Act.put, List.setIfInBounds_toArray, List.set_cons_zero, List.set_cons_succ]))
        (refine Rg.tk (i := 3) (d := 15) (v := ?_) rfl rfl (by kernel_rfl) (by kernel_rfl) (by kernel_rfl) (fun _ _ _ h => h) (by rfl) ?_ (by assumption) ?_; rotate_left; (focus (intro w0 hSw; (try dsimp only at hSw); go_simp; (try with_reducible rfl))); (try simp only [Act.put, List.setIfInBounds_toArray, List.set_cons_zero, List.set_cons_succ]))
        (refine Rg.sk (i := 4) (d := 16) rfl rfl (by kernel_rfl) (by kernel_rfl) (by kernel_rfl) (fun _ _ _ h => h) (by first | kernel_rfl | rfl) (by assumption) ?_; (try simp only [Act.put, List.setIfInBounds_toArray, List.set_cons_zero, List.set_cons_succ]))
        (refine Rg.sk (i := 5) (d := 17) rfl rfl (by kernel_rfl) (by kernel_rfl) (by kernel_rfl) (fun _ _ _ h => h) (by first | kernel_rfl | rfl) (by assumption) ?_; (try simp only [Act.put, List.setIfInBounds_toArray, List.set_cons_zero, List.set_cons_succ]))
        (refine Rg.sk (i := 6) (d := 18) rfl rfl (by kernel_rfl) (by kernel_rfl) (by kernel_rfl) (fun _ _ _ h => h) (by first | kernel_rfl | rfl) (by assumption) ?_; (try simp only [Act.put, List.setIfInBounds_toArray, List.set_cons_zero, List.set_cons_succ]))
        (refine Rg.sk (i := 7) (d := 19) rfl rfl (by kernel_rfl) (by kernel_rfl) (by kernel_rfl) (fun _ _ _ h => h) (by first | kernel_rfl | rfl) (by assumption) ?_; (try simp only [Act.put, List.setIfInBounds_toArray, List.set_cons_zero, List.set_cons_succ]))
        (refine Rg.sk (i := 8) (d := 20) rfl rfl (by kernel_rfl) (by kernel_rfl) (by kernel_rfl) (fun _ _ _ h => h) (by first | kernel_rfl | rfl) (by assumption) ?_; (try simp only [Act.put, List.setIfInBounds_toArray, List.set_cons_zero, List.set_cons_succ]))
        (refine Rg.sk (i := 9) (d := 21) rfl rfl (by kernel_rfl) (by kernel_rfl) (by kernel_rfl) (fun _ _ _ h => h) (by first | kernel_rfl | rfl) (by assumption) ?_; (try simp only [Act.put, List.setIfInBounds_toArray, List.set_cons_zero, List.set_cons_succ]))
        (refine Rg.sk (i := 10) (d := 22) rfl rfl (by kernel_rfl) (by kernel_rfl) (by kernel_rfl) (fun _ _ _ h => h) (by first | kernel_rfl | rfl) (by assumption) ?_; (try simp only [Act.put, List.setIfInBounds_toArray, List.set_cons_zero, List.set_cons_succ]))
        (refine Rg.sk (i := 11) (d := 23) rfl rfl (by kernel_rfl) (by kernel_rfl) (by kernel_rfl) (fun _ _ _ h => h) (by first | kernel_rfl | rfl) (by assumption) ?_; (try simp only [Act.put, List.setIfInBounds_toArray, List.set_cons_zero, List.set_cons_succ]))
        (refine Rg.sk (i := 12) (d := 24) rfl rfl (by kernel_rfl) (by kernel_rfl) (by kernel_rfl) (fun _ _ _ h => h) (by first | kernel_rfl | rfl) (by assumption) ?_; (try simp only [Act.put, List.setIfInBounds_toArray, List.set_cons_zero, List.set_cons_succ]))
        (refine Rg.sk (i := 13) (d := 25) rfl rfl (by kernel_rfl) (by kernel_rfl) (by kernel_rfl) (fun _ _ _ h => h) (by first | kernel_rfl | rfl) (by assumption) ?_; (try simp only [Act.put, List.setIfInBounds_toArray, List.set_cons_zero, List.set_cons_succ]))
        (refine Rg.sk (i := 14) (d := 26) rfl rfl (by kernel_rfl) (by kernel_rfl) (by kernel_rfl) (fun _ _ _ h => h) (by first | kernel_rfl | rfl) (by assumption) ?_; (try simp only [Act.put, List.setIfInBounds_toArray, List.set_cons_zero, List.set_cons_succ]))
        (refine Rg.sk (i := 15) (d := 27) rfl rfl (by kernel_rfl) (by kernel_rfl) (by kernel_rfl) (fun _ _ _ h => h) (by first | kernel_rfl | rfl) (by assumption) ?_; (try simp only [Act.put, List.setIfInBounds_toArray, List.set_cons_zero, List.set_cons_succ]))
        (refine Rg.sk (i := 16) (d := 28) rfl rfl (by kernel_rfl) (by kernel_rfl) (by kernel_rfl) (fun _ _ _ h => h) (by first | kernel_rfl | rfl) (by assumption) ?_; (try simp only [Act.put, List.setIfInBounds_toArray, List.set_cons_zero, List.set_cons_succ]))
        (refine Rg.tk (i := 17) (d := 29) (v := ?_) rfl rfl (by kernel_rfl) (by kernel_rfl) (by kernel_rfl) (fun _ _ _ h => h) (by rfl) ?_ (by assumption) ?_; rotate_left; (focus (intro w0 hSw; (try dsimp only at hSw); go_simp; (try with_reducible rfl))); (try simp only [Act.put, List.setIfInBounds_toArray, List.set_cons_zero, List.set_cons_succ]))
        refine wpAnyH_done (by kernel_rfl) (NoPanic.normal ?_) _
        have hb1 := hide ((unhide HBL).drew.trans (b2.mono (by show w.heap.size ≤ W0.heap.size; exact (unhide HBL).size)))
        go_wp2_with fail
        go_ret
        exact ⟨ret_bool (unhide HST).symm, unhide hb1⟩
      have HK := hide hk
      clear hk
      by_cases hj0 : j = 0
      · subst hj0
        clear hc
        rw [Nat.zero_mul, Nat.add_zero] at hA
        have HST := hide (Ri.all_succ (unhide hrl) (Ri.step_zero (key := R.ds) (unhide HK)))
        generalize ms.getD 0 R.zero = m at *
        obtain ⟨ds, nx, co, hp⟩ := m
        obtain ⟨c0, c1, c2, c3⟩ := hA
        dsimp only at c0 c1 c2 c3
        go_wp2_with fail
        generalize hW : wr.alloc (.cells #[.int .i64 ds, .int .i64 nx, .int .i64 co, .int .i64 hp] 39) = W0 at *
        clear hW
        refine wp_region_noPanic ?_
        refine wp_region_held_drew (S := fun w' => Bx w' wr.heap.size ⟨ds, nx, co, hp⟩ ∧ w'.cell? ⟨wr.heap.size, 0, none⟩ = some (.int .i64 ds) ∧ w'.cell? ⟨wr.heap.size, 1, none⟩ = some (.int .i64 nx) ∧ w'.cell? ⟨wr.heap.size, 2, none⟩ = some (.int .i64 co) ∧ w'.cell? ⟨wr.heap.size, 3, none⟩ = some (.int .i64 hp)) (by kernel_rfl) (sBox (unhide HBX).drew) (fun hHeld => ?_)
        (refine Rg.tk (i := 0) (d := 12) (v := ?_) rfl rfl (by kernel_rfl) (by kernel_rfl) (by kernel_rfl) (fun _ _ _ h => h) (by rfl) ?_ (by assumption) ?_; rotate_left; (focus (intro w0 hSw; (try dsimp only at hSw); go_simp; (try with_reducible rfl))); (try simp only [Act.put, List.setIfInBounds_toArray, List.set_cons_zero, List.set_cons_succ]))
        (refine wpAnyH_ready (rs := [1]) (by kernel_rfl) (by simp) ?_; refine AllReadyH.cons (o := _) rfl (fun K hK => ?_) AllReadyH.nil; go_simp)
        refine (isRoute ds nx co hp _).mono ?_
        rintro e w2 ⟨rfl, b2⟩
        rw [unhide HK]
        refine hK.out _ _ (sBox ((unhide HBX).drew.below b2)) (fun hHeld => ?_)
        clear hK K
        (try simp only [Act.put, List.setIfInBounds_toArray, List.set_cons_zero, List.set_cons_succ])
        (refine Rg.tk (i := 2) (d := 14) (v := ?_) rfl rfl (by kernel_rfl) (by kernel_rfl) (by kernel_rfl) (fun _ _ _ h => h) (by rfl) ?_ (by assumption) ?_; rotate_left; (focus (intro w0 hSw; (try dsimp only at hSw); go_simp; (try with_reducible rfl))); (try simp only [Act.put, List.setIfInBounds_toArray, List.set_cons_zero, List.set_cons_succ]))
        (refine Rg.tk (i := 3) (d := 15) (v := ?_) rfl rfl (by kernel_rfl) (by kernel_rfl) (by kernel_rfl) (fun _ _ _ h => h) (by rfl) ?_ (by assumption) ?_; rotate_left; (focus (intro w0 hSw; (try dsimp only at hSw); go_simp; (try with_reducible rfl))); (try simp only [Act.put, List.setIfInBounds_toArray, List.set_cons_zero, List.set_cons_succ]))
        (refine Rg.tk (i := 4) (d := 16) (v := ?_) rfl rfl (by kernel_rfl) (by kernel_rfl) (by kernel_rfl) (fun _ _ _ h => h) (by rfl) ?_ (by assumption) ?_; rotate_left; (focus (intro w0 hSw; (try dsimp only at hSw); go_simp; (try with_reducible rfl))); (try simp only [Act.put, List.setIfInBounds_toArray, List.set_cons_zero, List.set_cons_succ]))
        (refine Rg.tk (i := 5) (d := 17) (v := ?_) rfl rfl (by kernel_rfl) (by kernel_rfl) (by kernel_rfl) (fun _ _ _ h => h) (by rfl) ?_ (by assumption) ?_; rotate_left; (focus (intro w0 hSw; (try dsimp only at hSw); go_simp; (try with_reducible rfl))); (try simp only [Act.put, List.setIfInBounds_toArray, List.set_cons_zero, List.set_cons_succ]))
        (refine Rg.tk (i := 6) (d := 18) (v := ?_) rfl rfl (by kernel_rfl) (by kernel_rfl) (by kernel_rfl) (fun _ _ _ h => h) (by rfl) ?_ (by assumption) ?_; rotate_left; (focus (intro w0 hSw; (try dsimp only at hSw); go_simp; (try with_reducible rfl))); (try simp only [Act.put, List.setIfInBounds_toArray, List.set_cons_zero, List.set_cons_succ]))
        (refine Rg.sk (i := 7) (d := 19) rfl rfl (by kernel_rfl) (by kernel_rfl) (by kernel_rfl) (fun _ _ _ h => h) (by first | kernel_rfl | rfl) (by assumption) ?_; (try simp only [Act.put, List.setIfInBounds_toArray, List.set_cons_zero, List.set_cons_succ]))
        (refine Rg.sk (i := 8) (d := 20) rfl rfl (by kernel_rfl) (by kernel_rfl) (by kernel_rfl) (fun _ _ _ h => h) (by first | kernel_rfl | rfl) (by assumption) ?_; (try simp only [Act.put, List.setIfInBounds_toArray, List.set_cons_zero, List.set_cons_succ]))
        (refine Rg.sk (i := 9) (d := 21) rfl rfl (by kernel_rfl) (by kernel_rfl) (by kernel_rfl) (fun _ _ _ h => h) (by first | kernel_rfl | rfl) (by assumption) ?_; (try simp only [Act.put, List.setIfInBounds_toArray, List.set_cons_zero, List.set_cons_succ]))
        (refine Rg.sk (i := 10) (d := 22) rfl rfl (by kernel_rfl) (by kernel_rfl) (by kernel_rfl) (fun _ _ _ h => h) (by first | kernel_rfl | rfl) (by assumption) ?_; (try simp only [Act.put, List.setIfInBounds_toArray, List.set_cons_zero, List.set_cons_succ]))
        (refine Rg.sk (i := 11) (d := 23) rfl rfl (by kernel_rfl) (by kernel_rfl) (by kernel_rfl) (fun _ _ _ h => h) (by first | kernel_rfl | rfl) (by assumption) ?_; (try simp only [Act.put, List.setIfInBounds_toArray, List.set_cons_zero, List.set_cons_succ]))
        (refine Rg.sk (i := 12) (d := 24) rfl rfl (by kernel_rfl) (by kernel_rfl) (by kernel_rfl) (fun _ _ _ h => h) (by first | kernel_rfl | rfl) (by assumption) ?_; (try simp only [Act.put, List.setIfInBounds_toArray, List.set_cons_zero, List.set_cons_succ]))
        (refine Rg.sk (i := 13) (d := 25) rfl rfl (by kernel_rfl) (by kernel_rfl) (by kernel_rfl) (fun _ _ _ h => h) (by first | kernel_rfl | rfl) (by assumption) ?_; (try simp only [Act.put, List.setIfInBounds_toArray, List.set_cons_zero, List.set_cons_succ]))
        (refine Rg.sk (i := 14) (d := 26) rfl rfl (by kernel_rfl) (by kernel_rfl) (by kernel_rfl) (fun _ _ _ h => h) (by first | kernel_rfl | rfl) (by assumption) ?_; (try simp only [Act.put, List.setIfInBounds_toArray, List.set_cons_zero, List.set_cons_succ]))
        (refine Rg.sk (i := 15) (d := 27) rfl rfl (by kernel_rfl) (by kernel_rfl) (by kernel_rfl) (fun _ _ _ h => h) (by first | kernel_rfl | rfl) (by assumption) ?_; (try simp only [Act.put, List.setIfInBounds_toArray, List.set_cons_zero, List.set_cons_succ]))
        (refine Rg.tk (i := 16) (d := 28) (v := ?_) rfl rfl (by kernel_rfl) (by kernel_rfl) (by kernel_rfl) (fun _ _ _ h => h) (by rfl) ?_ (by assumption) ?_; rotate_left; (focus (intro w0 hSw; (try dsimp only at hSw); go_simp; (try with_reducible rfl))); (try simp only [Act.put, List.setIfInBounds_toArray, List.set_cons_zero, List.set_cons_succ]))
        (refine Rg.tk (i := 17) (d := 29) (v := ?_) rfl rfl (by kernel_rfl) (by kernel_rfl) (by kernel_rfl) (fun _ _ _ h => h) (by rfl) ?_ (by assumption) ?_; rotate_left; (focus (intro w0 hSw; (try dsimp only at hSw); go_simp; (try with_reducible rfl))); (try simp only [Act.put, List.setIfInBounds_toArray, List.set_cons_zero, List.set_cons_succ]))
        refine wpAnyH_done (by kernel_rfl) (NoPanic.normal ?_) _
        have hb1 := hide ((unhide HBL).drew.trans (b2.mono (by show w.heap.size ≤ W0.heap.size; exact (unhide HBL).size)))
        go_wp2_with fail
        go_roundw
        case rel => exact ⟨0 + 1, by omega, by go_num, HST, hb1⟩
        case measure => simp [intOf]; omega
      · obtain ⟨i, hji⟩ : ∃ i, j = i + 1 := ⟨j - 1, by omega⟩
        have HJ := hide hji
        have e1 : (j : Int) - 1 = (i : Int) := by omega
        have i0 : (0 : Int) ≤ (i : Int) := by omega
        have wi : IntKind.i64.wrap (i : Int) = (i : Int) := by rw [IntKind.wrap_i64]; omega
        have i1 : (i : Int) < (n : Int) := by omega
        have j1 : (0 : Int) < (j : Int) := by omega
        have j2 : 0 < j := by omega
        have hP := hide ((hc i (by omega)).below ((Below.refl _ _).alloc (Nat.le_refl _) (.cells #[.int .i64 (ms.getD j R.zero).ds, .int .i64 (ms.getD j R.zero).nx, .int .i64 (ms.getD j R.zero).co, .int .i64 (ms.getD j R.zero).hp] 39)))
        have EJ : ms.getD j R.zero = ms.getD (i + 1) R.zero := by rw [hji]
        clear hc hji
        by_cases hk : (ms.getD i R.zero).ds < (ms.getD j R.zero).ds
        · have HST : Hid (allT ms (j + 1) = true) := hide (Ri.all_succ (unhide hrl) (by rw [unhide HJ]; exact Ri.step_lt (by rw [← EJ]; exact unhide HK) (by rw [← EJ]; exact hk)))
          clear EJ
          generalize ms.getD i R.zero = m0 at *
          obtain ⟨ds0, nx0, co0, hp0⟩ := m0
          dsimp only at hk
          generalize ms.getD j R.zero = m at *
          obtain ⟨ds, nx, co, hp⟩ := m
          obtain ⟨c0, c1, c2, c3⟩ := hA
          dsimp only at hk c0 c1 c2 c3
          go_wp2_with fail
          generalize hW : wr.alloc (.cells #[.int .i64 ds, .int .i64 nx, .int .i64 co, .int .i64 hp] 39) = W0 at *
          clear hW
          refine wp_region_noPanic ?_
          refine wp_region_held_drew (S := fun w' => (Bx w' wr.heap.size ⟨ds, nx, co, hp⟩ ∧ At w' g (off + i * 4) ⟨ds0, nx0, co0, hp0⟩) ∧ w'.cell? ⟨wr.heap.size, 0, none⟩ = some (.int .i64 ds) ∧ w'.cell? ⟨wr.heap.size, 1, none⟩ = some (.int .i64 nx) ∧ w'.cell? ⟨wr.heap.size, 2, none⟩ = some (.int .i64 co) ∧ w'.cell? ⟨wr.heap.size, 3, none⟩ = some (.int .i64 hp) ∧ w'.cell? ⟨g, off + i * 4, none⟩ = some (.int .i64 ds0)) (by kernel_rfl) (sBox2 (unhide HBX).drew (unhide hP).drew) (fun hHeld => ?_)
          (refine Rg.tk (i := 0) (d := 12) (v := ?_) rfl rfl (by kernel_rfl) (by kernel_rfl) (by kernel_rfl) (fun _ _ _ h => h) (by rfl) ?_ (by assumption) ?_; rotate_left; (focus (intro w0 hSw; (try dsimp only at hSw); go_simp; (try with_reducible rfl))); (try simp only [Act.put, List.setIfInBounds_toArray, List.set_cons_zero, List.set_cons_succ]))
          (refine wpAnyH_ready (rs := [1]) (by kernel_rfl) (by simp) ?_; refine AllReadyH.cons (o := _) rfl (fun K hK => ?_) AllReadyH.nil; go_simp)
          refine (isRoute ds nx co hp _).mono ?_
          rintro e w2 ⟨rfl, b2⟩
          rw [unhide HK]
          refine hK.out _ _ (sBox2 ((unhide HBX).drew.below b2) ((unhide hP).drew.below b2)) (fun hHeld => ?_)
          clear hK K
          (try simp only [Act.put, List.setIfInBounds_toArray, List.set_cons_zero, List.set_cons_succ])
          (refine Rg.tk (i := 2) (d := 14) (v := ?_) rfl rfl (by kernel_rfl) (by kernel_rfl) (by kernel_rfl) (fun _ _ _ h => h) (by rfl) ?_ (by assumption) ?_; rotate_left; (focus (intro w0 hSw; (try dsimp only at hSw); go_simp; (try with_reducible rfl))); (try simp only [Act.put, List.setIfInBounds_toArray, List.set_cons_zero, List.set_cons_succ]))
          (refine Rg.tk (i := 3) (d := 15) (v := ?_) rfl rfl (by kernel_rfl) (by kernel_rfl) (by kernel_rfl) (fun _ _ _ h => h) (by rfl) ?_ (by assumption) ?_; rotate_left; (focus (intro w0 hSw; (try dsimp only at hSw); go_simp; (try with_reducible rfl))); (try simp only [Act.put, List.setIfInBounds_toArray, List.set_cons_zero, List.set_cons_succ]))
          (refine Rg.tk (i := 4) (d := 16) (v := ?_) rfl rfl (by kernel_rfl) (by kernel_rfl) (by kernel_rfl) (fun _ _ _ h => h) (by rfl) ?_ (by assumption) ?_; rotate_left; (focus (intro w0 hSw; (try dsimp only at hSw); go_simp; (try with_reducible rfl))); (try simp only [Act.put, List.setIfInBounds_toArray, List.set_cons_zero, List.set_cons_succ]))
          (refine Rg.tk (i := 5) (d := 17) (v := ?_) rfl rfl (by kernel_rfl) (by kernel_rfl) (by kernel_rfl) (fun _ _ _ h => h) (by rfl) ?_ (by assumption) ?_; rotate_left; (focus (intro w0 hSw; (try dsimp only at hSw); go_simp; (try with_reducible rfl))); (try simp only [Act.put, List.setIfInBounds_toArray, List.set_cons_zero, List.set_cons_succ]))
          (refine Rg.tk (i := 6) (d := 18) (v := ?_) rfl rfl (by kernel_rfl) (by kernel_rfl) (by kernel_rfl) (fun _ _ _ h => h) (by rfl) ?_ (by assumption) ?_; rotate_left; (focus (intro w0 hSw; (try dsimp only at hSw); go_simp; (try with_reducible rfl))); (try simp only [Act.put, List.setIfInBounds_toArray, List.set_cons_zero, List.set_cons_succ]))
          (refine Rg.tk (i := 7) (d := 19) (v := ?_) rfl rfl (by kernel_rfl) (by kernel_rfl) (by kernel_rfl) (fun _ _ _ h => h) (by rfl) ?_ (by assumption) ?_; rotate_left; (focus (intro w0 hSw; (try dsimp only at hSw); go_simp; (try with_reducible rfl))); (try simp only [Act.put, List.setIfInBounds_toArray, List.set_cons_zero, List.set_cons_succ]))
          (refine Rg.tk (i := 8) (d := 20) (v := ?_) rfl rfl (by kernel_rfl) (by kernel_rfl) (by kernel_rfl) (fun _ _ _ h => h) (by rfl) ?_ (by assumption) ?_; rotate_left; (focus (intro w0 hSw; (try dsimp only at hSw); go_simp; (try with_reducible rfl))); (try simp only [Act.put, List.setIfInBounds_toArray, List.set_cons_zero, List.set_cons_succ]))
          (refine Rg.tk (i := 9) (d := 21) (v := ?_) rfl rfl (by kernel_rfl) (by kernel_rfl) (by kernel_rfl) (fun _ _ _ h => h) (by rfl) ?_ (by assumption) ?_; rotate_left; (focus (intro w0 hSw; (try dsimp only at hSw); go_simp; (try with_reducible rfl))); (try simp only [Act.put, List.setIfInBounds_toArray, List.set_cons_zero, List.set_cons_succ]))
          (refine Rg.tk (i := 10) (d := 22) (v := ?_) rfl rfl (by kernel_rfl) (by kernel_rfl) (by kernel_rfl) (fun _ _ _ h => h) (by rfl) ?_ (by assumption) ?_; rotate_left; (focus (intro w0 hSw; (try dsimp only at hSw); go_simp; (try with_reducible rfl))); (try simp only [Act.put, List.setIfInBounds_toArray, List.set_cons_zero, List.set_cons_succ]))
          (refine Rg.tk (i := 11) (d := 23) (v := ?_) rfl rfl (by kernel_rfl) (by kernel_rfl) (by kernel_rfl) (fun _ _ _ h => h) (by rfl) ?_ (by assumption) ?_; rotate_left; (focus (intro w0 hSw; (try dsimp only at hSw); go_simp; (try with_reducible rfl))); (try simp only [Act.put, List.setIfInBounds_toArray, List.set_cons_zero, List.set_cons_succ]))
          (refine Rg.tk (i := 12) (d := 24) (v := ?_) rfl rfl (by kernel_rfl) (by kernel_rfl) (by kernel_rfl) (fun _ _ _ h => h) (by rfl) ?_ (by assumption) ?_; rotate_left; (focus (intro w0 hSw; (try dsimp only at hSw); go_simp; (try with_reducible rfl))); (try simp only [Act.put, List.setIfInBounds_toArray, List.set_cons_zero, List.set_cons_succ]))
          (refine Rg.tk (i := 13) (d := 25) (v := ?_) rfl rfl (by kernel_rfl) (by kernel_rfl) (by kernel_rfl) (fun _ _ _ h => h) (by rfl) ?_ (by assumption) ?_; rotate_left; (focus (intro w0 hSw; (try dsimp only at hSw); go_simp; (try with_reducible rfl))); (try simp only [Act.put, List.setIfInBounds_toArray, List.set_cons_zero, List.set_cons_succ]))
          (refine Rg.tk (i := 14) (d := 26) (v := ?_) rfl rfl (by kernel_rfl) (by kernel_rfl) (by kernel_rfl) (fun _ _ _ h => h) (by rfl) ?_ (by assumption) ?_; rotate_left; (focus (intro w0 hSw; (try dsimp only at hSw); go_simp; (try with_reducible rfl))); (try simp only [Act.put, List.setIfInBounds_toArray, List.set_cons_zero, List.set_cons_succ]))
          (refine Rg.tk (i := 15) (d := 27) (v := ?_) rfl rfl (by kernel_rfl) (by kernel_rfl) (by kernel_rfl) (fun _ _ _ h => h) (by rfl) ?_ (by assumption) ?_; rotate_left; (focus (intro w0 hSw; (try dsimp only at hSw); go_simp; (try with_reducible rfl))); (try simp only [Act.put, List.setIfInBounds_toArray, List.set_cons_zero, List.set_cons_succ]))
          (refine Rg.tk (i := 16) (d := 28) (v := ?_) rfl rfl (by kernel_rfl) (by kernel_rfl) (by kernel_rfl) (fun _ _ _ h => h) (by rfl) ?_ (by assumption) ?_; rotate_left; (focus (intro w0 hSw; (try dsimp only at hSw); go_simp; (try with_reducible rfl))); (try simp only [Act.put, List.setIfInBounds_toArray, List.set_cons_zero, List.set_cons_succ]))
          (refine Rg.tk (i := 17) (d := 29) (v := ?_) rfl rfl (by kernel_rfl) (by kernel_rfl) (by kernel_rfl) (fun _ _ _ h => h) (by rfl) ?_ (by assumption) ?_; rotate_left; (focus (intro w0 hSw; (try dsimp only at hSw); go_simp; (try with_reducible rfl))); (try simp only [Act.put, List.setIfInBounds_toArray, List.set_cons_zero, List.set_cons_succ]))
          refine wpAnyH_done (by kernel_rfl) (NoPanic.normal ?_) _
          have hb1 := hide ((unhide HBL).drew.trans (b2.mono (by show w.heap.size ≤ W0.heap.size; exact (unhide HBL).size)))
          go_wp2_with fail
          go_roundw
          case rel => exact ⟨j + 1, by omega, by go_num, HST, hb1⟩
          case measure => simp [intOf]; omega
        · have HST : Hid (rouB ms = false) := hide (Ri.all_no (unhide HL) (show Ri.step R.zero okT R.ds ms j = false by rw [unhide HJ]; exact Ri.step_ge (by rw [← EJ]; omega)))
          clear EJ
          generalize ms.getD i R.zero = m0 at *
          obtain ⟨ds0, nx0, co0, hp0⟩ := m0
          dsimp only at hk
          generalize ms.getD j R.zero = m at *
          obtain ⟨ds, nx, co, hp⟩ := m
          obtain ⟨c0, c1, c2, c3⟩ := hA
          dsimp only at hk c0 c1 c2 c3
          go_wp2_with fail
          generalize hW : wr.alloc (.cells #[.int .i64 ds, .int .i64 nx, .int .i64 co, .int .i64 hp] 39) = W0 at *
          clear hW
          refine wp_region_noPanic ?_
          refine wp_region_held_drew (S := fun w' => (Bx w' wr.heap.size ⟨ds, nx, co, hp⟩ ∧ At w' g (off + i * 4) ⟨ds0, nx0, co0, hp0⟩) ∧ w'.cell? ⟨wr.heap.size, 0, none⟩ = some (.int .i64 ds) ∧ w'.cell? ⟨wr.heap.size, 1, none⟩ = some (.int .i64 nx) ∧ w'.cell? ⟨wr.heap.size, 2, none⟩ = some (.int .i64 co) ∧ w'.cell? ⟨wr.heap.size, 3, none⟩ = some (.int .i64 hp) ∧ w'.cell? ⟨g, off + i * 4, none⟩ = some (.int .i64 ds0)) (by kernel_rfl) (sBox2 (unhide HBX).drew (unhide hP).drew) (fun hHeld => ?_)
          (refine Rg.tk (i := 0) (d := 12) (v := ?_) rfl rfl (by kernel_rfl) (by kernel_rfl) (by kernel_rfl) (fun _ _ _ h => h) (by rfl) ?_ (by assumption) ?_; rotate_left; (focus (intro w0 hSw; (try dsimp only at hSw); go_simp; (try with_reducible rfl))); (try simp only [Act.put, List.setIfInBounds_toArray, List.set_cons_zero, List.set_cons_succ]))
          (refine wpAnyH_ready (rs := [1]) (by kernel_rfl) (by simp) ?_; refine AllReadyH.cons (o := _) rfl (fun K hK => ?_) AllReadyH.nil; go_simp)
          refine (isRoute ds nx co hp _).mono ?_
          rintro e w2 ⟨rfl, b2⟩
          rw [unhide HK]
          refine hK.out _ _ (sBox2 ((unhide HBX).drew.below b2) ((unhide hP).drew.below b2)) (fun hHeld => ?_)
          clear hK K
          (try simp only [Act.put, List.setIfInBounds_toArray, List.set_cons_zero, List.set_cons_succ])
          (refine Rg.tk (i := 2) (d := 14) (v := ?_) rfl rfl (by kernel_rfl) (by kernel_rfl) (by kernel_rfl) (fun _ _ _ h => h) (by rfl) ?_ (by assumption) ?_; rotate_left; (focus (intro w0 hSw; (try dsimp only at hSw); go_simp; (try with_reducible rfl))); (try simp only [Act.put, List.setIfInBounds_toArray, List.set_cons_zero, List.set_cons_succ]))
          (refine Rg.tk (i := 3) (d := 15) (v := ?_) rfl rfl (by kernel_rfl) (by kernel_rfl) (by kernel_rfl) (fun _ _ _ h => h) (by rfl) ?_ (by assumption) ?_; rotate_left; (focus (intro w0 hSw; (try dsimp only at hSw); go_simp; (try with_reducible rfl))); (try simp only [Act.put, List.setIfInBounds_toArray, List.set_cons_zero, List.set_cons_succ]))
          (refine Rg.tk (i := 4) (d := 16) (v := ?_) rfl rfl (by kernel_rfl) (by kernel_rfl) (by kernel_rfl) (fun _ _ _ h => h) (by rfl) ?_ (by assumption) ?_; rotate_left; (focus (intro w0 hSw; (try dsimp only at hSw); go_simp; (try with_reducible rfl))); (try simp only [Act.put, List.setIfInBounds_toArray, List.set_cons_zero, List.set_cons_succ]))
          (refine Rg.tk (i := 5) (d := 17) (v := ?_) rfl rfl (by kernel_rfl) (by kernel_rfl) (by kernel_rfl) (fun _ _ _ h => h) (by rfl) ?_ (by assumption) ?_; rotate_left; (focus (intro w0 hSw; (try dsimp only at hSw); go_simp; (try with_reducible rfl))); (try simp only [Act.put, List.setIfInBounds_toArray, List.set_cons_zero, List.set_cons_succ]))
          (refine Rg.tk (i := 6) (d := 18) (v := ?_) rfl rfl (by kernel_rfl) (by kernel_rfl) (by kernel_rfl) (fun _ _ _ h => h) (by rfl) ?_ (by assumption) ?_; rotate_left; (focus (intro w0 hSw; (try dsimp only at hSw); go_simp; (try with_reducible rfl))); (try simp only [Act.put, List.setIfInBounds_toArray, List.set_cons_zero, List.set_cons_succ]))
          (refine Rg.tk (i := 7) (d := 19) (v := ?_) rfl rfl (by kernel_rfl) (by kernel_rfl) (by kernel_rfl) (fun _ _ _ h => h) (by rfl) ?_ (by assumption) ?_; rotate_left; (focus (intro w0 hSw; (try dsimp only at hSw); go_simp; (try with_reducible rfl))); (try simp only [Act.put, List.setIfInBounds_toArray, List.set_cons_zero, List.set_cons_succ]))
          (refine Rg.tk (i := 8) (d := 20) (v := ?_) rfl rfl (by kernel_rfl) (by kernel_rfl) (by kernel_rfl) (fun _ _ _ h => h) (by rfl) ?_ (by assumption) ?_; rotate_left; (focus (intro w0 hSw; (try dsimp only at hSw); go_simp; (try with_reducible rfl))); (try simp only [Act.put, List.setIfInBounds_toArray, List.set_cons_zero, List.set_cons_succ]))
          (refine Rg.tk (i := 9) (d := 21) (v := ?_) rfl rfl (by kernel_rfl) (by kernel_rfl) (by kernel_rfl) (fun _ _ _ h => h) (by rfl) ?_ (by assumption) ?_; rotate_left; (focus (intro w0 hSw; (try dsimp only at hSw); go_simp; (try with_reducible rfl))); (try simp only [Act.put, List.setIfInBounds_toArray, List.set_cons_zero, List.set_cons_succ]))
          (refine Rg.tk (i := 10) (d := 22) (v := ?_) rfl rfl (by kernel_rfl) (by kernel_rfl) (by kernel_rfl) (fun _ _ _ h => h) (by rfl) ?_ (by assumption) ?_; rotate_left; (focus (intro w0 hSw; (try dsimp only at hSw); go_simp; (try with_reducible rfl))); (try simp only [Act.put, List.setIfInBounds_toArray, List.set_cons_zero, List.set_cons_succ]))
          (refine Rg.tk (i := 11) (d := 23) (v := ?_) rfl rfl (by kernel_rfl) (by kernel_rfl) (by kernel_rfl) (fun _ _ _ h => h) (by rfl) ?_ (by assumption) ?_; rotate_left; (focus (intro w0 hSw; (try dsimp only at hSw); go_simp; (try with_reducible rfl))); (try simp only [Act.put, List.setIfInBounds_toArray, List.set_cons_zero, List.set_cons_succ]))
          (refine Rg.tk (i := 12) (d := 24) (v := ?_) rfl rfl (by kernel_rfl) (by kernel_rfl) (by kernel_rfl) (fun _ _ _ h => h) (by rfl) ?_ (by assumption) ?_; rotate_left; (focus (intro w0 hSw; (try dsimp only at hSw); go_simp; (try with_reducible rfl))); (try simp only [Act.put, List.setIfInBounds_toArray, List.set_cons_zero, List.set_cons_succ]))
          (refine Rg.tk (i := 13) (d := 25) (v := ?_) rfl rfl (by kernel_rfl) (by kernel_rfl) (by kernel_rfl) (fun _ _ _ h => h) (by rfl) ?_ (by assumption) ?_; rotate_left; (focus (intro w0 hSw; (try dsimp only at hSw); go_simp; (try with_reducible rfl))); (try simp only [Act.put, List.setIfInBounds_toArray, List.set_cons_zero, List.set_cons_succ]))
          (refine Rg.tk (i := 14) (d := 26) (v := ?_) rfl rfl (by kernel_rfl) (by kernel_rfl) (by kernel_rfl) (fun _ _ _ h => h) (by rfl) ?_ (by assumption) ?_; rotate_left; (focus (intro w0 hSw; (try dsimp only at hSw); go_simp; (try with_reducible rfl))); (try simp only [Act.put, List.setIfInBounds_toArray, List.set_cons_zero, List.set_cons_succ]))
          (refine Rg.tk (i := 15) (d := 27) (v := ?_) rfl rfl (by kernel_rfl) (by kernel_rfl) (by kernel_rfl) (fun _ _ _ h => h) (by rfl) ?_ (by assumption) ?_; rotate_left; (focus (intro w0 hSw; (try dsimp only at hSw); go_simp; (try with_reducible rfl))); (try simp only [Act.put, List.setIfInBounds_toArray, List.set_cons_zero, List.set_cons_succ]))
          (refine Rg.tk (i := 16) (d := 28) (v := ?_) rfl rfl (by kernel_rfl) (by kernel_rfl) (by kernel_rfl) (fun _ _ _ h => h) (by rfl) ?_ (by assumption) ?_; rotate_left; (focus (intro w0 hSw; (try dsimp only at hSw); go_simp; (try with_reducible rfl))); (try simp only [Act.put, List.setIfInBounds_toArray, List.set_cons_zero, List.set_cons_succ]))
          (refine Rg.tk (i := 17) (d := 29) (v := ?_) rfl rfl (by kernel_rfl) (by kernel_rfl) (by kernel_rfl) (fun _ _ _ h => h) (by rfl) ?_ (by assumption) ?_; rotate_left; (focus (intro w0 hSw; (try dsimp only at hSw); go_simp; (try with_reducible rfl))); (try simp only [Act.put, List.setIfInBounds_toArray, List.set_cons_zero, List.set_cons_succ]))
          refine wpAnyH_done (by kernel_rfl) (NoPanic.normal ?_) _
          have hb1 := hide ((unhide HBL).drew.trans (b2.mono (by show w.heap.size ≤ W0.heap.size; exact (unhide HBL).size)))
          go_wp2_with fail
          go_ret
          exact ⟨ret_bool (unhide HST).symm, unhide hb1⟩
    · obtain rfl : j = n := by omega
      have HO : Hid (rouB ms = true) := hide (by unfold rouB; rw [unhide HN]; exact unhide hrl)
      go_wp2
      go_ret
      exact ⟨ret_bool (unhide HO).symm, unhide hbl⟩
theorem up_at {ms : List R} (h : UpT ms) (k : Int) : ∀ i j, i < j → j < ms.length → atT k (ms.getD i R.zero) = true → atT k (ms.getD j R.zero) = true := by
  intro i j hij hj hi
  have := (List.pairwise_iff_getElem.1 h) i j (by omega) hj hij
  rw [← getD_get (by omega), ← getD_get hj] at this
  unfold atT at *
  exact decide_eq_true (by have := of_decide_eq_true hi; omega)
theorem cloAt (ds nx co hp k : Int) (b : Nat) (w : World) (hc : w.cell? ⟨b, 0, none⟩ = some (.int .i64 k)) :
    Calls Tryd.prog 32 #[.agg #[.int .i64 ds, .int .i64 nx, .int .i64 co, .int .i64 hp], .pointer (some ⟨b, 0, none⟩)] w fun e w' => e = .returned (.bool (atT k ⟨ds, nx, co, hp⟩)) ∧ Below w.heap.size w w' := by
  have hlt : b < w.heap.size := World.block_lt_of_cell? _ _ hc
  have hne : ¬ b = w.heap.size := by omega
  by_cases h : k ≤ ds
  all_goals
    go_enter Tryd.func32, Tryd.ntmps32
    go_wp2
    go_ret
    exact ⟨ret_bool (by unfold atT; simp [h]), (Below.refl _ _).alloc (Nat.le_refl _) _⟩
set_option maxHeartbeats 2000000 in
theorem firstAt (b : Nat) (a : Option Addr) (k : Int) (ms : List R) (cap : Nat) (w : World) (hr : RM w a ms) (hs : UpT ms) (hm : ms.length ≤ 4096) (hb : w.cell? ⟨b, 0, none⟩ = some (.int .i64 k)) :
    Calls Tryd.prog 31 #[.slice a ms.length cap, .func (.func 32) #[] #[.pointer (some ⟨b, 0, none⟩)]] w fun e w' => e = .returned (.int .i64 (Pq.place (atT k) ms)) ∧ Below w.heap.size w w' := by
  have HR := hide hr
  have HB := hide hb
  have HUP := hide (up_at hs k)
  have hblt := World.block_lt_of_cell? _ _ hb
  clear hr hs hb
  generalize hN : ms.length = n at *
  have HN := hide hN
  clear hN
  go_enter Tryd.func31, Tryd.ntmps31
  go_wp2
  go_loopw [5, 6] (fun lo hi wr => ∃ low high : Nat, low ≤ high ∧ high ≤ n ∧ lo = .int .i64 low ∧ hi = .int .i64 high ∧ Hid (∀ i, i < low → atT k (ms.getD i R.zero) = false) ∧ Hid (∀ i, high ≤ i → i < n → atT k (ms.getD i R.zero) = true) ∧ Hid (Below w.heap.size w wr)) (fun lo hi _ => (intOf hi - intOf lo).toNat)
  case atStart => exact ⟨0, n, by omega, by omega, rfl, rfl, hide (fun i hi => by omega), hide (fun i hi h2 => by omega), hide (Below.refl _ _)⟩
  case round =>
    obtain ⟨low, high, hlh, hhn, rfl, rfl, h1, h2, hbl⟩ := hrel
    by_cases hlt : (low : Int) < (high : Int)
    · obtain ⟨mid, hmid⟩ : ∃ mid : Nat, mid = low + (high - low) / 2 := ⟨_, rfl⟩
      have hm1 : low ≤ mid := by omega
      have hm2 : mid < high := by omega
      have em : (low : Int) + ((high : Int) - (low : Int)) / 2 = (mid : Int) := by omega
      have et : ((high : Int) - (low : Int)).tdiv 2 = ((high : Int) - (low : Int)) / 2 := Int.tdiv_eq_ediv_of_nonneg (by omega)
      have k0 : (0 : Int) ≤ (mid : Int) := by omega
      have k1 : (mid : Int) < (n : Int) := by omega
      obtain ⟨g, off, rfl⟩ := (unhide HR).form (by rw [unhide HN]; omega)
      have hA := ((unhide HR).below (unhide hbl)).at (i := mid) (by rw [unhide HN]; omega)
      have HC := hide ((unhide hbl).cell (p := ⟨b, 0, none⟩) hblt)
      have HP : Hid (atT k (ms.getD mid R.zero) = true → ∀ i, mid ≤ i → i < n → atT k (ms.getD i R.zero) = true) := hide (fun h i hi hn => by
        by_cases e : mid = i
        · subst e; exact h
        · exact unhide HUP mid i (by omega) hn h)
      have HQ : Hid (atT k (ms.getD mid R.zero) = false → ∀ i, i < mid + 1 → atT k (ms.getD i R.zero) = false) := hide (fun h i hi => by
        by_cases e : mid = i
        · subst e; exact h
        · cases hb : atT k (ms.getD i R.zero)
          · rfl
          · rw [unhide HUP i mid (by omega) (by omega) hb] at h; cases h)
      clear hmid
      generalize ms.getD mid R.zero = m at *
      obtain ⟨ds, nx, co, hp⟩ := m
      obtain ⟨c0, c1, c2, c3⟩ := hA
      dsimp only at c0 c1 c2 c3
      go_wp2_with fail
      refine (cloAt ds nx co hp k b _ ((unhide HC).trans (unhide HB))).mono ?_
      rintro e w1 ⟨rfl, b1⟩
      have hb1 := hide ((unhide hbl).trans (b1.mono (unhide hbl).size))
      clear c0 c1 c2 c3 b1
      cases hp : atT k ⟨ds, nx, co, hp⟩
      · have HST := hide (unhide HQ hp)
        go_wp2_with fail
        exact ⟨⟨mid + 1, high, by omega, by omega, by go_num, rfl, HST, h2, hb1⟩, by simp [intOf]; omega⟩
      · have HST := hide (unhide HP hp)
        go_wp2_with fail
        exact ⟨⟨low, mid, by omega, by omega, rfl, rfl, h1, HST, hb1⟩, by simp [intOf]; omega⟩
    · obtain rfl : low = high := by omega
      have HST : Hid (Pq.place (atT k) ms = low) := hide (Pq.place_of R.zero _ ms low (by rw [unhide HN]; omega) (unhide h1) (fun h => unhide h2 low (Nat.le_refl _) (by rw [unhide HN] at h; exact h)))
      go_wp2_with fail
      go_ret
      exact ⟨ret_int (by rw [unhide HST]), unhide hbl⟩
theorem there_no {ms : List R} {k : Int} {p : Nat} (e : placeT ms k = p) (h : ms.length ≤ p) : thereT ms k = false := by unfold thereT; rw [e, decide_eq_false (by omega)]; rfl
theorem there_ne {ms : List R} {k : Int} {p : Nat} (e : placeT ms k = p) (h : ¬ (ms.getD p R.zero).ds = k) : thereT ms k = false := by unfold thereT; rw [e, decide_eq_false h, Bool.and_false]
theorem there_yes {ms : List R} {k : Int} {p : Nat} (e : placeT ms k = p) (hl : p < ms.length) (h : (ms.getD p R.zero).ds = k) : thereT ms k = true := by unfold thereT; rw [e, decide_eq_true hl, decide_eq_true h]; rfl
theorem sKey {w : World} {b g o : Nat} {k : Int} {m : R} (h : w.cell? ⟨b, 0, none⟩ = some (.int .i64 k)) (h' : At w g o m) : w.cell? ⟨b, 0, none⟩ = some (.int .i64 k) ∧ w.cell? ⟨g, o, none⟩ = some (.int .i64 m.ds) := ⟨h, h'.1⟩
theorem lt_block {w : World} {b : Nat} {c : Obj} (h : w.heap[b]? = some c) : b < w.heap.size := by
  rcases Nat.lt_or_ge b w.heap.size with hlt | hge
  · exact hlt
  · rw [Array.getElem?_eq_none hge] at h; cases h
theorem heap_set {w : World} {b i : Nat} {c : Array Value} {t : TypeId} {fr : Nat × Nat} (u : Value) (h : w.heap[b]? = some (.cells c t fr)) : (w.setCell ⟨b, i, none⟩ u).heap[b]? = some (.cells (c.setIfInBounds i u) t fr) := by
  have hlt := lt_block h
  have h' : w.heap[b] = .cells c t fr := by simpa [Array.getElem?_eq_getElem hlt] using h
  show (w.heap.modify b _)[b]? = _
  rw [Array.getElem?_eq_getElem (by simpa using hlt), Array.getElem_modify_self, h']
  rfl
/-- A route's block that may be written. -/
def RV (w : World) (b : Nat) (m : R) : Prop := w.heap[b]? = some (.cells #[.int .i64 m.ds, .int .i64 m.nx, .int .i64 m.co, .int .i64 m.hp] 39 (0, 0))
theorem RV.cells {w : World} {b : Nat} {m : R} (h : RV w b m) : Bx w b m := by
  unfold RV at h; refine ⟨?_, ?_, ?_, ?_⟩ <;> simp [World.cell?, h]
theorem RV.free {w : World} {b : Nat} {m : R} (h : RV w b m) (i : Nat) : w.frozen? ⟨b, i, none⟩ = false := by unfold RV at h; simp [World.frozen?, h]
theorem RV.lt {w : World} {b : Nat} {m : R} (h : RV w b m) : b < w.heap.size := lt_block h
theorem RV.drew {w : World} {b : Nat} {m : R} (h : RV w b m) : RV w.drew b m := h
theorem RV.below {w w' : World} {b : Nat} {m : R} (h : RV w b m) (hb : Below w.heap.size w w') : RV w' b m := (hb.block b h.lt).trans h
theorem RV.under {w w' : World} {B b : Nat} {m : R} (h : RV w b m) (hb : Below B w w') (hl : b < B) : RV w' b m := (hb.block b hl).trans h
theorem rv_new (w : World) (m : R) : RV (w.alloc (.cells #[.int .i64 m.ds, .int .i64 m.nx, .int .i64 m.co, .int .i64 m.hp] 39)) w.heap.size m := heap_alloc_new w _
theorem rv_put {w : World} {b : Nat} {m : R} (h : RV w b m) (x y z u : Int) : RV ((((w.setCell ⟨b, 0, none⟩ (.int .i64 x)).setCell ⟨b, 1, none⟩ (.int .i64 y)).setCell ⟨b, 2, none⟩ (.int .i64 z)).setCell ⟨b, 3, none⟩ (.int .i64 u)) b ⟨x, y, z, u⟩ := by
  have h1 := heap_set (i := 0) (.int .i64 x) h
  have h2 := heap_set (i := 1) (.int .i64 y) h1
  have h3 := heap_set (i := 2) (.int .i64 z) h2
  exact heap_set (i := 3) (.int .i64 u) h3
theorem fT_val {ms : List R} {k : Int} {p : Nat} (hs : UpT ms) (e : placeT ms k = p) (ht : thereT ms k = true) : fT ms k = ms.getD p R.zero := by rw [fT_there hs ht, e]
theorem fT_not {ms : List R} {k : Int} (hs : UpT ms) (ht : thereT ms k = false) : fT ms k = R.zero := fT_none (by rw [has_there hs]; exact ht)
set_option maxHeartbeats 4000000 in
theorem routeAt (a : Option Addr) (ms : List R) (cap : Nat) (k : Int) (w : World) (hr : RM w a ms) (hs : UpT ms) (hm : ms.length ≤ 4096) :
    Calls Tryd.prog 25 #[.slice a ms.length cap, .int .i64 k] w fun e w' => e = .returned (fT ms k).value ∧ Below w.heap.size w w' := by
  have HR := hide hr
  have HS := hide hs
  have hl := Pq.place_le (atT k) ms
  clear hr hs
  have HC : Hid (((w.alloc (.cells #[.int .i64 k] 3)).alloc (.cells #[.int .i64 0, .int .i64 0, .int .i64 0, .int .i64 0] 39)).cell? ⟨w.heap.size, 0, none⟩ = some (.int .i64 k)) := hide (by rw [((Below.refl (w.alloc (.cells #[.int .i64 k] 3)).heap.size (w.alloc (.cells #[.int .i64 k] 3))).alloc (Nat.le_refl _) (.cells #[.int .i64 0, .int .i64 0, .int .i64 0, .int .i64 0] 39)).cell (p := ⟨w.heap.size, 0, none⟩) (by simp)]; simp [World.cell?_alloc_new])
  have HBA : Hid (Below w.heap.size w ((w.alloc (.cells #[.int .i64 k] 3)).alloc (.cells #[.int .i64 0, .int .i64 0, .int .i64 0, .int .i64 0] 39))) := hide (((Below.refl _ _).alloc (Nat.le_refl _) _).alloc (by simp) _)
  have HZ : Hid (RV ((w.alloc (.cells #[.int .i64 k] 3)).alloc (.cells #[.int .i64 0, .int .i64 0, .int .i64 0, .int .i64 0] 39)) (w.heap.size + 1) R.zero) := hide (by have := rv_new (w.alloc (.cells #[.int .i64 k] 3)) R.zero; rw [show (w.alloc (.cells #[.int .i64 k] 3)).heap.size = w.heap.size + 1 by simp] at this; exact this)
  obtain ⟨p, hp⟩ : ∃ p, placeT ms k = p := ⟨_, rfl⟩
  have HP := hide hp
  have HP' : Hid (Pq.place (atT k) ms = p) := hide hp
  rw [show Pq.place (atT k) ms = p from hp] at hl
  clear hp
  have hmf : ∀ (fn : Fn) (first cap : Array Value) (w : World), (Instr.makeFunc fn first cap).run Tryd.prog w = .ok (.func fn first cap) w := fun _ _ _ _ => rfl
  obtain ⟨qd, qn, qc, qh, hq⟩ : ∃ qd qn qc qh, fT ms k = ⟨qd, qn, qc, qh⟩ := ⟨_, _, _, _, rfl⟩
  have HQ := hide hq
  rw [hq]
  clear hq
  go_enter Tryd.func25, Tryd.ntmps25
  go_wp2_with fail
  refine (firstAt w.heap.size a k ms cap _ ((unhide HR).below (unhide HBA)) (unhide HS) hm (unhide HC)).mono ?_
  rintro e w1 ⟨rfl, b1⟩
  rw [unhide HP']
  have hb1 := hide ((unhide HBA).trans (b1.mono (unhide HBA).size))
  have hcell := (b1.cell (p := ⟨w.heap.size, 0, none⟩) (by simp; omega)).trans (unhide HC)
  have HR1 := hide ((unhide HR).below (unhide hb1))
  have HZ1 := hide ((unhide HZ).below b1)
  have hlt1 := (unhide HZ1).lt
  clear HC HBA b1 HZ
  have y0 := (unhide HZ1).free 0
  have y1 := (unhide HZ1).free 1
  have y2 := (unhide HZ1).free 2
  have y3 := (unhide HZ1).free 3
  obtain ⟨x0, x1, x2, x3⟩ := (unhide HZ1).cells
  unfold R.zero at x0 x1 x2 x3
  dsimp only at x0 x1 x2 x3
  by_cases hlt : (p : Int) < (ms.length : Int)
  · obtain ⟨g, off, rfl⟩ := (unhide HR1).form (by omega)
    have hA := (unhide HR1).at (i := p) (by omega)
    have k0 : (0 : Int) ≤ (p : Int) := by omega
    have hlen : p < ms.length := by omega
    have hpn : ((p : Int) == (ms.length : Int)) = false := by simp; omega
    by_cases hk : (ms.getD p R.zero).ds = k
    · have HT := hide (there_yes (unhide HP) hlen hk)
      have e := fT_val (unhide HS) (unhide HP) (unhide HT)
      rw [unhide HQ] at e
      rw [← e] at hA hk
      dsimp only at hk
      have hk' : (qd != k) = false := by simpa using hk
      clear hk e
      have HSK := hide (sKey hcell hA.drew)
      obtain ⟨c0, c1, c2, c3⟩ := hA
      dsimp only at c0 c1 c2 c3
      go_wp2_with fail
      refine wp_region_noPanic ?_
      refine wp_region_held_drew (S := fun w' => w'.cell? ⟨w.heap.size, 0, none⟩ = some (.int .i64 k) ∧ w'.cell? ⟨g, off + p * 4, none⟩ = some (.int .i64 qd)) (by kernel_rfl) (unhide HSK) (fun hHeld => ?_)
      (refine Rg.tk (i := 0) (d := 9) (v := ?_) rfl rfl (by kernel_rfl) (by kernel_rfl) (by kernel_rfl) (fun _ _ _ h => h) (by rfl) ?_ (by assumption) ?_; rotate_left; (focus (intro w0 hSw; (try dsimp only at hSw); go_simp; (try with_reducible rfl))); (try simp only [Act.put, List.setIfInBounds_toArray, List.set_cons_zero, List.set_cons_succ]))
      (refine Rg.tk (i := 1) (d := 10) (v := ?_) rfl rfl (by kernel_rfl) (by kernel_rfl) (by kernel_rfl) (fun _ _ _ h => h) (by rfl) ?_ (by assumption) ?_; rotate_left; (focus (intro w0 hSw; (try dsimp only at hSw); go_simp; (try with_reducible rfl))); (try simp only [Act.put, List.setIfInBounds_toArray, List.set_cons_zero, List.set_cons_succ]))
      (refine Rg.tk (i := 2) (d := 11) (v := ?_) rfl rfl (by kernel_rfl) (by kernel_rfl) (by kernel_rfl) (fun _ _ _ h => h) (by rfl) ?_ (by assumption) ?_; rotate_left; (focus (intro w0 hSw; (try dsimp only at hSw); go_simp; (try with_reducible rfl))); (try simp only [Act.put, List.setIfInBounds_toArray, List.set_cons_zero, List.set_cons_succ]))
      (refine Rg.tk (i := 3) (d := 12) (v := ?_) rfl rfl (by kernel_rfl) (by kernel_rfl) (by kernel_rfl) (fun _ _ _ h => h) (by rfl) ?_ (by assumption) ?_; rotate_left; (focus (intro w0 hSw; (try dsimp only at hSw); go_simp; (try with_reducible rfl))); (try simp only [Act.put, List.setIfInBounds_toArray, List.set_cons_zero, List.set_cons_succ]))
      (refine Rg.tk (i := 4) (d := 13) (v := ?_) rfl rfl (by kernel_rfl) (by kernel_rfl) (by kernel_rfl) (fun _ _ _ h => h) (by rfl) ?_ (by assumption) ?_; rotate_left; (focus (intro w0 hSw; (try dsimp only at hSw); go_simp; (try with_reducible rfl))); (try simp only [Act.put, List.setIfInBounds_toArray, List.set_cons_zero, List.set_cons_succ]))
      (refine Rg.tk (i := 5) (d := 14) (v := ?_) rfl rfl (by kernel_rfl) (by kernel_rfl) (by kernel_rfl) (fun _ _ _ h => h) (by rfl) ?_ (by assumption) ?_; rotate_left; (focus (intro w0 hSw; (try dsimp only at hSw); go_simp; (try with_reducible rfl))); (try simp only [Act.put, List.setIfInBounds_toArray, List.set_cons_zero, List.set_cons_succ]))
      (refine Rg.tk (i := 6) (d := 15) (v := ?_) rfl rfl (by kernel_rfl) (by kernel_rfl) (by kernel_rfl) (fun _ _ _ h => h) (by rfl) ?_ (by assumption) ?_; rotate_left; (focus (intro w0 hSw; (try dsimp only at hSw); go_simp; (try with_reducible rfl))); (try simp only [Act.put, List.setIfInBounds_toArray, List.set_cons_zero, List.set_cons_succ]))
      (refine Rg.tk (i := 7) (d := 16) (v := ?_) rfl rfl (by kernel_rfl) (by kernel_rfl) (by kernel_rfl) (fun _ _ _ h => h) (by rfl) ?_ (by assumption) ?_; rotate_left; (focus (intro w0 hSw; (try dsimp only at hSw); go_simp; (try with_reducible rfl))); (try simp only [Act.put, List.setIfInBounds_toArray, List.set_cons_zero, List.set_cons_succ]))
      (refine Rg.tk (i := 8) (d := 17) (v := ?_) rfl rfl (by kernel_rfl) (by kernel_rfl) (by kernel_rfl) (fun _ _ _ h => h) (by rfl) ?_ (by assumption) ?_; rotate_left; (focus (intro w0 hSw; (try dsimp only at hSw); go_simp; (try with_reducible rfl))); (try simp only [Act.put, List.setIfInBounds_toArray, List.set_cons_zero, List.set_cons_succ]))
      (refine Rg.tk (i := 9) (d := 18) (v := ?_) rfl rfl (by kernel_rfl) (by kernel_rfl) (by kernel_rfl) (fun _ _ _ h => h) (by rfl) ?_ (by assumption) ?_; rotate_left; (focus (intro w0 hSw; (try dsimp only at hSw); go_simp; (try with_reducible rfl))); (try simp only [Act.put, List.setIfInBounds_toArray, List.set_cons_zero, List.set_cons_succ]))
      (refine Rg.tk (i := 10) (d := 19) (v := ?_) rfl rfl (by kernel_rfl) (by kernel_rfl) (by kernel_rfl) (fun _ _ _ h => h) (by rfl) ?_ (by assumption) ?_; rotate_left; (focus (intro w0 hSw; (try dsimp only at hSw); go_simp; (try with_reducible rfl))); (try simp only [Act.put, List.setIfInBounds_toArray, List.set_cons_zero, List.set_cons_succ]))
      (refine Rg.tk (i := 11) (d := 20) (v := ?_) rfl rfl (by kernel_rfl) (by kernel_rfl) (by kernel_rfl) (fun _ _ _ h => h) (by rfl) ?_ (by assumption) ?_; rotate_left; (focus (intro w0 hSw; (try dsimp only at hSw); go_simp; (try with_reducible rfl))); (try simp only [Act.put, List.setIfInBounds_toArray, List.set_cons_zero, List.set_cons_succ]))
      (refine Rg.tk (i := 12) (d := 21) (v := ?_) rfl rfl (by kernel_rfl) (by kernel_rfl) (by kernel_rfl) (fun _ _ _ h => h) (by rfl) ?_ (by assumption) ?_; rotate_left; (focus (intro w0 hSw; (try dsimp only at hSw); go_simp; (try with_reducible rfl))); (try simp only [Act.put, List.setIfInBounds_toArray, List.set_cons_zero, List.set_cons_succ]))
      refine wpAnyH_done (by kernel_rfl) (NoPanic.normal ?_) _
      go_wp2_with fail
      refine bodyPost_ret (v := .agg #[.int .i64 qd, .int .i64 qn, .int .i64 qc, .int .i64 qh]) (by simp [results, Tryd.results25, go_sem, x0, x1, x2, x3]) rfl ⟨rfl, ?_⟩
      have hB := unhide hb1
      (repeat (first | (with_reducible exact hB) | (with_reducible refine Below.drew ?_) | (with_reducible refine Below.setCell ?_ ?_ _; rotate_left; (first | exact Nat.le_refl _ | (simp; done) | (dsimp only; omega))) | (with_reducible refine Below.alloc ?_ ?_ _; rotate_left; (first | exact Nat.le_refl _ | omega | (simp [World.setCell]; omega)))))
    · have HT := hide (there_ne (unhide HP) hk)
      have e := fT_not (unhide HS) (unhide HT)
      rw [unhide HQ] at e
      obtain ⟨rfl, rfl, rfl, rfl⟩ : qd = 0 ∧ qn = 0 ∧ qc = 0 ∧ qh = 0 := by unfold R.zero at e; cases e; exact ⟨rfl, rfl, rfl, rfl⟩
      generalize ms.getD p R.zero = m at *
      have hk' : (m.ds != k) = true := by simpa using hk
      clear hk e
      go_wp2_with fail
      refine wp_region_noPanic ?_
      refine wp_region_held_drew (S := fun w' => w'.cell? ⟨w.heap.size, 0, none⟩ = some (.int .i64 k) ∧ w'.cell? ⟨g, off + p * 4, none⟩ = some (.int .i64 m.ds)) (by kernel_rfl) (sKey hcell hA.drew) (fun hHeld => ?_)
      (refine Rg.tk (i := 0) (d := 9) (v := ?_) rfl rfl (by kernel_rfl) (by kernel_rfl) (by kernel_rfl) (fun _ _ _ h => h) (by rfl) ?_ (by assumption) ?_; rotate_left; (focus (intro w0 hSw; (try dsimp only at hSw); go_simp; (try with_reducible rfl))); (try simp only [Act.put, List.setIfInBounds_toArray, List.set_cons_zero, List.set_cons_succ]))
      (refine Rg.tk (i := 1) (d := 10) (v := ?_) rfl rfl (by kernel_rfl) (by kernel_rfl) (by kernel_rfl) (fun _ _ _ h => h) (by rfl) ?_ (by assumption) ?_; rotate_left; (focus (intro w0 hSw; (try dsimp only at hSw); go_simp; (try with_reducible rfl))); (try simp only [Act.put, List.setIfInBounds_toArray, List.set_cons_zero, List.set_cons_succ]))
      (refine Rg.tk (i := 2) (d := 11) (v := ?_) rfl rfl (by kernel_rfl) (by kernel_rfl) (by kernel_rfl) (fun _ _ _ h => h) (by rfl) ?_ (by assumption) ?_; rotate_left; (focus (intro w0 hSw; (try dsimp only at hSw); go_simp; (try with_reducible rfl))); (try simp only [Act.put, List.setIfInBounds_toArray, List.set_cons_zero, List.set_cons_succ]))
      (refine Rg.tk (i := 3) (d := 12) (v := ?_) rfl rfl (by kernel_rfl) (by kernel_rfl) (by kernel_rfl) (fun _ _ _ h => h) (by rfl) ?_ (by assumption) ?_; rotate_left; (focus (intro w0 hSw; (try dsimp only at hSw); go_simp; (try with_reducible rfl))); (try simp only [Act.put, List.setIfInBounds_toArray, List.set_cons_zero, List.set_cons_succ]))
      (refine Rg.tk (i := 4) (d := 13) (v := ?_) rfl rfl (by kernel_rfl) (by kernel_rfl) (by kernel_rfl) (fun _ _ _ h => h) (by rfl) ?_ (by assumption) ?_; rotate_left; (focus (intro w0 hSw; (try dsimp only at hSw); go_simp; (try with_reducible rfl))); (try simp only [Act.put, List.setIfInBounds_toArray, List.set_cons_zero, List.set_cons_succ]))
      (refine Rg.tk (i := 5) (d := 14) (v := ?_) rfl rfl (by kernel_rfl) (by kernel_rfl) (by kernel_rfl) (fun _ _ _ h => h) (by rfl) ?_ (by assumption) ?_; rotate_left; (focus (intro w0 hSw; (try dsimp only at hSw); go_simp; (try with_reducible rfl))); (try simp only [Act.put, List.setIfInBounds_toArray, List.set_cons_zero, List.set_cons_succ]))
      (refine Rg.tk (i := 6) (d := 15) (v := ?_) rfl rfl (by kernel_rfl) (by kernel_rfl) (by kernel_rfl) (fun _ _ _ h => h) (by rfl) ?_ (by assumption) ?_; rotate_left; (focus (intro w0 hSw; (try dsimp only at hSw); go_simp; (try with_reducible rfl))); (try simp only [Act.put, List.setIfInBounds_toArray, List.set_cons_zero, List.set_cons_succ]))
      (refine Rg.tk (i := 7) (d := 16) (v := ?_) rfl rfl (by kernel_rfl) (by kernel_rfl) (by kernel_rfl) (fun _ _ _ h => h) (by rfl) ?_ (by assumption) ?_; rotate_left; (focus (intro w0 hSw; (try dsimp only at hSw); go_simp; (try with_reducible rfl))); (try simp only [Act.put, List.setIfInBounds_toArray, List.set_cons_zero, List.set_cons_succ]))
      (refine Rg.tk (i := 8) (d := 17) (v := ?_) rfl rfl (by kernel_rfl) (by kernel_rfl) (by kernel_rfl) (fun _ _ _ h => h) (by rfl) ?_ (by assumption) ?_; rotate_left; (focus (intro w0 hSw; (try dsimp only at hSw); go_simp; (try with_reducible rfl))); (try simp only [Act.put, List.setIfInBounds_toArray, List.set_cons_zero, List.set_cons_succ]))
      (refine Rg.tk (i := 9) (d := 18) (v := ?_) rfl rfl (by kernel_rfl) (by kernel_rfl) (by kernel_rfl) (fun _ _ _ h => h) (by rfl) ?_ (by assumption) ?_; rotate_left; (focus (intro w0 hSw; (try dsimp only at hSw); go_simp; (try with_reducible rfl))); (try simp only [Act.put, List.setIfInBounds_toArray, List.set_cons_zero, List.set_cons_succ]))
      (refine Rg.tk (i := 10) (d := 19) (v := ?_) rfl rfl (by kernel_rfl) (by kernel_rfl) (by kernel_rfl) (fun _ _ _ h => h) (by rfl) ?_ (by assumption) ?_; rotate_left; (focus (intro w0 hSw; (try dsimp only at hSw); go_simp; (try with_reducible rfl))); (try simp only [Act.put, List.setIfInBounds_toArray, List.set_cons_zero, List.set_cons_succ]))
      (refine Rg.tk (i := 11) (d := 20) (v := ?_) rfl rfl (by kernel_rfl) (by kernel_rfl) (by kernel_rfl) (fun _ _ _ h => h) (by rfl) ?_ (by assumption) ?_; rotate_left; (focus (intro w0 hSw; (try dsimp only at hSw); go_simp; (try with_reducible rfl))); (try simp only [Act.put, List.setIfInBounds_toArray, List.set_cons_zero, List.set_cons_succ]))
      (refine Rg.tk (i := 12) (d := 21) (v := ?_) rfl rfl (by kernel_rfl) (by kernel_rfl) (by kernel_rfl) (fun _ _ _ h => h) (by rfl) ?_ (by assumption) ?_; rotate_left; (focus (intro w0 hSw; (try dsimp only at hSw); go_simp; (try with_reducible rfl))); (try simp only [Act.put, List.setIfInBounds_toArray, List.set_cons_zero, List.set_cons_succ]))
      refine wpAnyH_done (by kernel_rfl) (NoPanic.normal ?_) _
      go_wp2_with fail
      refine bodyPost_ret (v := .agg #[.int .i64 0, .int .i64 0, .int .i64 0, .int .i64 0]) (by simp [results, Tryd.results25, go_sem, x0, x1, x2, x3]) rfl ⟨rfl, ?_⟩
      have hB := unhide hb1
      (repeat (first | (with_reducible exact hB) | (with_reducible refine Below.drew ?_) | (with_reducible refine Below.setCell ?_ ?_ _; rotate_left; (first | exact Nat.le_refl _ | (simp; done) | (dsimp only; omega))) | (with_reducible refine Below.alloc ?_ ?_ _; rotate_left; (first | exact Nat.le_refl _ | omega | (simp [World.setCell]; omega)))))
  · obtain rfl : p = ms.length := by omega
    have HT := hide (there_no (unhide HP) (by omega))
    have e := fT_not (unhide HS) (unhide HT)
    rw [unhide HQ] at e
    obtain ⟨rfl, rfl, rfl, rfl⟩ : qd = 0 ∧ qn = 0 ∧ qc = 0 ∧ qh = 0 := by unfold R.zero at e; cases e; exact ⟨rfl, rfl, rfl, rfl⟩
    clear e
    have hpn : ((ms.length : Int) == (ms.length : Int)) = true := by simp
    go_wp2_with fail
    refine wp_region_noPanic ?_
    refine wp_region_held_drew (S := fun w' => True) (by kernel_rfl) trivial (fun hHeld => ?_)
    (refine Rg.tk (i := 0) (d := 9) (v := ?_) rfl rfl (by kernel_rfl) (by kernel_rfl) (by kernel_rfl) (fun _ _ _ h => h) (by rfl) ?_ (by assumption) ?_; rotate_left; (focus (intro w0 hSw; (try dsimp only at hSw); go_simp; (try with_reducible rfl))); (try simp only [Act.put, List.setIfInBounds_toArray, List.set_cons_zero, List.set_cons_succ]))
    (refine Rg.tk (i := 1) (d := 10) (v := ?_) rfl rfl (by kernel_rfl) (by kernel_rfl) (by kernel_rfl) (fun _ _ _ h => h) (by rfl) ?_ (by assumption) ?_; rotate_left; (focus (intro w0 hSw; (try dsimp only at hSw); go_simp; (try with_reducible rfl))); (try simp only [Act.put, List.setIfInBounds_toArray, List.set_cons_zero, List.set_cons_succ]))
    (refine Rg.tk (i := 2) (d := 11) (v := ?_) rfl rfl (by kernel_rfl) (by kernel_rfl) (by kernel_rfl) (fun _ _ _ h => h) (by rfl) ?_ (by assumption) ?_; rotate_left; (focus (intro w0 hSw; (try dsimp only at hSw); go_simp; (try with_reducible rfl))); (try simp only [Act.put, List.setIfInBounds_toArray, List.set_cons_zero, List.set_cons_succ]))
    (refine Rg.tk (i := 3) (d := 12) (v := ?_) rfl rfl (by kernel_rfl) (by kernel_rfl) (by kernel_rfl) (fun _ _ _ h => h) (by rfl) ?_ (by assumption) ?_; rotate_left; (focus (intro w0 hSw; (try dsimp only at hSw); go_simp; (try with_reducible rfl))); (try simp only [Act.put, List.setIfInBounds_toArray, List.set_cons_zero, List.set_cons_succ]))
    (refine Rg.tk (i := 4) (d := 13) (v := ?_) rfl rfl (by kernel_rfl) (by kernel_rfl) (by kernel_rfl) (fun _ _ _ h => h) (by rfl) ?_ (by assumption) ?_; rotate_left; (focus (intro w0 hSw; (try dsimp only at hSw); go_simp; (try with_reducible rfl))); (try simp only [Act.put, List.setIfInBounds_toArray, List.set_cons_zero, List.set_cons_succ]))
    (refine Rg.sk (i := 5) (d := 14) rfl rfl (by kernel_rfl) (by kernel_rfl) (by kernel_rfl) (fun _ _ _ h => h) (by first | kernel_rfl | rfl) (by assumption) ?_; (try simp only [Act.put, List.setIfInBounds_toArray, List.set_cons_zero, List.set_cons_succ]))
    (refine Rg.sk (i := 6) (d := 15) rfl rfl (by kernel_rfl) (by kernel_rfl) (by kernel_rfl) (fun _ _ _ h => h) (by first | kernel_rfl | rfl) (by assumption) ?_; (try simp only [Act.put, List.setIfInBounds_toArray, List.set_cons_zero, List.set_cons_succ]))
    (refine Rg.sk (i := 7) (d := 16) rfl rfl (by kernel_rfl) (by kernel_rfl) (by kernel_rfl) (fun _ _ _ h => h) (by first | kernel_rfl | rfl) (by assumption) ?_; (try simp only [Act.put, List.setIfInBounds_toArray, List.set_cons_zero, List.set_cons_succ]))
    (refine Rg.sk (i := 8) (d := 17) rfl rfl (by kernel_rfl) (by kernel_rfl) (by kernel_rfl) (fun _ _ _ h => h) (by first | kernel_rfl | rfl) (by assumption) ?_; (try simp only [Act.put, List.setIfInBounds_toArray, List.set_cons_zero, List.set_cons_succ]))
    (refine Rg.sk (i := 9) (d := 18) rfl rfl (by kernel_rfl) (by kernel_rfl) (by kernel_rfl) (fun _ _ _ h => h) (by first | kernel_rfl | rfl) (by assumption) ?_; (try simp only [Act.put, List.setIfInBounds_toArray, List.set_cons_zero, List.set_cons_succ]))
    (refine Rg.sk (i := 10) (d := 19) rfl rfl (by kernel_rfl) (by kernel_rfl) (by kernel_rfl) (fun _ _ _ h => h) (by first | kernel_rfl | rfl) (by assumption) ?_; (try simp only [Act.put, List.setIfInBounds_toArray, List.set_cons_zero, List.set_cons_succ]))
    (refine Rg.sk (i := 11) (d := 20) rfl rfl (by kernel_rfl) (by kernel_rfl) (by kernel_rfl) (fun _ _ _ h => h) (by first | kernel_rfl | rfl) (by assumption) ?_; (try simp only [Act.put, List.setIfInBounds_toArray, List.set_cons_zero, List.set_cons_succ]))
    (refine Rg.tk (i := 12) (d := 21) (v := ?_) rfl rfl (by kernel_rfl) (by kernel_rfl) (by kernel_rfl) (fun _ _ _ h => h) (by rfl) ?_ (by assumption) ?_; rotate_left; (focus (intro w0 hSw; (try dsimp only at hSw); go_simp; (try with_reducible rfl))); (try simp only [Act.put, List.setIfInBounds_toArray, List.set_cons_zero, List.set_cons_succ]))
    refine wpAnyH_done (by kernel_rfl) (NoPanic.normal ?_) _
    go_wp2_with fail
    refine bodyPost_ret (v := .agg #[.int .i64 0, .int .i64 0, .int .i64 0, .int .i64 0]) (by simp [results, Tryd.results25, go_sem, x0, x1, x2, x3]) rfl ⟨rfl, ?_⟩
    have hB := unhide hb1
    (repeat (first | (with_reducible exact hB) | (with_reducible refine Below.drew ?_) | (with_reducible refine Below.setCell ?_ ?_ _; rotate_left; (first | exact Nat.le_refl _ | (simp; done) | (dsimp only; omega))) | (with_reducible refine Below.alloc ?_ ?_ _; rotate_left; (first | exact Nat.le_refl _ | omega | (simp [World.setCell]; omega)))))
set_option maxHeartbeats 2000000 in
theorem routesCode (a : Option Addr) (ms : List R) (cap : Nat) (b : Option Addr) (ns : List R) (capb : Nat) (w : World) (hm : ms.length ≤ 1048576) (hn : ns.length ≤ 1048576) (hr : RM w a ms) (hr' : RM w b ns) :
    Calls Tryd.prog 19 #[.slice a ms.length cap, .slice b ns.length capb] w fun e w' => e = .returned (.int .i64 (codeR2 ms ns)) ∧ Below w.heap.size w w' := by
  have HR := hide hr
  have HR' := hide hr'
  clear hr hr'
  by_cases hbig : (4096 : Int) < ms.length
  · rw [code2_long (.inl hbig)]
    go_enter Tryd.func19, Tryd.ntmps19
    go_wp2_with fail
    go_ret
    exact ⟨rfl, Below.refl _ _⟩
  by_cases hbig' : (4096 : Int) < ns.length
  · rw [code2_long (.inr hbig')]
    go_enter Tryd.func19, Tryd.ntmps19
    go_wp2_with fail
    go_ret
    exact ⟨rfl, Below.refl _ _⟩
  cases hs : rouB ms
  · rw [code2_bad hbig hbig' (.inl hs)]
    have HS := hide hs
    clear hs
    go_enter Tryd.func19, Tryd.ntmps19
    go_wp2_with fail
    refine (areRoutes _ ms cap _ hm (unhide HR)).mono ?_
    rintro e w1 ⟨rfl, b1⟩
    rw [unhide HS]
    have HB := hide b1
    clear b1
    go_wp2_with fail
    go_ret
    exact ⟨rfl, unhide HB⟩
  cases ht : rouB ns
  · rw [code2_bad hbig hbig' (.inr ht)]
    have HS := hide hs
    have HT := hide ht
    clear hs ht
    go_enter Tryd.func19, Tryd.ntmps19
    go_wp2_with fail
    refine (areRoutes _ ms cap _ hm (unhide HR)).mono ?_
    rintro e w1 ⟨rfl, b1⟩
    rw [unhide HS]
    have HB := hide b1
    clear b1
    go_wp2_with fail
    refine (areRoutes _ ns capb _ hn ((unhide HR').below (unhide HB))).mono ?_
    rintro e w2 ⟨rfl, b2⟩
    rw [unhide HT]
    have HB2 := hide ((unhide HB).trans (b2.mono (unhide HB).size))
    clear b2
    go_wp2_with fail
    go_ret
    exact ⟨rfl, unhide HB2⟩
  rw [code2_zero hs ht]
  have HS := hide hs
  have HT := hide ht
  clear hs ht
  go_enter Tryd.func19, Tryd.ntmps19
  go_wp2_with fail
  refine (areRoutes _ ms cap _ hm (unhide HR)).mono ?_
  rintro e w1 ⟨rfl, b1⟩
  rw [unhide HS]
  have HB := hide b1
  clear b1
  go_wp2_with fail
  refine (areRoutes _ ns capb _ hn ((unhide HR').below (unhide HB))).mono ?_
  rintro e w2 ⟨rfl, b2⟩
  rw [unhide HT]
  have HB2 := hide ((unhide HB).trans (b2.mono (unhide HB).size))
  clear b2
  go_wp2_with fail
  go_ret
  exact ⟨rfl, unhide HB2⟩
/-- The code of one list, as the program asks for it. -/
theorem routesCode1 (a : Option Addr) (ms : List R) (cap : Nat) (w : World) (hm : ms.length ≤ 1048576) (hr : RM w a ms) :
    Calls Tryd.prog 19 #[.slice a ms.length cap, .slice none 0 0] w fun e w' => e = .returned (.int .i64 (codeR ms)) ∧ Below w.heap.size w w' := by
  have := routesCode a ms cap none [] 0 w hm (by simp) hr (.inl rfl)
  rw [code2_nil] at this
  exact this
end Rw
end Go.Proofs.YtmlokaielemhaaaDoor
