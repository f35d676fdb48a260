/-
  A heap of ways: one is put in.
-/
import Derived.Test.YtjhhhmdhdnmejaaHepB
import Derived.Test.YtjhhhmdhdnmejaaRl
import Derived.Deep.AppendLies
namespace Go.Proofs.Ytjhhhmdhdnmejaa
open Go.ChangeShapes Go.WideShapes Go.ChangeAt Go.RowKit
set_option linter.unusedVariables false
set_option linter.unusedSimpArgs false
set_option maxRecDepth 100000
attribute [local go_sem ↓] Go.wp_at_zero Go.wp_at_succ
namespace Wd
open W1 Ro Rw
/-- append of one to a row of one's own, inside a region that draws its order: where it lies. -/
theorem wp_apL {o : Oper} {a : Act} {K : Act → World → Prop} {Q : Exit → Act → World → Prop} {w : World} {base d : Nat} {v : Value} {xs : List R} (hown : w.ownsRow base 62 4 v xs.length (flat xs)) (g off c : Nat) (m : R) (hr : RM w (some ⟨g, off, none⟩) [m]) (hlen : xs.length ≤ 4194303) (hbase : base ≤ w.heap.size)
    (s x : Operand) (ho : o.op = .call { callee := .builtin .append, args := #[s, x], argTypes := #[57, 57] }) (hd : o.dst = some d) (hs : a.eval s = v) (hx : a.eval x = .slice (some ⟨g, off, none⟩) 1 c)
    (h : ∀ g' cap w', w'.ownsRow base 62 4 (.slice (some ⟨g', 0, none⟩) (xs.length + 1) cap) (xs ++ [m]).length (flat (xs ++ [m])) → w.grownBy w' v.ownBlock → (v.ownBlock = some g' ∨ g' = w.heap.size) → K (a.put (some d) (.slice (some ⟨g', 0, none⟩) (xs.length + 1) cap)) w') : o.wp Try.prog a w K Q := by
  obtain ⟨i0, hi, hz0, hz1, hz2⟩ := infoR
  refine wp_append_lies w s x _ ho base 62 i0 _ 4 32 Try.underlying57 hi hz0 hz1 hz2 rfl (by decide) v xs.length (flat xs) hs hown ⟨g, off, none⟩ 1 c (flat [m]) hx (flat_len [m]) hr.cells (fun u hu => flat_one_cell hu) (by omega) (by unfold maxLen; omega) (by omega) hbase _ rfl (fun g' cap w' h1 h2 h3 h4 => ?_)
  rw [hd]
  refine h g' cap w' ?_ h2 h3
  rw [List.length_append, flat_append]; exact h1
theorem sBx {w : World} {b : Nat} {x : R} (h : Bx w b x) : Bx w b x ∧ w.cell? ⟨b, 0, none⟩ = some (.int .i64 x.ds) ∧ w.cell? ⟨b, 1, none⟩ = some (.int .i64 x.nx) ∧ w.cell? ⟨b, 2, none⟩ = some (.int .i64 x.co) ∧ w.cell? ⟨b, 3, none⟩ = some (.int .i64 x.hp) := ⟨h, h⟩
/-- The slice of a heap is written anew. -/
theorem hp_set {w : World} {p : Nat} {v v' : Value} {hs hs' : List R} (h : w.heap[p]? = some (.cells #[v, (Value.func (.func 92) #[] #[])] 128 (0, 0))) (ho : w.ownsRow (p + 1) 62 4 v' hs'.length (flat hs')) : HP (w.setCell ⟨p, 0, none⟩ v') p v' hs' := by
  refine ⟨heap_set v' h, ?_⟩
  refine ho.kept (row := some p) ⟨rfl, rfl, rfl, by simp [World.setCell], fun k hk hne => Below.heap_setCell _ _ _ _ (by simpa using hne)⟩ ?_
  cases hv : v'.ownBlock with
  | none => exact .inl rfl
  | some k => right; intro e; cases e; have := ho.lt p hv; omega
def sHP (w : World) (p g cap n i j : Nat) (x y : R) : Prop := w.cell? ⟨p, 0, none⟩ = some (.slice (some ⟨g, 0, none⟩) n cap) ∧ w.cell? ⟨p, 1, none⟩ = some (Value.func (.func 92) #[] #[]) ∧ At w g (i * 4) x ∧ At w g (j * 4) y
theorem sHP_of {w : World} {p g cap n : Nat} {hs : List R} {i j : Nat} (hn : hs.length = n) (h : HP w p (.slice (some ⟨g, 0, none⟩) n cap) hs) (hi : i < n) (hj : j < n) : sHP w p g cap n i j (at' hs i) (at' hs j) := by subst hn; exact ⟨h.c0, h.c1, h.at hi, h.at hj⟩
theorem sHPc {w : World} {p g cap n i j : Nat} {xa xn xc xh ya yn yc yh : Int} (h : sHP w p g cap n i j ⟨xa, xn, xc, xh⟩ ⟨ya, yn, yc, yh⟩) :
    sHP w p g cap n i j ⟨xa, xn, xc, xh⟩ ⟨ya, yn, yc, yh⟩ ∧ w.cell? ⟨p, 0, none⟩ = some (.slice (some ⟨g, 0, none⟩) n cap) ∧ w.cell? ⟨p, 1, none⟩ = some (Value.func (.func 92) #[] #[]) ∧ w.cell? ⟨g, i * 4, none⟩ = some (.int .i64 xa) ∧ w.cell? ⟨g, i * 4 + 1, none⟩ = some (.int .i64 xn) ∧ w.cell? ⟨g, i * 4 + 2, none⟩ = some (.int .i64 xc) ∧ w.cell? ⟨g, i * 4 + 3, none⟩ = some (.int .i64 xh) ∧ w.cell? ⟨g, j * 4, none⟩ = some (.int .i64 ya) ∧ w.cell? ⟨g, j * 4 + 1, none⟩ = some (.int .i64 yn) ∧ w.cell? ⟨g, j * 4 + 2, none⟩ = some (.int .i64 yc) ∧ w.cell? ⟨g, j * 4 + 3, none⟩ = some (.int .i64 yh) :=
  ⟨h, h.1, h.2.1, h.2.2.1.1, h.2.2.1.2.1, h.2.2.1.2.2.1, h.2.2.1.2.2.2, h.2.2.2.1, h.2.2.2.2.1, h.2.2.2.2.2.1, h.2.2.2.2.2.2⟩
theorem sHP.below {w w' : World} {p g cap n i j : Nat} {x y : R} (h : sHP w p g cap n i j x y) (hb : Below w.heap.size w w') : sHP w' p g cap n i j x y := by
  obtain ⟨h0, h1, h2, h3⟩ := h
  have hp : p < w.heap.size := World.block_lt_of_cell? _ _ h0
  exact ⟨(hb.cell (p := ⟨p, 0, none⟩) hp).trans h0, (hb.cell (p := ⟨p, 1, none⟩) hp).trans h1, h2.below hb, h3.below hb⟩
set_option maxHeartbeats 16000000 in
theorem push (p : Nat) (v : Value) (hs : List R) (x : R) (w : World) (h : HP w p v hs) (hh : Heap hs) (hl : hs.length ≤ 4096) :
    Calls Try.prog 93 #[.pointer (some ⟨p, 0, none⟩), x.value] w fun e w' => e = .returned (.tuple #[]) ∧ ∃ v' hs', HP w' p v' hs' ∧ Heap hs' ∧ hs'.length = hs.length + 1 ∧ (∀ y, y ∈ hs' ↔ y ∈ hs ∨ y = x) ∧ Frm p v w w' ∧ Nxt w v v' := by
  have HUS := hide (up_start hh x)
  have HPA := hide (h.below ((Below.refl _ _).alloc (Nat.le_refl _) (.cells #[.int .i64 x.ds, .int .i64 x.nx, .int .i64 x.co, .int .i64 x.hp] 62)))
  have HBX := hide (bx_new w x 62)
  have HPL := h.lt
  have HF1 : Hid (Frm p v w (w.alloc (.cells #[.int .i64 x.ds, .int .i64 x.nx, .int .i64 x.co, .int .i64 x.hp] 62))) := hide (Frm.of_below ((Below.refl _ _).alloc (Nat.le_refl _) _))
  have hnv0 : ∀ k, v.ownBlock = some k → k < w.heap.size := fun k hk => (h.2.lt k hk).2
  obtain ⟨a, cap0, rfl, hcap⟩ := h.slice
  have hnv : ∀ e : Nat, some w.heap.size = (Value.slice a hs.length cap0).ownBlock → False := fun _ e => by have := hnv0 _ e.symm; omega
  clear hh h hcap
  show Calls Try.prog 93 #[.pointer (some ⟨p, 0, none⟩), .agg #[.int .i64 x.ds, .int .i64 x.nx, .int .i64 x.co, .int .i64 x.hp]] w _
  go_enter Try.func93, Try.ntmps93
  go_wp2_with fail
  generalize hW : w.alloc (.cells #[.int .i64 x.ds, .int .i64 x.nx, .int .i64 x.co, .int .i64 x.hp] 62) = W0 at *
  have hsz0 : W0.heap.size = w.heap.size + 1 := by rw [← hW]; simp
  clear hW
  refine wp_region_noPanic ?_
  refine Rl.drew (S := fun w' => Bx w' w.heap.size x ∧ w'.cell? ⟨w.heap.size, 0, none⟩ = some (.int .i64 x.ds) ∧ w'.cell? ⟨w.heap.size, 1, none⟩ = some (.int .i64 x.nx) ∧ w'.cell? ⟨w.heap.size, 2, none⟩ = some (.int .i64 x.co) ∧ w'.cell? ⟨w.heap.size, 3, none⟩ = some (.int .i64 x.hp)) (T := fun w' => w'.cell? ⟨p, 0, none⟩ = some (.slice a hs.length cap0)) 10 (by kernel_rfl) ⟨sBx (unhide HBX), (unhide HPA).c0⟩ (fun hHeld => ?_)

  (refine Rl.tkS (k := 10) (i := 0) (d := 5) (v := ?_) rfl rfl (by kernel_rfl) (by kernel_rfl) (by kernel_rfl) rfl (fun _ _ _ h => h) (by rfl) ?_ (by assumption) ?_; rotate_left; (focus (intro w0 hSw; (try dsimp only at hSw); go_simp; (try with_reducible rfl))); (try simp only [Act.put, List.setIfInBounds_toArray, List.set_cons_zero, List.set_cons_succ]))
  (refine Rl.tkS (k := 10) (i := 1) (d := 6) (v := ?_) rfl rfl (by kernel_rfl) (by kernel_rfl) (by kernel_rfl) rfl (fun _ _ _ h => h) (by rfl) ?_ (by assumption) ?_; rotate_left; (focus (intro w0 hSw; (try dsimp only at hSw); go_simp; (try with_reducible rfl))); (try simp only [Act.put, List.setIfInBounds_toArray, List.set_cons_zero, List.set_cons_succ]))
  (refine Rl.tkS (k := 10) (i := 2) (d := 7) (v := ?_) rfl rfl (by kernel_rfl) (by kernel_rfl) (by kernel_rfl) rfl (fun _ _ _ h => h) (by rfl) ?_ (by assumption) ?_; rotate_left; (focus (intro w0 hSw; (try dsimp only at hSw); go_simp; (try with_reducible rfl))); (try simp only [Act.put, List.setIfInBounds_toArray, List.set_cons_zero, List.set_cons_succ]))
  (refine Rl.tkS (k := 10) (i := 3) (d := 8) (v := ?_) rfl rfl (by kernel_rfl) (by kernel_rfl) (by kernel_rfl) rfl (fun _ _ _ h => h) (by rfl) ?_ (by assumption) ?_; rotate_left; (focus (intro w0 hSw; (try dsimp only at hSw); go_simp; (try with_reducible rfl))); (try simp only [Act.put, List.setIfInBounds_toArray, List.set_cons_zero, List.set_cons_succ]))
  (refine Rl.tk (k := 10) (i := 4) (d := 9) (v := ?_) rfl rfl (by kernel_rfl) (by kernel_rfl) (by kernel_rfl) (by kernel_rfl) rfl (by kernel_rfl) (fun _ _ _ h => h) (by rfl) ?_ (by assumption) ?_; rotate_left; (focus (intro w0 hSw; (try dsimp only at hSw); go_simp; (try with_reducible rfl))); (try simp only [Act.put, List.setIfInBounds_toArray, List.set_cons_zero, List.set_cons_succ]))
  (refine Rl.tkS (k := 10) (i := 5) (d := 10) (v := ?_) rfl rfl (by kernel_rfl) (by kernel_rfl) (by kernel_rfl) rfl (fun _ _ _ h => h) (by rfl) ?_ (by assumption) ?_; rotate_left; (focus (intro w0 hSw; (try dsimp only at hSw); go_simp; (try with_reducible rfl))); (try simp only [Act.put, List.setIfInBounds_toArray, List.set_cons_zero, List.set_cons_succ]))
  (refine Rl.ready (rs := [6]) (by kernel_rfl) (by simp) ?_; refine Rl.AllReadyL.cons (o := _) rfl rfl (fun K hK => ?_) Rl.AllReadyL.nil; go_simp)
  have HBX2 : Hid (Bx (W0.alloc (.cells #[.int .i64 x.ds, .int .i64 x.nx, .int .i64 x.co, .int .i64 x.hp] 62)).drew w.heap.size x) := hide ((unhide HBX).below (((Below.refl _ _).alloc (Nat.le_refl _) _).drew))
  have HPA2 : Hid (HP (W0.alloc (.cells #[.int .i64 x.ds, .int .i64 x.nx, .int .i64 x.co, .int .i64 x.hp] 62)).drew p (.slice a hs.length cap0) hs) := hide ((unhide HPA).below (((Below.refl _ _).alloc (Nat.le_refl _) _).drew))
  have HRN : Hid (RM (W0.alloc (.cells #[.int .i64 x.ds, .int .i64 x.nx, .int .i64 x.co, .int .i64 x.hp] 62)).drew (some ⟨W0.heap.size, 0, none⟩) [x]) := hide (rm_new W0 x).drew
  have HF2 : Hid (Frm p (.slice a hs.length cap0) w (W0.alloc (.cells #[.int .i64 x.ds, .int .i64 x.nx, .int .i64 x.co, .int .i64 x.hp] 62)).drew) := hide ((unhide HF1).trans (Frm.of_below (((Below.refl _ _).alloc (Nat.le_refl _) _).drew)) (Nxt.refl _ _))
  have hsz1 : (W0.alloc (.cells #[.int .i64 x.ds, .int .i64 x.nx, .int .i64 x.co, .int .i64 x.hp] 62)).drew.heap.size = w.heap.size + 2 := by show (W0.alloc (.cells #[.int .i64 x.ds, .int .i64 x.nx, .int .i64 x.co, .int .i64 x.hp] 62)).heap.size = _; rw [World.size_alloc]; omega
  rw [hsz0] at HRN
  clear hHeld HBX HPA HF1
  refine hK.out _ _ ⟨sBx (unhide HBX2), (unhide HPA2).c0⟩ (fun hHeld => ?_)
  clear hK K
  (try simp only [Act.put, List.setIfInBounds_toArray, List.set_cons_zero, List.set_cons_succ])
  generalize hW : (W0.alloc (.cells #[.int .i64 x.ds, .int .i64 x.nx, .int .i64 x.co, .int .i64 x.hp] 62)).drew = W1 at *
  clear hW
  (refine Rl.ready (rs := [7]) (by kernel_rfl) (by simp) ?_; refine Rl.AllReadyL.cons (o := _) rfl rfl (fun K hK => ?_) Rl.AllReadyL.nil; rw [if_pos (by rfl)])
  refine wp_apL (unhide HPA2).2 _ 0 1 x (unhide HRN) (by omega) (by omega) _ _ rfl rfl rfl rfl ?_
  intro g cap w3 ho hg hv
  have hb3 : w3.heap[p]? = some (.cells #[.slice a hs.length cap0, (Value.func (.func 92) #[] #[])] 128 (0, 0)) := (hg.block p (by omega) (fun e => by have := (unhide HPA2).2.lt p e.symm; omega)).trans (unhide HPA2).1
  have HBX3 : Hid (Bx w3 w.heap.size x) := hide (by
    obtain ⟨x0, x1, x2, x3⟩ := unhide HBX2
    have hne : some w.heap.size ≠ (Value.slice a hs.length cap0).ownBlock := fun e => hnv 0 e
    exact ⟨hg.cell x0 hne, hg.cell x1 hne, hg.cell x2 hne, hg.cell x3 hne⟩)
  have c3 : w3.cell? ⟨p, 0, none⟩ = some (.slice a hs.length cap0) := by simp [World.cell?, hb3]
  have f3 : w3.frozen? ⟨p, 0, none⟩ = false := by simp [World.frozen?, hb3]
  have HN : Hid (HP (w3.setCell ⟨p, 0, none⟩ (.slice (some ⟨g, 0, none⟩) (hs.length + 1) cap)) p (.slice (some ⟨g, 0, none⟩) (hs.length + 1) cap) (hs ++ [x])) := hide (hp_set (hs := hs) hb3 ho)
  have HX : Hid (Nxt w (.slice a hs.length cap0) (.slice (some ⟨g, 0, none⟩) (hs.length + 1) cap)) := hide (by
    rcases hv with e | e
    · exact .inl e.symm
    · exact .inr (.inr ⟨g, rfl, by omega⟩))
  have HF3 : Hid (Frm p (.slice a hs.length cap0) w (w3.setCell ⟨p, 0, none⟩ (.slice (some ⟨g, 0, none⟩) (hs.length + 1) cap))) := hide ((unhide HF2).trans (v' := .slice a hs.length cap0) ⟨hg.os, hg.tape, hg.output, by simpa [World.setCell] using hg.size, fun k hk hkp hkv => (Below.heap_setCell _ _ _ _ hkp).trans (hg.block k hk hkv)⟩ (Nxt.refl _ _))
  have HBX4 : Hid (Bx (w3.setCell ⟨p, 0, none⟩ (.slice (some ⟨g, 0, none⟩) (hs.length + 1) cap)) w.heap.size x) := hide (by
    obtain ⟨x0, x1, x2, x3⟩ := unhide HBX3
    refine ⟨?_, ?_, ?_, ?_⟩ <;> (rw [World.cell?_setCell_other _ _ _ _ (by intro e; have := congrArg Addr.block e; dsimp only at this; omega)]; assumption))
  clear hHeld ho hg hv HRN HPA2 HF2 hb3
  refine hK.out _ _ ⟨sBx (unhide HBX3), c3⟩ (fun hHeld => ?_)
  clear hK K
  (try simp only [Act.put, List.setIfInBounds_toArray, List.set_cons_zero, List.set_cons_succ])
  (refine Rl.tkS (k := 10) (i := 8) (d := 13) (v := ?_) rfl rfl (by kernel_rfl) (by kernel_rfl) (by kernel_rfl) rfl (fun _ _ _ h => h) (by rfl) ?_ (by assumption) ?_; rotate_left; (focus (intro w0 hSw; (try dsimp only at hSw); go_simp; (try with_reducible rfl))); (try simp only [Act.put, List.setIfInBounds_toArray, List.set_cons_zero, List.set_cons_succ]))
  (refine Rl.tkS (k := 10) (i := 9) (d := 14) (v := ?_) rfl rfl (by kernel_rfl) (by kernel_rfl) (by kernel_rfl) rfl (fun _ _ _ h => h) (by rfl) ?_ (by assumption) ?_; rotate_left; (focus (intro w0 hSw; (try dsimp only at hSw); go_simp; (try with_reducible rfl))); (try simp only [Act.put, List.setIfInBounds_toArray, List.set_cons_zero, List.set_cons_succ]))
  (refine Rl.ready (rs := [10]) (by kernel_rfl) (by simp) ?_; refine Rl.AllReadyL.last (o := _) rfl (by kernel_rfl) (fun K hK => ?_); go_simp)
  clear hHeld
  refine hK.out _ _ (sBx (unhide HBX4)) (fun hHeld => ?_)
  clear hK K
  (try simp only [Act.put, List.setIfInBounds_toArray, List.set_cons_zero, List.set_cons_succ])
  refine Rl.done (by kernel_rfl) (NoPanic.normal ?_) _
  clear hHeld HBX2 HBX3 HBX4
  generalize hW4 : w3.setCell ⟨p, 0, none⟩ (.slice (some ⟨g, 0, none⟩) (hs.length + 1) cap) = W4 at *
  clear hW4 c3 f3
  have c4 := (unhide HN).c0
  have HLN : Hid ((hs ++ [x]).length = hs.length + 1) := hide (by simp)
  have HME : Hid (∀ y, y ∈ hs ++ [x] ↔ y ∈ hs ∨ y = x) := hide (fun y => by simp)
  go_wp2_with fail
  clear c4
  generalize hN : hs.length + 1 = n at *
  have HNN := hide hN
  have hn1 : hs.length < n := by omega
  have hn2 : n ≤ 4097 := by omega
  clear hN
  go_loopw [4] (fun iv wr => ∃ (j : Nat) (L : List R), iv = .int .i64 (j : Int) ∧ j < n ∧ Hid (L.length = n) ∧ Hid (HP wr p (.slice (some ⟨g, 0, none⟩) n cap) L) ∧ Hid (UpI L j) ∧ Hid (∀ y, y ∈ L ↔ y ∈ hs ∨ y = x) ∧ Hid (Frm p (.slice a hs.length cap0) w wr)) (fun iv _ => (intOf iv).toNat)
  case atStart => exact ⟨hs.length, hs ++ [x], by go_num, hn1, HLN, HN, HUS, HME, HF3⟩
  case round =>
    obtain ⟨i, L, rfl, hin, hLn, hHP, hUP, hME, hFR⟩ := hrel
    by_cases hi0 : i = 0
    · subst hi0
      have HG : Hid (Heap L) := hide (up_done (unhide hUP) (.inl rfl))
      have hz : ¬ (0 : Int) < ((0 : Nat) : Int) := by simp
      go_wp2_with fail
      refine wp_region_noPanic ?_
      refine wp_region_held_drew (S := fun w' => True) (by kernel_rfl) trivial (fun hHeld => ?_)
      (refine Rg.tk (i := 0) (d := 21) (v := ?_) rfl rfl (by kernel_rfl) (by kernel_rfl) (by kernel_rfl) (fun _ _ _ h => h) (by rfl) ?_ (by assumption) ?_; rotate_left; (focus (intro w0 hSw; (try dsimp only at hSw); go_simp; (try with_reducible rfl))); (try simp only [Act.put, List.setIfInBounds_toArray, List.set_cons_zero, List.set_cons_succ]))
      (refine Rg.tk (i := 1) (d := 22) (v := ?_) rfl rfl (by kernel_rfl) (by kernel_rfl) (by kernel_rfl) (fun _ _ _ h => h) (by rfl) ?_ (by assumption) ?_; rotate_left; (focus (intro w0 hSw; (try dsimp only at hSw); go_simp; (try with_reducible rfl))); (try simp only [Act.put, List.setIfInBounds_toArray, List.set_cons_zero, List.set_cons_succ]))
      (refine Rg.tk (i := 2) (d := 23) (v := ?_) rfl rfl (by kernel_rfl) (by kernel_rfl) (by kernel_rfl) (fun _ _ _ h => h) (by rfl) ?_ (by assumption) ?_; rotate_left; (focus (intro w0 hSw; (try dsimp only at hSw); go_simp; (try with_reducible rfl))); (try simp only [Act.put, List.setIfInBounds_toArray, List.set_cons_zero, List.set_cons_succ]))
      (refine Rg.sk (i := 3) (d := 24) rfl rfl (by kernel_rfl) (by kernel_rfl) (by kernel_rfl) (fun _ _ _ h => h) (by first | kernel_rfl | rfl) (by assumption) ?_; (try simp only [Act.put, List.setIfInBounds_toArray, List.set_cons_zero, List.set_cons_succ]))
      (refine Rg.sk (i := 4) (d := 25) rfl rfl (by kernel_rfl) (by kernel_rfl) (by kernel_rfl) (fun _ _ _ h => h) (by first | kernel_rfl | rfl) (by assumption) ?_; (try simp only [Act.put, List.setIfInBounds_toArray, List.set_cons_zero, List.set_cons_succ]))
      (refine Rg.sk (i := 5) (d := 26) rfl rfl (by kernel_rfl) (by kernel_rfl) (by kernel_rfl) (fun _ _ _ h => h) (by first | kernel_rfl | rfl) (by assumption) ?_; (try simp only [Act.put, List.setIfInBounds_toArray, List.set_cons_zero, List.set_cons_succ]))
      (refine Rg.sk (i := 6) (d := 27) rfl rfl (by kernel_rfl) (by kernel_rfl) (by kernel_rfl) (fun _ _ _ h => h) (by first | kernel_rfl | rfl) (by assumption) ?_; (try simp only [Act.put, List.setIfInBounds_toArray, List.set_cons_zero, List.set_cons_succ]))
      (refine Rg.sk (i := 7) (d := 28) rfl rfl (by kernel_rfl) (by kernel_rfl) (by kernel_rfl) (fun _ _ _ h => h) (by first | kernel_rfl | rfl) (by assumption) ?_; (try simp only [Act.put, List.setIfInBounds_toArray, List.set_cons_zero, List.set_cons_succ]))
      (refine Rg.sk (i := 8) (d := 29) rfl rfl (by kernel_rfl) (by kernel_rfl) (by kernel_rfl) (fun _ _ _ h => h) (by first | kernel_rfl | rfl) (by assumption) ?_; (try simp only [Act.put, List.setIfInBounds_toArray, List.set_cons_zero, List.set_cons_succ]))
      (refine Rg.sk (i := 9) (d := 30) rfl rfl (by kernel_rfl) (by kernel_rfl) (by kernel_rfl) (fun _ _ _ h => h) (by first | kernel_rfl | rfl) (by assumption) ?_; (try simp only [Act.put, List.setIfInBounds_toArray, List.set_cons_zero, List.set_cons_succ]))
      (refine Rg.sk (i := 10) (d := 31) rfl rfl (by kernel_rfl) (by kernel_rfl) (by kernel_rfl) (fun _ _ _ h => h) (by first | kernel_rfl | rfl) (by assumption) ?_; (try simp only [Act.put, List.setIfInBounds_toArray, List.set_cons_zero, List.set_cons_succ]))
      (refine Rg.sk (i := 11) (d := 32) rfl rfl (by kernel_rfl) (by kernel_rfl) (by kernel_rfl) (fun _ _ _ h => h) (by first | kernel_rfl | rfl) (by assumption) ?_; (try simp only [Act.put, List.setIfInBounds_toArray, List.set_cons_zero, List.set_cons_succ]))
      (refine Rg.sk (i := 12) (d := 33) rfl rfl (by kernel_rfl) (by kernel_rfl) (by kernel_rfl) (fun _ _ _ h => h) (by first | kernel_rfl | rfl) (by assumption) ?_; (try simp only [Act.put, List.setIfInBounds_toArray, List.set_cons_zero, List.set_cons_succ]))
      (refine Rg.sk (i := 13) (d := 34) rfl rfl (by kernel_rfl) (by kernel_rfl) (by kernel_rfl) (fun _ _ _ h => h) (by first | kernel_rfl | rfl) (by assumption) ?_; (try simp only [Act.put, List.setIfInBounds_toArray, List.set_cons_zero, List.set_cons_succ]))
      (refine Rg.sk (i := 14) (d := 35) rfl rfl (by kernel_rfl) (by kernel_rfl) (by kernel_rfl) (fun _ _ _ h => h) (by first | kernel_rfl | rfl) (by assumption) ?_; (try simp only [Act.put, List.setIfInBounds_toArray, List.set_cons_zero, List.set_cons_succ]))
      (refine Rg.sk (i := 15) (d := 36) rfl rfl (by kernel_rfl) (by kernel_rfl) (by kernel_rfl) (fun _ _ _ h => h) (by first | kernel_rfl | rfl) (by assumption) ?_; (try simp only [Act.put, List.setIfInBounds_toArray, List.set_cons_zero, List.set_cons_succ]))
      (refine Rg.sk (i := 16) (d := 37) rfl rfl (by kernel_rfl) (by kernel_rfl) (by kernel_rfl) (fun _ _ _ h => h) (by first | kernel_rfl | rfl) (by assumption) ?_; (try simp only [Act.put, List.setIfInBounds_toArray, List.set_cons_zero, List.set_cons_succ]))
      (refine Rg.sk (i := 17) (d := 38) rfl rfl (by kernel_rfl) (by kernel_rfl) (by kernel_rfl) (fun _ _ _ h => h) (by first | kernel_rfl | rfl) (by assumption) ?_; (try simp only [Act.put, List.setIfInBounds_toArray, List.set_cons_zero, List.set_cons_succ]))
      (refine Rg.sk (i := 18) (d := 39) rfl rfl (by kernel_rfl) (by kernel_rfl) (by kernel_rfl) (fun _ _ _ h => h) (by first | kernel_rfl | rfl) (by assumption) ?_; (try simp only [Act.put, List.setIfInBounds_toArray, List.set_cons_zero, List.set_cons_succ]))
      (refine Rg.sk (i := 19) (d := 40) rfl rfl (by kernel_rfl) (by kernel_rfl) (by kernel_rfl) (fun _ _ _ h => h) (by first | kernel_rfl | rfl) (by assumption) ?_; (try simp only [Act.put, List.setIfInBounds_toArray, List.set_cons_zero, List.set_cons_succ]))
      (refine Rg.sk (i := 20) (d := 41) rfl rfl (by kernel_rfl) (by kernel_rfl) (by kernel_rfl) (fun _ _ _ h => h) (by first | kernel_rfl | rfl) (by assumption) ?_; (try simp only [Act.put, List.setIfInBounds_toArray, List.set_cons_zero, List.set_cons_succ]))
      (refine Rg.sk (i := 21) (d := 42) rfl rfl (by kernel_rfl) (by kernel_rfl) (by kernel_rfl) (fun _ _ _ h => h) (by first | kernel_rfl | rfl) (by assumption) ?_; (try simp only [Act.put, List.setIfInBounds_toArray, List.set_cons_zero, List.set_cons_succ]))
      (refine Rg.sk (i := 22) (d := 43) rfl rfl (by kernel_rfl) (by kernel_rfl) (by kernel_rfl) (fun _ _ _ h => h) (by first | kernel_rfl | rfl) (by assumption) ?_; (try simp only [Act.put, List.setIfInBounds_toArray, List.set_cons_zero, List.set_cons_succ]))
      (refine Rg.sk (i := 23) (d := 44) rfl rfl (by kernel_rfl) (by kernel_rfl) (by kernel_rfl) (fun _ _ _ h => h) (by first | kernel_rfl | rfl) (by assumption) ?_; (try simp only [Act.put, List.setIfInBounds_toArray, List.set_cons_zero, List.set_cons_succ]))
      (refine Rg.tk (i := 24) (d := 45) (v := ?_) rfl rfl (by kernel_rfl) (by kernel_rfl) (by kernel_rfl) (fun _ _ _ h => h) (by rfl) ?_ (by assumption) ?_; rotate_left; (focus (intro w0 hSw; (try dsimp only at hSw); go_simp; (try with_reducible rfl))); (try simp only [Act.put, List.setIfInBounds_toArray, List.set_cons_zero, List.set_cons_succ]))
      refine wpAnyH_done (by kernel_rfl) (NoPanic.normal ?_) _
      clear hHeld
      go_wp2_with fail
      refine bodyPost_end (v := .tuple #[]) (by simp [results, Try.results93, go_sem]) rfl ⟨rfl, _, L, (unhide hHP).drew, unhide HG, by rw [unhide hLn, unhide HNN], unhide hME, (unhide hFR).drew, unhide HX⟩
    · obtain ⟨t, hit⟩ : ∃ t, i = t + 1 := ⟨i - 1, by omega⟩
      have e1 : (i : Int) - 1 = (t : Int) := by omega
      obtain ⟨q, hq⟩ : ∃ q, q = (i - 1) / 2 := ⟨_, rfl⟩
      have e2 : (t : Int).tdiv 2 = (q : Int) := by rw [Int.tdiv_eq_ediv_of_nonneg (by omega)]; omega
      have t0 : (0 : Int) ≤ (t : Int) := by omega
      have q0 : (0 : Int) ≤ (q : Int) := by omega
      have i0 : (0 : Int) ≤ (i : Int) := by omega
      have wt : IntKind.i64.wrap (t : Int) = (t : Int) := by rw [IntKind.wrap_i64]; omega
      have wq : IntKind.i64.wrap (q : Int) = (q : Int) := by rw [IntKind.wrap_i64]; omega
      have i1 : (0 : Int) < (i : Int) := by omega
      have i3 : 0 < i := by omega
      have i2 : (i : Int) < (n : Int) := by omega
      have q2 : (q : Int) < (n : Int) := by omega
      have hqn : q < n := by omega
      have hqi : q < i := by omega
      have HSP := hide (sHP_of (unhide hLn) (unhide hHP) hin hqn)
      have HDN : Hid (btB (at' L i) (at' L q) = false → Heap L) := hide (fun hb => up_done (unhide hUP) (.inr (by rw [← hq]; exact btB_no.1 hb)))
      have HST : Hid (btB (at' L i) (at' L q) = true → UpI (swp L i q) q) := hide (fun hb => by
        have := up_step (unhide hUP) (by omega) (by rw [unhide hLn]; exact hin) (by rw [← hq]; exact btB_iff.1 hb)
        rw [← hq] at this; exact this)
      clear hit hq
      obtain ⟨X, hX⟩ : ∃ X, at' L i = X := ⟨_, rfl⟩
      obtain ⟨Y, hY⟩ : ∃ Y, at' L q = Y := ⟨_, rfl⟩
      rw [hX, hY] at HSP HDN HST
      clear hX hY
      obtain ⟨B, hB⟩ : ∃ B, btB X Y = B := ⟨_, rfl⟩
      rw [hB] at HDN HST
      have HBT := hide hB
      clear hB
      obtain ⟨xa, xn, xc, xh⟩ := X
      obtain ⟨ya, yn, yc, yh⟩ := Y
      go_wp2_with fail
      refine wp_region_noPanic ?_
      refine wp_region_held_drew (S := fun w' => sHP w' p g cap n i q ⟨xa, xn, xc, xh⟩ ⟨ya, yn, yc, yh⟩ ∧ w'.cell? ⟨p, 0, none⟩ = some (.slice (some ⟨g, 0, none⟩) n cap) ∧ w'.cell? ⟨p, 1, none⟩ = some (Value.func (.func 92) #[] #[]) ∧ w'.cell? ⟨g, i * 4, none⟩ = some (.int .i64 xa) ∧ w'.cell? ⟨g, i * 4 + 1, none⟩ = some (.int .i64 xn) ∧ w'.cell? ⟨g, i * 4 + 2, none⟩ = some (.int .i64 xc) ∧ w'.cell? ⟨g, i * 4 + 3, none⟩ = some (.int .i64 xh) ∧ w'.cell? ⟨g, q * 4, none⟩ = some (.int .i64 ya) ∧ w'.cell? ⟨g, q * 4 + 1, none⟩ = some (.int .i64 yn) ∧ w'.cell? ⟨g, q * 4 + 2, none⟩ = some (.int .i64 yc) ∧ w'.cell? ⟨g, q * 4 + 3, none⟩ = some (.int .i64 yh)) (by kernel_rfl) (sHPc (unhide HSP)) (fun hHeld => ?_)
      (refine Rg.tk (i := 0) (d := 21) (v := ?_) rfl rfl (by kernel_rfl) (by kernel_rfl) (by kernel_rfl) (fun _ _ _ h => h) (by rfl) ?_ (by assumption) ?_; rotate_left; (focus (intro w0 hSw; (try dsimp only at hSw); go_simp; (try with_reducible rfl))); (try simp only [Act.put, List.setIfInBounds_toArray, List.set_cons_zero, List.set_cons_succ]))
      (refine Rg.tk (i := 1) (d := 22) (v := ?_) rfl rfl (by kernel_rfl) (by kernel_rfl) (by kernel_rfl) (fun _ _ _ h => h) (by rfl) ?_ (by assumption) ?_; rotate_left; (focus (intro w0 hSw; (try dsimp only at hSw); go_simp; (try with_reducible rfl))); (try simp only [Act.put, List.setIfInBounds_toArray, List.set_cons_zero, List.set_cons_succ]))
      (refine Rg.tk (i := 2) (d := 23) (v := ?_) rfl rfl (by kernel_rfl) (by kernel_rfl) (by kernel_rfl) (fun _ _ _ h => h) (by rfl) ?_ (by assumption) ?_; rotate_left; (focus (intro w0 hSw; (try dsimp only at hSw); go_simp; (try with_reducible rfl))); (try simp only [Act.put, List.setIfInBounds_toArray, List.set_cons_zero, List.set_cons_succ]))
      (refine Rg.tk (i := 3) (d := 24) (v := ?_) rfl rfl (by kernel_rfl) (by kernel_rfl) (by kernel_rfl) (fun _ _ _ h => h) (by rfl) ?_ (by assumption) ?_; rotate_left; (focus (intro w0 hSw; (try dsimp only at hSw); go_simp; (try with_reducible rfl))); (try simp only [Act.put, List.setIfInBounds_toArray, List.set_cons_zero, List.set_cons_succ]))
      (refine Rg.tk (i := 4) (d := 25) (v := ?_) rfl rfl (by kernel_rfl) (by kernel_rfl) (by kernel_rfl) (fun _ _ _ h => h) (by rfl) ?_ (by assumption) ?_; rotate_left; (focus (intro w0 hSw; (try dsimp only at hSw); go_simp; (try with_reducible rfl))); (try simp only [Act.put, List.setIfInBounds_toArray, List.set_cons_zero, List.set_cons_succ]))
      (refine Rg.tk (i := 5) (d := 26) (v := ?_) rfl rfl (by kernel_rfl) (by kernel_rfl) (by kernel_rfl) (fun _ _ _ h => h) (by rfl) ?_ (by assumption) ?_; rotate_left; (focus (intro w0 hSw; (try dsimp only at hSw); go_simp; (try with_reducible rfl))); (try simp only [Act.put, List.setIfInBounds_toArray, List.set_cons_zero, List.set_cons_succ]))
      (refine Rg.tk (i := 6) (d := 27) (v := ?_) rfl rfl (by kernel_rfl) (by kernel_rfl) (by kernel_rfl) (fun _ _ _ h => h) (by rfl) ?_ (by assumption) ?_; rotate_left; (focus (intro w0 hSw; (try dsimp only at hSw); go_simp; (try with_reducible rfl))); (try simp only [Act.put, List.setIfInBounds_toArray, List.set_cons_zero, List.set_cons_succ]))
      (refine Rg.tk (i := 7) (d := 28) (v := ?_) rfl rfl (by kernel_rfl) (by kernel_rfl) (by kernel_rfl) (fun _ _ _ h => h) (by rfl) ?_ (by assumption) ?_; rotate_left; (focus (intro w0 hSw; (try dsimp only at hSw); go_simp; (try with_reducible rfl))); (try simp only [Act.put, List.setIfInBounds_toArray, List.set_cons_zero, List.set_cons_succ]))
      (refine Rg.tk (i := 8) (d := 29) (v := ?_) rfl rfl (by kernel_rfl) (by kernel_rfl) (by kernel_rfl) (fun _ _ _ h => h) (by rfl) ?_ (by assumption) ?_; rotate_left; (focus (intro w0 hSw; (try dsimp only at hSw); go_simp; (try with_reducible rfl))); (try simp only [Act.put, List.setIfInBounds_toArray, List.set_cons_zero, List.set_cons_succ]))
      (refine Rg.tk (i := 9) (d := 30) (v := ?_) rfl rfl (by kernel_rfl) (by kernel_rfl) (by kernel_rfl) (fun _ _ _ h => h) (by rfl) ?_ (by assumption) ?_; rotate_left; (focus (intro w0 hSw; (try dsimp only at hSw); go_simp; (try with_reducible rfl))); (try simp only [Act.put, List.setIfInBounds_toArray, List.set_cons_zero, List.set_cons_succ]))
      (refine Rg.tk (i := 10) (d := 31) (v := ?_) rfl rfl (by kernel_rfl) (by kernel_rfl) (by kernel_rfl) (fun _ _ _ h => h) (by rfl) ?_ (by assumption) ?_; rotate_left; (focus (intro w0 hSw; (try dsimp only at hSw); go_simp; (try with_reducible rfl))); (try simp only [Act.put, List.setIfInBounds_toArray, List.set_cons_zero, List.set_cons_succ]))
      (refine Rg.tk (i := 11) (d := 32) (v := ?_) rfl rfl (by kernel_rfl) (by kernel_rfl) (by kernel_rfl) (fun _ _ _ h => h) (by rfl) ?_ (by assumption) ?_; rotate_left; (focus (intro w0 hSw; (try dsimp only at hSw); go_simp; (try with_reducible rfl))); (try simp only [Act.put, List.setIfInBounds_toArray, List.set_cons_zero, List.set_cons_succ]))
      (refine Rg.tk (i := 12) (d := 33) (v := ?_) rfl rfl (by kernel_rfl) (by kernel_rfl) (by kernel_rfl) (fun _ _ _ h => h) (by rfl) ?_ (by assumption) ?_; rotate_left; (focus (intro w0 hSw; (try dsimp only at hSw); go_simp; (try with_reducible rfl))); (try simp only [Act.put, List.setIfInBounds_toArray, List.set_cons_zero, List.set_cons_succ]))
      (refine Rg.tk (i := 13) (d := 34) (v := ?_) rfl rfl (by kernel_rfl) (by kernel_rfl) (by kernel_rfl) (fun _ _ _ h => h) (by rfl) ?_ (by assumption) ?_; rotate_left; (focus (intro w0 hSw; (try dsimp only at hSw); go_simp; (try with_reducible rfl))); (try simp only [Act.put, List.setIfInBounds_toArray, List.set_cons_zero, List.set_cons_succ]))
      (refine Rg.tk (i := 14) (d := 35) (v := ?_) rfl rfl (by kernel_rfl) (by kernel_rfl) (by kernel_rfl) (fun _ _ _ h => h) (by rfl) ?_ (by assumption) ?_; rotate_left; (focus (intro w0 hSw; (try dsimp only at hSw); go_simp; (try with_reducible rfl))); (try simp only [Act.put, List.setIfInBounds_toArray, List.set_cons_zero, List.set_cons_succ]))
      (refine Rg.tk (i := 15) (d := 36) (v := ?_) rfl rfl (by kernel_rfl) (by kernel_rfl) (by kernel_rfl) (fun _ _ _ h => h) (by rfl) ?_ (by assumption) ?_; rotate_left; (focus (intro w0 hSw; (try dsimp only at hSw); go_simp; (try with_reducible rfl))); (try simp only [Act.put, List.setIfInBounds_toArray, List.set_cons_zero, List.set_cons_succ]))
      (refine Rg.tk (i := 16) (d := 37) (v := ?_) rfl rfl (by kernel_rfl) (by kernel_rfl) (by kernel_rfl) (fun _ _ _ h => h) (by rfl) ?_ (by assumption) ?_; rotate_left; (focus (intro w0 hSw; (try dsimp only at hSw); go_simp; (try with_reducible rfl))); (try simp only [Act.put, List.setIfInBounds_toArray, List.set_cons_zero, List.set_cons_succ]))
      (refine Rg.tk (i := 17) (d := 38) (v := ?_) rfl rfl (by kernel_rfl) (by kernel_rfl) (by kernel_rfl) (fun _ _ _ h => h) (by rfl) ?_ (by assumption) ?_; rotate_left; (focus (intro w0 hSw; (try dsimp only at hSw); go_simp; (try with_reducible rfl))); (try simp only [Act.put, List.setIfInBounds_toArray, List.set_cons_zero, List.set_cons_succ]))
      (refine Rg.tk (i := 18) (d := 39) (v := ?_) rfl rfl (by kernel_rfl) (by kernel_rfl) (by kernel_rfl) (fun _ _ _ h => h) (by rfl) ?_ (by assumption) ?_; rotate_left; (focus (intro w0 hSw; (try dsimp only at hSw); go_simp; (try with_reducible rfl))); (try simp only [Act.put, List.setIfInBounds_toArray, List.set_cons_zero, List.set_cons_succ]))
      (refine Rg.tk (i := 19) (d := 40) (v := ?_) rfl rfl (by kernel_rfl) (by kernel_rfl) (by kernel_rfl) (fun _ _ _ h => h) (by rfl) ?_ (by assumption) ?_; rotate_left; (focus (intro w0 hSw; (try dsimp only at hSw); go_simp; (try with_reducible rfl))); (try simp only [Act.put, List.setIfInBounds_toArray, List.set_cons_zero, List.set_cons_succ]))
      (refine Rg.tk (i := 20) (d := 41) (v := ?_) rfl rfl (by kernel_rfl) (by kernel_rfl) (by kernel_rfl) (fun _ _ _ h => h) (by rfl) ?_ (by assumption) ?_; rotate_left; (focus (intro w0 hSw; (try dsimp only at hSw); go_simp; (try with_reducible rfl))); (try simp only [Act.put, List.setIfInBounds_toArray, List.set_cons_zero, List.set_cons_succ]))
      (refine Rg.tk (i := 21) (d := 42) (v := ?_) rfl rfl (by kernel_rfl) (by kernel_rfl) (by kernel_rfl) (fun _ _ _ h => h) (by rfl) ?_ (by assumption) ?_; rotate_left; (focus (intro w0 hSw; (try dsimp only at hSw); go_simp; (try with_reducible rfl))); (try simp only [Act.put, List.setIfInBounds_toArray, List.set_cons_zero, List.set_cons_succ]))
      (refine Rg.tk (i := 22) (d := 43) (v := ?_) rfl rfl (by kernel_rfl) (by kernel_rfl) (by kernel_rfl) (fun _ _ _ h => h) (by rfl) ?_ (by assumption) ?_; rotate_left; (focus (intro w0 hSw; (try dsimp only at hSw); go_simp; (try with_reducible rfl))); (try simp only [Act.put, List.setIfInBounds_toArray, List.set_cons_zero, List.set_cons_succ]))
      (refine wpAnyH_ready (rs := [23]) (by kernel_rfl) (by simp) ?_; refine AllReadyH.cons (o := _) rfl (fun K hK => ?_) AllReadyH.nil; go_simp)
      refine (isBetter ⟨xa, xn, xc, xh⟩ ⟨ya, yn, yc, yh⟩ _).mono ?_
      rintro e w5 ⟨rfl, b5_⟩
      rw [unhide HBT]
      have b5 : Below wr.heap.size wr w5 := (Below.refl _ _).drew.trans b5_
      have HSP5 := hide ((unhide HSP).below b5)
      have HP5 := hide ((unhide hHP).below b5)
      have HF5 := hide ((unhide hFR).trans (Frm.of_below b5 (v := .slice (some ⟨g, 0, none⟩) n cap)) (unhide HX))
      clear b5 b5_ hHeld HSP hHP hFR
      refine hK.out _ _ (sHPc (unhide HSP5)) (fun hHeld => ?_)
      clear hK K
      (try simp only [Act.put, List.setIfInBounds_toArray, List.set_cons_zero, List.set_cons_succ])
      (refine Rg.tk (i := 24) (d := 45) (v := ?_) rfl rfl (by kernel_rfl) (by kernel_rfl) (by kernel_rfl) (fun _ _ _ h => h) (by rfl) ?_ (by assumption) ?_; rotate_left; (focus (intro w0 hSw; (try dsimp only at hSw); go_simp; (try with_reducible rfl))); (try simp only [Act.put, List.setIfInBounds_toArray, List.set_cons_zero, List.set_cons_succ]))
      refine wpAnyH_done (by kernel_rfl) (NoPanic.normal ?_) _
      clear hHeld
      cases B
      · have HG := hide (unhide HDN rfl)
        go_wp2_with fail
        refine bodyPost_end (v := .tuple #[]) (by simp [results, Try.results93, go_sem]) rfl ⟨rfl, _, L, unhide HP5, unhide HG, by rw [unhide hLn, unhide HNN], unhide hME, unhide HF5, unhide HX⟩
      · have HG := hide (unhide HST rfl)
        go_wp2_with fail
        refine (swap p _ L i q _ (unhide HP5) (by rw [unhide hLn]; exact hin) (by rw [unhide hLn]; exact hqn)).mono ?_
        rintro e w6 ⟨rfl, h6, f6⟩
        have HP6 := hide h6
        have HF6 := hide ((unhide HF5).trans f6 (unhide HX))
        have HL6 : Hid ((swp L i q).length = n) := hide (by rw [swp_len]; exact unhide hLn)
        have HM6 : Hid (∀ y, y ∈ swp L i q ↔ y ∈ hs ∨ y = x) := hide (fun y => by rw [swp_mem (by rw [unhide hLn]; exact hin) (by rw [unhide hLn]; exact hqn)]; exact unhide hME y)
        clear h6 f6
        go_wp2_with fail
        go_roundw
        case rel => exact ⟨q, swp L i q, rfl, hqn, HL6, HP6, HG, HM6, HF6⟩
        case measure => simp [intOf]; omega
end Wd
end Go.Proofs.Ytjhhhmdhdnmejaa
