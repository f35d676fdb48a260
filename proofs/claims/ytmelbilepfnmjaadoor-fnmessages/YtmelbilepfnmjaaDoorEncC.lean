/-
  The program's EncodeMessage of a right message: its answer with its capacity.
-/
import Derived.Test.YtmelbilepfnmjaaDoorEnc
namespace Go.Proofs.YtmelbilepfnmjaaDoor
open Go.ChangeShapes Go.WideShapes Go.ChangeAt Go.RowKit
set_option linter.unusedVariables false
attribute [local go_sem ↓] Go.wp_at_zero Go.wp_at_succ
namespace En
open W1 Nu By Ms Mi

set_option maxRecDepth 100000 in
set_option maxHeartbeats 2000000 in
theorem implEncC (ty og sq hl hp : Int) (body : ByteArray) (w : World) (hk : okB ty og sq hl hp body = true) :
    Calls Tryd.prog 5 #[.agg #[.int .i64 ty, .int .i64 og, .int .i64 sq, .int .i64 hl, .int .i64 hp, .string body]] w fun e w' => ∃ cap g, e = .returned (.tuple #[.slice (some ⟨g, 0, none⟩) (enc ty og sq hl hp body).length cap, .int .i64 0]) ∧ Below w.heap.size w w' ∧
      Reads w' (some ⟨g, 0, none⟩) (enc ty og sq hl hp body) ∧ (enc ty og sq hl hp body).length ≤ cap ∧ cap ≤ maxLen := by
  obtain ⟨t0, t1, o0, o1, s0, s1, l0, l1, p0, p1, bz⟩ := okB_bounds hk
  have HK := hide hk
  go_enter Tryd.func5, Tryd.ntmps5
  go_wp2_with fail
  refine (implOK ty og sq hl hp body _).mono ?_
  rintro e w1 ⟨rfl, b1⟩
  rw [hk]
  clear hk
  have hw8 : IntKind.i64.wrap (8 + (body.size : Int)) = 8 + body.size := wrapS (by omega) (by omega)
  obtain ⟨c1, f1⟩ := bcell b1
  have hsz1 : w.heap.size + 1 ≤ w1.heap.size := by have := b1.size; simp at this; omega
  have k0 : w1.cell? ⟨w.heap.size, 0, none⟩ = some (.int .i64 ty) := by rw [c1 _ _ (by simp)]; simp
  have k1 : w1.cell? ⟨w.heap.size, 1, none⟩ = some (.int .i64 og) := by rw [c1 _ _ (by simp)]; simp
  have k2 : w1.cell? ⟨w.heap.size, 2, none⟩ = some (.int .i64 sq) := by rw [c1 _ _ (by simp)]; simp
  have k3 : w1.cell? ⟨w.heap.size, 3, none⟩ = some (.int .i64 hl) := by rw [c1 _ _ (by simp)]; simp
  have k4 : w1.cell? ⟨w.heap.size, 4, none⟩ = some (.int .i64 hp) := by rw [c1 _ _ (by simp)]; simp
  have k5 : w1.cell? ⟨w.heap.size, 5, none⟩ = some (.string body) := by rw [c1 _ _ (by simp)]; simp
  clear c1 f1
  obtain ⟨i0, hi, hz0, hz1, hz2⟩ := info5
  obtain ⟨wm, hmk, hmown, hmgrow⟩ := run_make_own (P := Tryd.prog) w1.drew w1.heap.size 22 5 i0 (.int .u8 0) 1 Tryd.underlying22 hi hz0 hz1 .i64 .i64 (8 + body.size) (by rw [hz2]; omega) (by unfold maxLen; omega) (Nat.le_refl _)
  have ecast : ((8 + body.size : Nat) : Int) = 8 + (body.size : Int) := by omega
  rw [ecast] at hmk
  clear ecast hi hz0 hz1 hz2
  have HO := hide hmown
  clear hmown
  have hbx : ∀ j v, w1.cell? ⟨w.heap.size, j, none⟩ = some v → wm.cell? ⟨w.heap.size, j, none⟩ = some v := fun j v h => hmgrow.cell (a := ⟨w.heap.size, j, none⟩) h (by simp)
  have m0 := hbx _ _ k0
  have m1 := hbx _ _ k1
  have m2 := hbx _ _ k2
  have m3 := hbx _ _ k3
  have m4 := hbx _ _ k4
  have m5 := hbx _ _ k5
  clear hbx
  have hszm : w1.heap.size ≤ wm.heap.size := hmgrow.size
  have HB := hide b1
  have HG := hide hmgrow
  clear b1 hmgrow
  go_wp2_with fail
  go_region_held3 (fun w' => w'.cell? ⟨w.heap.size, 0, none⟩ = some (.int .i64 ty) ∧ w'.cell? ⟨w.heap.size, 1, none⟩ = some (.int .i64 og) ∧ w'.cell? ⟨w.heap.size, 2, none⟩ = some (.int .i64 sq) ∧ w'.cell? ⟨w.heap.size, 3, none⟩ = some (.int .i64 hl) ∧ w'.cell? ⟨w.heap.size, 4, none⟩ = some (.int .i64 hp) ∧ w'.cell? ⟨w.heap.size, 5, none⟩ = some (.string body))
    (first | go_keep | (go_split_ands; refine ⟨?_, ?_, ?_, ?_, ?_, ?_⟩ <;> (rw [(unhide GR).cell_far _ (by show w.heap.size < _; omega) (by simp [Value.ownBlock]; omega)]; assumption)))
    (first | (go_at_call 14; refine (appendMessage w1.heap.size _ 0 [] ty og sq hl hp body _ ?_ ?_ ?_ ?_ ?_ ?_ ?_ ?_ ?_ ?_ ?_ ?_ ?_ ?_).mono ?_; exact unhide HO; omega; omega; omega; omega; omega; omega; omega; omega; omega; omega; omega; omega; omega; rintro e w2 ⟨v2, rfl, own2, grow2⟩; have OW := hide own2; have GR := hide grow2; clear own2 grow2))
  obtain ⟨g2, cap2, rfl, hg2, hlt2⟩ := (unhide OW).form (by omega)
  have hcap : 0 + 8 + body.size ≤ cap2 ∧ cap2 ≤ maxLen := by
    rcases (unhide OW).2 with ⟨e, h0⟩ | ⟨g', cap', cur, hv, _, _, h1, h2, _⟩
    · omega
    · cases hv; exact ⟨h1, h2⟩
  have he : enc ty og sq hl hp body = (msgStr ty og sq hl hp body).data.toList := by unfold enc; rw [unhide HK]; rfl
  have hc : code ty og sq hl hp body = 0 := by unfold code; rw [unhide HK]; rfl
  have hlen : (enc ty og sq hl hp body).length = 0 + 8 + body.size := by rw [he, Array.length_toList]; have := msgStr_size ty og sq hl hp body; show (msgStr ty og sq hl hp body).size = _; omega
  have ho := unhide OW
  rw [List.nil_append, cells_eq (by omega) (by omega) (by omega) (by omega) s0 s1 l0 l1 p0 p1 bz, ← he] at ho
  obtain ⟨hr, hop⟩ := reads_of_own hlen.symm ho
  have hbel : Below w.heap.size w w2 := by
    have h1 : Below w.heap.size w w1 := ((Below.refl _ _).alloc (Nat.le_refl _) _).trans ((unhide HB).mono (by simp))
    refine (h1.drew.grown (unhide HG) (by show w.heap.size ≤ w1.heap.size; omega) (fun k hk => by cases hk)).grown (unhide GR) (by omega) (fun k hk => ?_)
    simp [Value.ownBlock] at hk
    omega
  have Hlen := hide hlen
  have Hc := hide hc
  have Hr := hide hr
  have Hop := hide hop
  have Hbel := hide hbel
  clear hr hop hbel ho he hlen hc
  go_wp2
  go_ret2
  exact ⟨cap2, g2, by rw [unhide Hlen]; rfl, unhide Hbel, unhide Hr, by rw [unhide Hlen]; exact hcap.1, hcap.2⟩
end En
end Go.Proofs.YtmelbilepfnmjaaDoor
