/-
  Contracts of EncodeMessage, the program's and the model's: for every message the bytes that it has, or none and the code; in memory of their own.
-/
import Derived.Test.YtmelbilepfnmjaaDoorMsgS
import Derived.Test.YtmelbilepfnmjaaDoorMsgI
import Derived.Test.YtmelbilepfnmjaaDoorBytes
import Derived.Lib.ConvBytes
import Derived.Deep.RegionHeld3
import Derived.Deep.DrawnRows
namespace Go.Proofs.YtmelbilepfnmjaaDoor
open Go.ChangeShapes Go.WideShapes Go.ChangeAt Go.RowKit
set_option linter.unusedVariables false
attribute [local go_sem ↓] Go.wp_at_zero Go.wp_at_succ
namespace En
open W1 Nu By Ms Mi
/-- The bytes of a right message, else none. -/
def enc (ty og sq hl hp : Int) (body : ByteArray) : List UInt8 := if okB ty og sq hl hp body = true then (msgStr ty og sq hl hp body).data.toList else []
def code (ty og sq hl hp : Int) (body : ByteArray) : Int := if okB ty og sq hl hp body = true then 0 else 1
theorem okB_bounds {ty og sq hl hp : Int} {body : ByteArray} (h : okB ty og sq hl hp body = true) : 1 ≤ ty ∧ ty ≤ 2 ∧ 1 ≤ og ∧ og ≤ 8 ∧ 0 ≤ sq ∧ sq ≤ 65535 ∧ 0 ≤ hl ∧ hl ≤ 255 ∧ 0 ≤ hp ∧ hp ≤ 255 ∧ (body.size : Int) ≤ 120 := by
  simp [okB, inB] at h
  omega

theorem u8n {n : Int} (h0 : 0 ≤ n) (h1 : n ≤ 255) : ((UInt8.ofNat n.toNat).toNat : Int) = n := by
  rw [UInt8.toNat_ofNat']; omega
theorem cells_eq {ty og sq hl hp : Int} {body : ByteArray} (t0 : 0 ≤ ty) (t1 : ty ≤ 255) (o0 : 0 ≤ og) (o1 : og ≤ 255) (s0 : 0 ≤ sq) (s1 : sq ≤ 65535) (l0 : 0 ≤ hl) (l1 : hl ≤ 255) (p0 : 0 ≤ hp) (p1 : hp ≤ 255) (b1 : (body.size : Int) ≤ 120) :
    ([.int .u8 ty, .int .u8 ((8 + (body.size : Int)) / 256), .int .u8 ((8 + (body.size : Int)) % 256), .int .u8 og, .int .u8 (sq / 256), .int .u8 (sq % 256), .int .u8 hl, .int .u8 hp] ++ Lib.strCells body : List Value) = (msgStr ty og sq hl hp body).data.toList.map fun b => Value.int .u8 b.toNat := by
  rw [msgStr_data, List.map_append]
  congr 1
  simp only [head, List.map_cons, List.map_nil]
  rw [u8n t0 t1, u8n (n := (8 + (body.size : Int)) / 256) (by omega) (by omega), u8n (n := (8 + (body.size : Int)) % 256) (by omega) (by omega), u8n o0 o1, u8n (n := sq / 256) (by omega) (by omega), u8n (n := sq % 256) (by omega) (by omega), u8n l0 l1, u8n p0 p1]
theorem reads_of_own {w : World} {base g cap n : Nat} {bs : List UInt8} (hn : n = bs.length) (h : w.ownsRow base 5 1 (.slice (some ⟨g, 0, none⟩) n cap) n (bs.map fun b => Value.int .u8 b.toNat)) :
    Reads w (some ⟨g, 0, none⟩) bs ∧ Opn w (some ⟨g, 0, none⟩) g bs.length := by
  subst hn
  have hc : ∀ i, i < bs.length → w.cell? ⟨g, 0 + i, none⟩ = some (.int .u8 (bs.getD i 0).toNat) := by
    intro i hi
    rw [Nat.zero_add, h.cellAt i (by omega), List.getElem?_map, List.getElem?_eq_getElem hi]
    simp [List.getD, List.getElem?_eq_getElem hi]
  refine ⟨.inr ⟨g, 0, rfl, hc⟩, .inr ⟨0, rfl, fun i hi => ⟨by rw [hc i hi]; rfl, ?_⟩⟩⟩
  rw [Nat.zero_add]; exact h.frozenAt i

set_option maxRecDepth 100000 in
set_option maxHeartbeats 2000000 in
theorem implEnc (ty og sq hl hp : Int) (body : ByteArray) (w : World) :
    Calls Tryd.prog 5 #[.agg #[.int .i64 ty, .int .i64 og, .int .i64 sq, .int .i64 hl, .int .i64 hp, .string body]] w fun e w' => ∃ a cap g, e = .returned (.tuple #[.slice a (enc ty og sq hl hp body).length cap, .int .i64 (code ty og sq hl hp body)]) ∧ Below w.heap.size w w' ∧
      Reads w' a (enc ty og sq hl hp body) ∧ w.heap.size ≤ g ∧ Opn w' a g (enc ty og sq hl hp body).length := by
  cases hk : okB ty og sq hl hp body
  · have he : enc ty og sq hl hp body = [] := by unfold enc; rw [hk]; rfl
    have hc : code ty og sq hl hp body = 1 := by unfold code; rw [hk]; rfl
    rw [he, hc]
    clear he hc
    go_enter Tryd.func5, Tryd.ntmps5
    go_wp2_with fail
    refine (implOK ty og sq hl hp body _).mono ?_
    rintro e w1 ⟨rfl, b1⟩
    rw [hk]
    go_wp2_with fail
    go_ret2
    exact ⟨none, 0, w.heap.size, rfl, ((Below.refl _ _).alloc (Nat.le_refl _) _).trans (b1.mono (by simp)), .inl rfl, Nat.le_refl _, .inl rfl⟩
  · obtain ⟨t0, t1, o0, o1, s0, s1, l0, l1, p0, p1, bz⟩ := okB_bounds hk
    have HK := hide hk
    go_enter Tryd.func5, Tryd.ntmps5
    go_wp2_with fail
    refine (implOK ty og sq hl hp body _).mono ?_
    rintro e w1 ⟨rfl, b1⟩
    rw [hk]
    clear hk
    have hw8 : IntKind.i64.wrap (8 + (body.size : Int)) = 8 + body.size := wrapS (by omega) (by omega)
    obtain ⟨c1, f1⟩ := bcell b1
    have hsz1 : w.heap.size + 1 ≤ w1.heap.size := by have := b1.size; simp at this; omega
    have k0 : w1.cell? ⟨w.heap.size, 0, none⟩ = some (.int .i64 ty) := by rw [c1 _ _ (by simp)]; simp
    have k1 : w1.cell? ⟨w.heap.size, 1, none⟩ = some (.int .i64 og) := by rw [c1 _ _ (by simp)]; simp
    have k2 : w1.cell? ⟨w.heap.size, 2, none⟩ = some (.int .i64 sq) := by rw [c1 _ _ (by simp)]; simp
    have k3 : w1.cell? ⟨w.heap.size, 3, none⟩ = some (.int .i64 hl) := by rw [c1 _ _ (by simp)]; simp
    have k4 : w1.cell? ⟨w.heap.size, 4, none⟩ = some (.int .i64 hp) := by rw [c1 _ _ (by simp)]; simp
    have k5 : w1.cell? ⟨w.heap.size, 5, none⟩ = some (.string body) := by rw [c1 _ _ (by simp)]; simp
    clear c1 f1
    obtain ⟨i0, hi, hz0, hz1, hz2⟩ := info5
    obtain ⟨wm, hmk, hmown, hmgrow⟩ := run_make_own (P := Tryd.prog) w1.drew w1.heap.size 22 5 i0 (.int .u8 0) 1 Tryd.underlying22 hi hz0 hz1 .i64 .i64 (8 + body.size) (by rw [hz2]; omega) (by unfold maxLen; omega) (Nat.le_refl _)
    have ecast : ((8 + body.size : Nat) : Int) = 8 + (body.size : Int) := by omega
    rw [ecast] at hmk
    clear ecast hi hz0 hz1 hz2
    have HO := hide hmown
    clear hmown
    have hbx : ∀ j v, w1.cell? ⟨w.heap.size, j, none⟩ = some v → wm.cell? ⟨w.heap.size, j, none⟩ = some v := fun j v h => hmgrow.cell (a := ⟨w.heap.size, j, none⟩) h (by simp)
    have m0 := hbx _ _ k0
    have m1 := hbx _ _ k1
    have m2 := hbx _ _ k2
    have m3 := hbx _ _ k3
    have m4 := hbx _ _ k4
    have m5 := hbx _ _ k5
    clear hbx
    have hszm : w1.heap.size ≤ wm.heap.size := hmgrow.size
    have HB := hide b1
    have HG := hide hmgrow
    clear b1 hmgrow
    go_wp2_with fail
    go_region_held3 (fun w' => w'.cell? ⟨w.heap.size, 0, none⟩ = some (.int .i64 ty) ∧ w'.cell? ⟨w.heap.size, 1, none⟩ = some (.int .i64 og) ∧ w'.cell? ⟨w.heap.size, 2, none⟩ = some (.int .i64 sq) ∧ w'.cell? ⟨w.heap.size, 3, none⟩ = some (.int .i64 hl) ∧ w'.cell? ⟨w.heap.size, 4, none⟩ = some (.int .i64 hp) ∧ w'.cell? ⟨w.heap.size, 5, none⟩ = some (.string body))
      (first | go_keep | (go_split_ands; refine ⟨?_, ?_, ?_, ?_, ?_, ?_⟩ <;> (rw [(unhide GR).cell_far _ (by show w.heap.size < _; omega) (by simp [Value.ownBlock]; omega)]; assumption)))
      (first | (go_at_call 14; refine (appendMessage w1.heap.size _ 0 [] ty og sq hl hp body _ ?_ ?_ ?_ ?_ ?_ ?_ ?_ ?_ ?_ ?_ ?_ ?_ ?_ ?_).mono ?_; exact unhide HO; omega; omega; omega; omega; omega; omega; omega; omega; omega; omega; omega; omega; omega; rintro e w2 ⟨v2, rfl, own2, grow2⟩; have OW := hide own2; have GR := hide grow2; clear own2 grow2))
    obtain ⟨g2, cap2, rfl, hg2, hlt2⟩ := (unhide OW).form (by omega)
    have he : enc ty og sq hl hp body = (msgStr ty og sq hl hp body).data.toList := by unfold enc; rw [unhide HK]; rfl
    have hc : code ty og sq hl hp body = 0 := by unfold code; rw [unhide HK]; rfl
    have hlen : (enc ty og sq hl hp body).length = 0 + 8 + body.size := by rw [he, Array.length_toList]; have := msgStr_size ty og sq hl hp body; show (msgStr ty og sq hl hp body).size = _; omega
    have ho := unhide OW
    rw [List.nil_append, cells_eq (by omega) (by omega) (by omega) (by omega) s0 s1 l0 l1 p0 p1 bz, ← he] at ho
    obtain ⟨hr, hop⟩ := reads_of_own hlen.symm ho
    have hbel : Below w.heap.size w w2 := by
      have h1 : Below w.heap.size w w1 := ((Below.refl _ _).alloc (Nat.le_refl _) _).trans ((unhide HB).mono (by simp))
      refine (h1.drew.grown (unhide HG) (by show w.heap.size ≤ w1.heap.size; omega) (fun k hk => by cases hk)).grown (unhide GR) (by omega) (fun k hk => ?_)
      simp [Value.ownBlock] at hk
      omega
    have Hlen := hide hlen
    have Hc := hide hc
    have Hr := hide hr
    have Hop := hide hop
    have Hbel := hide hbel
    clear hr hop hbel ho he hlen hc
    go_wp2
    go_ret2
    exact ⟨some ⟨g2, 0, none⟩, cap2, g2, by rw [unhide Hlen, unhide Hc]; rfl, unhide Hbel, unhide Hr, by omega, unhide Hop⟩

theorem below_bytes (w : World) (e : TypeId) (s : ByteArray) : Below w.heap.size w (Lib.bytesWorld w e s) :=
  ⟨rfl, rfl, rfl, by rw [Lib.bytesWorld_size]; omega, fun k hk => Lib.bytesWorld_at_old w e s k hk⟩
set_option maxHeartbeats 2000000 in
theorem specEnc (ty og sq hl hp : Int) (body : ByteArray) (w : World) :
    Calls Tryd.prog 6 #[.agg #[.int .i64 ty, .int .i64 og, .int .i64 sq, .int .i64 hl, .int .i64 hp, .string body]] w fun e w' => ∃ a cap, e = .returned (.tuple #[.slice a (enc ty og sq hl hp body).length cap, .int .i64 (code ty og sq hl hp body)]) ∧ Below w.heap.size w w' ∧
      Reads w' a (enc ty og sq hl hp body) := by
  cases hk : okB ty og sq hl hp body
  · have he : enc ty og sq hl hp body = [] := by unfold enc; rw [hk]; rfl
    have hc : code ty og sq hl hp body = 1 := by unfold code; rw [hk]; rfl
    rw [he, hc]
    clear he hc
    go_enter Tryd.func6, Tryd.ntmps6
    go_wp2_with fail
    refine (specOK ty og sq hl hp body _).mono ?_
    rintro e w1 ⟨rfl, b1⟩
    rw [hk]
    go_wp2_with fail
    go_ret2
    have hb : Below w.heap.size w w1 := ((Below.refl _ _).alloc (Nat.le_refl _) _).trans (b1.mono (by simp))
    exact ⟨_, _, rfl, hb.alloc hb.size _, .inl rfl⟩
  · obtain ⟨t0, t1, o0, o1, s0, s1, l0, l1, p0, p1, bz⟩ := okB_bounds hk
    have he : enc ty og sq hl hp body = (msgStr ty og sq hl hp body).data.toList := by unfold enc; rw [hk]; rfl
    have hc : code ty og sq hl hp body = 0 := by unfold code; rw [hk]; rfl
    have hlen : (enc ty og sq hl hp body).length = (msgStr ty og sq hl hp body).size := by rw [he, Array.length_toList]; rfl
    rw [hlen, hc]
    have HE := hide he
    have HL := hide hlen
    clear he hc hlen
    go_enter Tryd.func6, Tryd.ntmps6
    go_wp2_with fail
    refine (specOK ty og sq hl hp body _).mono ?_
    rintro e w1 ⟨rfl, b1⟩
    rw [hk]
    clear hk
    obtain ⟨c1, f1⟩ := bcell b1
    have hsz1 : w.heap.size + 1 ≤ w1.heap.size := by have := b1.size; simp at this; omega
    go_wp2_with fail
    refine (l01Message ty og sq hl hp body _ (by omega) (by omega) (by omega) (by omega) s0 s1 l0 l1 p0 p1 bz).mono ?_
    rintro e w2 ⟨rfl, b2⟩
    have B2 := b1.trans (b2.mono b1.size)
    clear c1 f1
    generalize hS : msgStr ty og sq hl hp body = S at *
    have HS := hide hS
    clear hS
    have hconv := Lib.run_convert_string_bytes (P := Tryd.prog) w2 9 22 5 S Tryd.underlying9 Tryd.underlying22 Tryd.underlying5
    go_wp2_with fail
    go_ret2
    have hb : Below w.heap.size w w2 := ((Below.refl _ _).alloc (Nat.le_refl _) _).trans (B2.mono (by simp))
    refine ⟨some ⟨w2.heap.size, 0, none⟩, grownCap w2 S.size 0 5, by rw [unhide HS]; rfl, hb.trans ((below_bytes w2 5 S).mono hb.size), .inr ⟨w2.heap.size, 0, rfl, fun i hi => ?_⟩⟩
    rw [unhide HE] at hi ⊢
    rw [Nat.zero_add, Lib.bytesWorld_cell w2 5 S i (by simpa using hi)]
end En
end Go.Proofs.YtmelbilepfnmjaaDoor
