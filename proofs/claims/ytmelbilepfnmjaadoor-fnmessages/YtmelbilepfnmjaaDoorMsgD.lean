/-
  Contracts: a drawn text, a drawn message: a right one, whatever the source has.
-/
import Derived.Test.YtmelbilepfnmjaaDoorDrw
import Derived.Test.YtmelbilepfnmjaaDoorU8
import Derived.Test.YtmelbilepfnmjaaDoorRg
import Derived.Test.YtmelbilepfnmjaaDoorEnc
import Derived.Lib.ConvBytes
import Derived.Deep.RegionHeld3
import Derived.Deep.DrawnRows
namespace Go.Proofs.YtmelbilepfnmjaaDoor
open Go.ChangeShapes Go.WideShapes Go.ChangeAt Go.RowKit
set_option linter.unusedVariables false
set_option linter.unusedSimpArgs false
attribute [local go_sem ↓] Go.wp_at_zero Go.wp_at_succ
namespace Md
open W1 By Sr Dw
theorem own_other8 {p : Nat} {w w' : World} {base : Nat} {v : Value} {n : Nat} {xs : List Value} (h : w.ownsRow base 5 1 v n xs) (hb : w.grownBy w' (some p)) (hp : p < base) : w'.ownsRow base 5 1 v n xs := by
  refine h.kept (row := some p) hb ?_
  cases hv : v.ownBlock with
  | none => exact .inl rfl
  | some k =>
    refine .inr (fun e => ?_)
    have := (h.lt k hv).1
    have := Option.some.inj e
    omega
theorem cells8 {w : World} {base g cap : Nat} {zs : List Int} (h : w.ownsRow base 5 1 (.slice (some ⟨g, 0, none⟩) zs.length cap) zs.length (U8.fl zs)) : ∀ i, i < zs.length → w.cell? ⟨g, 0 + i, none⟩ = some (.int .u8 (zs.getD i 0)) := by
  intro i hi
  rw [Nat.zero_add, h.cellAt i (by omega)]
  unfold U8.fl
  rw [List.getElem?_map, List.getElem?_eq_getElem hi, List.getD_eq_getElem?_getD, List.getElem?_eq_getElem hi]; rfl
theorem wpAnyH_strong {P : Program} {ops : Array Oper} {Q : Exit → Act → World → Prop} {md : Region.Mode} {S S' : World → Prop} (hi : ∀ w, S' w → S w) :
    ∀ {fuel : Nat} {listed : Array Bool} {a : Act} {w : World}, wpAnyH P md ops Q S' fuel listed a w → wpAnyH P md ops Q S fuel listed a w
  | 0, _, _, _, h => h
  | fuel + 1, _, _, _, h => ⟨h.1, fun i hh => wpOp_mono (fun _ _ h' => ⟨hi _ h'.1, wpAnyH_strong hi h'.2⟩) (h.2 i hh)⟩
set_option maxRecDepth 100000 in
set_option maxHeartbeats 1000000 in
theorem drawSome (p : Nat) (a : Option Addr) (bs : List UInt8) (cap n k : Nat) (w : World) (hk : k ≤ 8) (hn : n ≤ 1099511600000) (hm : bs.length ≤ 1099511627776) (hs : Src w p a bs cap n) :
    Calls Tryd.prog 26 #[.pointer (some ⟨p, 0, none⟩), .int .i64 k] w fun e w' => ∃ body : ByteArray, e = .returned (.string body) ∧ body.size = k ∧ w.grownBy w' (some p) ∧ Src w' p a bs cap (n + 24) := by
  have hp := src_lt hs
  have RL : Hid (bs ≠ [] → ∀ g off, a = some ⟨g, off, none⟩ → g < w.heap.size) := hide (fun e0 g off e => reads_lt hs.rd e0 e)
  have S0 := hide (src_below hs ((Below.refl _ _).alloc (Nat.le_refl _) (.cells #[] 5)))
  have G0 : Hid (w.grownBy (w.alloc (.cells #[] 5)) (some p)) := hide (but_alloc (but_refl _ _) _)
  have O0 : Hid ((w.alloc (.cells #[] 5)).ownsRow w.heap.size 5 1 (.slice (some ⟨w.heap.size, 0, none⟩) 0 0) ([] : List Int).length (U8.fl [])) := hide (World.ownsRow_made w #[] 0 (Nat.le_refl _) (Nat.zero_le _) (by simp))
  clear hs
  go_enter Tryd.func26, Tryd.ntmps26
  go_wp2_with fail
  generalize hW : w.alloc (.cells #[] 5) = W0 at *
  clear hW
  go_loopw [5, 6] (fun v i wr => ∃ (j : Nat) (zs : List Int) (g c : Nat), j ≤ k ∧ i = .int .i64 j ∧ v = .slice (some ⟨g, 0, none⟩) zs.length c ∧ zs.length = j ∧ Hid (wr.ownsRow w.heap.size 5 1 (.slice (some ⟨g, 0, none⟩) zs.length c) zs.length (U8.fl zs)) ∧ Hid (w.grownBy wr (some p)) ∧ Hid (Src wr p a bs cap (n + 3 * j))) (fun _ i _ => k - (intOf i).toNat)
  case atStart => exact ⟨0, [], w.heap.size, 0, by omega, rfl, rfl, rfl, O0, G0, S0⟩
  case round =>
    obtain ⟨j, zs, g, c, hj, rfl, rfl, hzl, how, hgr, hsr⟩ := hrel
    have HZL := hide hzl
    clear hzl
    by_cases hlt : (j : Int) < (k : Int)
    · go_wp2_with fail
      refine (next p a bs cap (n + 3 * j) 256 _ (by omega) (by omega) (by omega) hm (unhide hsr)).mono ?_
      rintro e w1 ⟨r, rfl, hr, wr1, s1⟩
      have hu : IntKind.u8.wrap (r : Int) = (r : Int) := IntWalk.u8_in _ (by omega)
      have G1 := hide (but_alloc (but_trans (unhide hgr) (but_wrote wr1)) (.cells #[.int .u8 (r : Int)] 5))
      have S1 := hide (src_below s1 ((Below.refl _ _).alloc (Nat.le_refl _) (.cells #[.int .u8 (r : Int)] 5)))
      have O1 := hide ((own_other8 (unhide how) (but_wrote wr1) hp).alloc (.cells #[.int .u8 (r : Int)] 5))
      have R1 := hide (U8.r8_new w1 [(r : Int)] #[.int .u8 (r : Int)] rfl)
      have hs1 : w.heap.size ≤ w1.heap.size := by have := (unhide hgr).size; have := wr1.size; omega
      clear wr1 s1 how hgr hsr
      go_wp2_with (at_builtin; refine U8.wpList_ap (unhide O1) w1.heap.size 0 1 1 [(r : Int)] rfl (unhide R1) (by have := unhide HZL; simp; omega) (by simp; omega) rfl _ _ rfl rfl rfl ?_; intro v2 w2 o2 g2; (obtain ⟨gq, cq, rfl, _, _⟩ := o2.form (by simp)); have O2 := hide o2; have G2 := hide (but_own (unhide G1) g2 (fun k hk => ((unhide O1).lt k hk).1)); have S2 := hide (src_grown (unhide S1) g2 (fun e => by have := ((unhide O1).lt p e.symm).1; omega) (fun e0 g off e e1 => by have := unhide RL e0 g off e; have := ((unhide O1).lt g e1.symm).1; omega)); clear o2 g2)
      have hzl2 : (zs ++ [(r : Int)]).length = j + 1 := by rw [List.length_append, unhide HZL]; rfl
      generalize zs ++ [(r : Int)] = zs' at *
      go_roundw
      case rel => exact ⟨j + 1, zs', gq, cq, by omega, by go_num, by rw [hzl2, unhide HZL], hzl2, O2, G2, hide ((unhide S2).mono (by omega))⟩
      case measure => simp [intOf]; omega
    · obtain rfl : j = k := by omega
      have hconv := run_convert_bytes_arg (P := Tryd.prog) wr 22 5 Tryd.underlying22 Tryd.underlying5 g 0 _ c zs rfl (cells8 (unhide how)) 9 Tryd.underlying9
      clear how
      go_wp2_with fail
      go_ret
      exact ⟨_, rfl, by rw [strOfNums_size]; exact unhide HZL, unhide hgr, (unhide hsr).mono (by omega)⟩
def MV (w : World) (b : Nat) : Prop := w.heap[b]? = some (.cells #[.int .i64 0, .int .i64 0, .int .i64 0, .int .i64 0, .int .i64 0, .string ⟨#[]⟩] 24 (0, 0))
theorem MV.cells {w : World} {b : Nat} (h : MV w b) : (w.cell? ⟨b, 0, none⟩ = some (.int .i64 0) ∧ w.cell? ⟨b, 1, none⟩ = some (.int .i64 0) ∧ w.cell? ⟨b, 2, none⟩ = some (.int .i64 0)) ∧ w.cell? ⟨b, 3, none⟩ = some (.int .i64 0) ∧ w.cell? ⟨b, 4, none⟩ = some (.int .i64 0) ∧ w.cell? ⟨b, 5, none⟩ = some (.string ⟨#[]⟩) := by
  unfold MV at h; refine ⟨⟨?_, ?_, ?_⟩, ?_, ?_, ?_⟩ <;> simp [World.cell?, h]
theorem MV.free {w : World} {b : Nat} (h : MV w b) (i : Nat) : w.frozen? ⟨b, i, none⟩ = false := by unfold MV at h; simp [World.frozen?, h]
theorem MV.lt {w : World} {b : Nat} (h : MV w b) : b < w.heap.size := lt_of_block h
theorem MV.but {w w' : World} {b p : Nat} (h : MV w b) (hg : w.grownBy w' (some p)) (hne : b ≠ p) : MV w' b := (hg.block b h.lt (by simpa using hne)).trans h
theorem msg_ok {ty og hl hp bl : Nat} {sq : Int} {body : ByteArray} (h1 : ty < 2) (h2 : 1 ≤ og ∧ og ≤ 8) (h3 : 0 ≤ sq ∧ sq ≤ 65535) (h4 : hl < 9) (h5 : hp < 4) (h6 : body.size = bl) (h7 : bl < 9) : okB (1 + (ty : Int)) (og : Int) sq (hl : Int) (hp : Int) body = true := by
  unfold okB inB
  rw [decide_eq_true (by omega), decide_eq_true (by omega), decide_eq_true (by omega), decide_eq_true (by omega), decide_eq_true (by omega), decide_eq_true (by omega), decide_eq_true (by omega), decide_eq_true (by omega), decide_eq_true (by omega), decide_eq_true (by omega), decide_eq_true (by omega)]; rfl
theorem _root_.Go.World.grownBy.cell_at {w w' : World} {b p : Nat} (hg : w.grownBy w' (some p)) (hne : b ≠ p) (hlt : b < w.heap.size) (o : Nat) : w'.cell? ⟨b, o, none⟩ = w.cell? ⟨b, o, none⟩ :=
  World.cell?_of_block (a := ⟨b, o, none⟩) (hg.block b hlt (by simpa using hne))
theorem litLt {w : World} {b : Nat} {x y : Value} (h : ∀ o, w.cell? ⟨b, o, none⟩ = (#[x, y] : Array Value)[o]?) : b < w.heap.size := World.block_lt_of_cell? (u := x) _ _ (h 0)
theorem litSix {w : World} {b r : Nat} {x y v0 v1 v2 v3 v4 v5 : Value} (h : ∀ o, w.cell? ⟨b, o, none⟩ = (#[x, y] : Array Value)[o]?) (hne : b ≠ r) : ∀ o, ((((((w.setCell ⟨r, 0, none⟩ v0).setCell ⟨r, 1, none⟩ v1).setCell ⟨r, 2, none⟩ v2).setCell ⟨r, 3, none⟩ v3).setCell ⟨r, 4, none⟩ v4).setCell ⟨r, 5, none⟩ v5).cell? ⟨b, o, none⟩ = (#[x, y] : Array Value)[o]? := fun o => by
  rw [World.cell?_setCell_far _ _ _ _ (fun e => hne e.symm), World.cell?_setCell_far _ _ _ _ (fun e => hne e.symm), World.cell?_setCell_far _ _ _ _ (fun e => hne e.symm), World.cell?_setCell_far _ _ _ _ (fun e => hne e.symm), World.cell?_setCell_far _ _ _ _ (fun e => hne e.symm), World.cell?_setCell_far _ _ _ _ (fun e => hne e.symm)]
  exact h o
set_option maxRecDepth 100000 in
set_option maxHeartbeats 4000000 in
theorem drawMessage (p : Nat) (a : Option Addr) (bs : List UInt8) (cap n : Nat) (w : World) (hn : n ≤ 1099511500000) (hm : bs.length ≤ 1099511627776) (hs : Src w p a bs cap n) :
    Calls Tryd.prog 13 #[.pointer (some ⟨p, 0, none⟩)] w fun e w' => ∃ (ty og sq hl hp : Int) (body : ByteArray), e = .returned (.agg #[.int .i64 ty, .int .i64 og, .int .i64 sq, .int .i64 hl, .int .i64 hp, .string body]) ∧ okB ty og sq hl hp body = true ∧ w.grownBy w' (some p) := by
  have hp := src_lt hs
  have S0 := hide (src_blocks (w' := (w.alloc (.cells #[.int .i64 0, .int .i64 0, .int .i64 0, .int .i64 0, .int .i64 0, .string ⟨#[]⟩] 24)).drew) (src_below hs ((Below.refl _ _).alloc (Nat.le_refl _) (.cells #[.int .i64 0, .int .i64 0, .int .i64 0, .int .i64 0, .int .i64 0, .string ⟨#[]⟩] 24))) rfl (fun _ _ _ _ => rfl))
  have G0 : Hid (w.grownBy (w.alloc (.cells #[.int .i64 0, .int .i64 0, .int .i64 0, .int .i64 0, .int .i64 0, .string ⟨#[]⟩] 24)).drew (some p)) := hide (by have h := but_alloc (but_refl w p) (.cells #[.int .i64 0, .int .i64 0, .int .i64 0, .int .i64 0, .int .i64 0, .string ⟨#[]⟩] 24); exact ⟨h.os, h.tape, h.output, h.size, h.block⟩)
  have T0 : Hid (MV (w.alloc (.cells #[.int .i64 0, .int .i64 0, .int .i64 0, .int .i64 0, .int .i64 0, .string ⟨#[]⟩] 24)).drew w.heap.size) := hide (heap_alloc_new w (.cells #[.int .i64 0, .int .i64 0, .int .i64 0, .int .i64 0, .int .i64 0, .string ⟨#[]⟩] 24))
  clear hs
  go_enter Tryd.func13, Tryd.ntmps13
  go_wp2_with fail
  refine wp_region_noPanic ?_
  refine wp_region_held_drew (S := fun _ => True) (by kernel_rfl) trivial (fun hHeld => ?_)
  generalize hV : (w.alloc (.cells #[.int .i64 0, .int .i64 0, .int .i64 0, .int .i64 0, .int .i64 0, .string ⟨#[]⟩] 24)).drew = V0 at *
  clear hV
  (refine Rg.tk (i := 0) (d := 3) (v := ?_) rfl rfl (by kernel_rfl) (by kernel_rfl) (by kernel_rfl) (fun _ _ _ h => h) (by rfl) ?_ (by assumption) ?_; rotate_left; (focus (intro w0 hSw; (try dsimp only at hSw); go_simp; (try with_reducible rfl))); (try simp only [Act.put, List.setIfInBounds_toArray, List.set_cons_zero, List.set_cons_succ]))
  (refine Rg.tk (i := 3) (d := 6) (v := ?_) rfl rfl (by kernel_rfl) (by kernel_rfl) (by kernel_rfl) (fun _ _ _ h => h) (by rfl) ?_ (by assumption) ?_; rotate_left; (focus (intro w0 hSw; (try dsimp only at hSw); go_simp; (try with_reducible rfl))); (try simp only [Act.put, List.setIfInBounds_toArray, List.set_cons_zero, List.set_cons_succ]))
  (refine Rg.tk (i := 5) (d := 8) (v := ?_) rfl rfl (by kernel_rfl) (by kernel_rfl) (by kernel_rfl) (fun _ _ _ h => h) (by rfl) ?_ (by assumption) ?_; rotate_left; (focus (intro w0 hSw; (try dsimp only at hSw); go_simp; (try with_reducible rfl))); (try simp only [Act.put, List.setIfInBounds_toArray, List.set_cons_zero, List.set_cons_succ]))
  (refine Rg.tk (i := 8) (d := 11) (v := ?_) rfl rfl (by kernel_rfl) (by kernel_rfl) (by kernel_rfl) (fun _ _ _ h => h) (by rfl) ?_ (by assumption) ?_; rotate_left; (focus (intro w0 hSw; (try dsimp only at hSw); go_simp; (try with_reducible rfl))); (try simp only [Act.put, List.setIfInBounds_toArray, List.set_cons_zero, List.set_cons_succ]))
  (refine Rg.tk (i := 13) (d := 16) (v := ?_) rfl rfl (by kernel_rfl) (by kernel_rfl) (by kernel_rfl) (fun _ _ _ h => h) (by rfl) ?_ (by assumption) ?_; rotate_left; (focus (intro w0 hSw; (try dsimp only at hSw); go_simp; (try with_reducible rfl))); (try simp only [Act.put, List.setIfInBounds_toArray, List.set_cons_zero, List.set_cons_succ]))
  (refine Rg.tk (i := 15) (d := 18) (v := ?_) rfl rfl (by kernel_rfl) (by kernel_rfl) (by kernel_rfl) (fun _ _ _ h => h) (by rfl) ?_ (by assumption) ?_; rotate_left; (focus (intro w0 hSw; (try dsimp only at hSw); go_simp; (try with_reducible rfl))); (try simp only [Act.put, List.setIfInBounds_toArray, List.set_cons_zero, List.set_cons_succ]))
  (refine Rg.tk (i := 17) (d := 20) (v := ?_) rfl rfl (by kernel_rfl) (by kernel_rfl) (by kernel_rfl) (fun _ _ _ h => h) (by rfl) ?_ (by assumption) ?_; rotate_left; (focus (intro w0 hSw; (try dsimp only at hSw); go_simp; (try with_reducible rfl))); (try simp only [Act.put, List.setIfInBounds_toArray, List.set_cons_zero, List.set_cons_succ]))
  (refine Rg.tk (i := 18) (d := 21) (v := ?_) rfl rfl (by kernel_rfl) (by kernel_rfl) (by kernel_rfl) (fun _ _ _ h => h) (by rfl) ?_ (by assumption) ?_; rotate_left; (focus (intro w0 hSw; (try dsimp only at hSw); go_simp; (try with_reducible rfl))); (try simp only [Act.put, List.setIfInBounds_toArray, List.set_cons_zero, List.set_cons_succ]))
  (refine wpAnyH_ready (rs := [1]) (by kernel_rfl) (by simp) ?_; refine AllReadyH.cons (o := _) rfl (fun K hK => ?_) AllReadyH.nil; go_simp)
  refine (next p a bs cap (n + 0) 2 _ (by omega) (by omega) (by omega) hm (unhide S0)).mono ?_
  rintro e V1 ⟨ty, rfl, hty, wr, s⟩
  have gg := but_wrote wr
  have S1 := hide s
  have G1 := hide (but_trans (unhide G0) gg)
  have T1 := hide ((unhide T0).but gg (by omega))
  clear gg s wr
  clear hHeld
  refine hK.out _ _ trivial (fun hHeld => ?_)
  clear hK K
  (try simp only [Act.put, List.setIfInBounds_toArray, List.set_cons_zero, List.set_cons_succ])
  have wty : IntKind.i64.wrap (1 + (ty : Int)) = 1 + (ty : Int) := by rw [IntKind.wrap_i64]; omega
  (refine Rg.tk (i := 2) (d := 5) (v := ?_) rfl rfl (by kernel_rfl) (by kernel_rfl) (by kernel_rfl) (fun _ _ _ h => h) (by rfl) ?_ (by assumption) ?_; rotate_left; (focus (intro w0 hSw; (try dsimp only at hSw); go_simp; (try with_reducible rfl))); (try simp only [Act.put, List.setIfInBounds_toArray, List.set_cons_zero, List.set_cons_succ]))
  (refine wpAnyH_ready (rs := [4]) (by kernel_rfl) (by simp) ?_; refine AllReadyH.cons (o := _) rfl (fun K hK => ?_) AllReadyH.nil; go_simp)
  refine (addr p a bs cap (n + 3) _ (by omega) hm (unhide S1)).mono ?_
  rintro e V2 ⟨og, rfl, hog1, hog2, wr, s⟩
  have gg := but_wrote wr
  have S2 := hide s
  have G2 := hide (but_trans (unhide G1) gg)
  have T2 := hide ((unhide T1).but gg (by omega))
  clear gg s wr
  clear hHeld
  refine hK.out _ _ trivial (fun hHeld => ?_)
  clear hK K
  (try simp only [Act.put, List.setIfInBounds_toArray, List.set_cons_zero, List.set_cons_succ])
  (refine wpAnyH_ready (rs := [6]) (by kernel_rfl) (by simp) ?_; refine AllReadyH.cons (o := _) rfl (fun K hK => ?_) AllReadyH.nil; go_simp)
  refine (next p a bs cap (n + 6) 9 _ (by omega) (by omega) (by omega) hm (unhide S2)).mono ?_
  rintro e V3 ⟨q1, rfl, hq1, wr, s⟩
  have gg := but_wrote wr
  have S3 := hide s
  have G3 := hide (but_trans (unhide G2) gg)
  have T3 := hide ((unhide T2).but gg (by omega))
  clear gg s wr
  clear hHeld
  refine hK.out _ _ trivial (fun hHeld => ?_)
  clear hK K
  (try simp only [Act.put, List.setIfInBounds_toArray, List.set_cons_zero, List.set_cons_succ])
  (refine wpAnyH_ready (rs := [7, 9]) (by kernel_rfl) (by simp) ?_; refine AllReadyH.cons (o := _) rfl (fun K hK => ?_) (AllReadyH.cons (o := _) rfl (fun K hK => ?_) (AllReadyH.nil)))
  · go_simp
    have S4 := hide (src_below (unhide S3) ((Below.refl _ _).alloc (Nat.le_refl _) (.cells #[.int .i64 (q1 : Int), .int .i64 65535] 3)))
    have G4 := hide (but_alloc (unhide G3) (.cells #[.int .i64 (q1 : Int), .int .i64 65535] 3))
    have T4 : Hid (MV (V3.alloc (.cells #[.int .i64 (q1 : Int), .int .i64 65535] 3)) w.heap.size) := hide (((Below.refl _ _).alloc (Nat.le_refl _) (.cells #[.int .i64 (q1 : Int), .int .i64 65535] 3) : Below V3.heap.size V3 _).block w.heap.size (unhide T3).lt |>.trans (unhide T3))
    have C4 : Hid (∀ o, (V3.alloc (.cells #[.int .i64 (q1 : Int), .int .i64 65535] 3)).cell? ⟨V3.heap.size, o, none⟩ = (#[.int .i64 (q1 : Int), .int .i64 65535] : Array Value)[o]?) := hide (fun o => World.cell?_alloc_new _ _ _ _)
    have hneL : V3.heap.size ≠ w.heap.size := by have := (unhide T3).lt; omega
    have hneP : V3.heap.size ≠ p := by have := src_lt (unhide S3); omega
    clear hHeld
    refine hK.out _ _ trivial (fun hHeld => ?_)
    clear hK K hHeld
    (try simp only [Act.put, List.setIfInBounds_toArray, List.set_cons_zero, List.set_cons_succ])
    refine wpAnyH_strong (S' := fun w' => ∀ o, w'.cell? ⟨V3.heap.size, o, none⟩ = (#[.int .i64 (q1 : Int), .int .i64 65535] : Array Value)[o]?) (fun _ _ => trivial) ?_
    have hHeld := unhide C4
    obtain ⟨V4, hV4⟩ : ∃ V4, V3.alloc (.cells #[.int .i64 (q1 : Int), .int .i64 65535] 3) = V4 := ⟨_, rfl⟩
    rw [hV4] at S4 G4 T4 C4 hHeld ⊢
    clear hV4
    (refine wpAnyH_ready (rs := [9]) (by kernel_rfl) (by simp) ?_; refine AllReadyH.cons (o := _) rfl (fun K hK => ?_) AllReadyH.nil; go_simp)
    refine (next p a bs cap (n + 9) 5 _ (by omega) (by omega) (by omega) hm (unhide S4)).mono ?_
    rintro e V5 ⟨q2, rfl, hq2, wr, s⟩
    have gg := but_wrote wr
    have S5 := hide s
    have G5 := hide (but_trans (unhide G4) gg)
    have T5 := hide ((unhide T4).but gg (by omega))
    have C5 : Hid (∀ o, V5.cell? ⟨V3.heap.size, o, none⟩ = (#[.int .i64 (q1 : Int), .int .i64 65535] : Array Value)[o]?) := hide (fun o => (gg.cell_at hneP (litLt (unhide C4)) o).trans (unhide C4 o))
    clear gg s wr
    clear hHeld
    refine hK.out _ _ (unhide C5) (fun hHeld => ?_)
    clear hK K
    (try simp only [Act.put, List.setIfInBounds_toArray, List.set_cons_zero, List.set_cons_succ])
    have hqd : (q2 : Int).tdiv 4 = ((q2 / 4 : Nat) : Int) := by rw [Int.tdiv_eq_ediv_of_nonneg (by omega)]; simp
    obtain ⟨q, hq⟩ : ∃ q, q2 / 4 = q := ⟨_, rfl⟩
    rw [hq] at hqd
    have wq : IntKind.i64.wrap (q : Int) = (q : Int) := by rw [IntKind.wrap_i64]; omega
    have q0 : (0 : Int) ≤ (q : Int) := by omega
    have qlt : (q : Int) < 2 := by omega
    obtain ⟨sq, hsq, hsq0, hsq1⟩ : ∃ sq : Int, (#[.int .i64 (q1 : Int), .int .i64 65535] : Array Value)[q]? = some (.int .i64 sq) ∧ 0 ≤ sq ∧ sq ≤ 65535 := by
      have h2 : q = 0 ∨ q = 1 := by omega
      rcases h2 with rfl | rfl
      · exact ⟨(q1 : Int), rfl, by omega, by omega⟩
      · exact ⟨65535, rfl, by omega, by omega⟩
    (refine Rg.tk (i := 10) (d := 13) (v := .int .i64 (q : Int)) rfl rfl (by kernel_rfl) (by kernel_rfl) (by kernel_rfl) (fun _ _ _ h => h) (by rfl) ?_ (by assumption) ?_; (focus (intro w0 hSw; (try dsimp only at hSw); go_simp)); (try simp only [Act.put, List.setIfInBounds_toArray, List.set_cons_zero, List.set_cons_succ]))
    (refine Rg.tk (i := 11) (d := 14) (v := ?_) rfl rfl (by kernel_rfl) (by kernel_rfl) (by kernel_rfl) (fun _ _ _ h => h) (by rfl) ?_ (by assumption) ?_; rotate_left; (focus (intro w0 hSw; (try dsimp only at hSw); go_simp; (try with_reducible rfl))); (try simp only [Act.put, List.setIfInBounds_toArray, List.set_cons_zero, List.set_cons_succ]))
    (refine Rg.tk (i := 12) (d := 15) (v := .int .i64 sq) rfl rfl (by kernel_rfl) (by kernel_rfl) (by kernel_rfl) (fun _ _ _ h => h) (by rfl) ?_ (by assumption) ?_; (focus (intro w0 hSw; (try dsimp only at hSw); go_simp)); (try simp only [Act.put, List.setIfInBounds_toArray, List.set_cons_zero, List.set_cons_succ]))
    (refine wpAnyH_ready (rs := [14]) (by kernel_rfl) (by simp) ?_; refine AllReadyH.cons (o := _) rfl (fun K hK => ?_) AllReadyH.nil; go_simp)
    refine (next p a bs cap (n + 12) 9 _ (by omega) (by omega) (by omega) hm (unhide S5)).mono ?_
    rintro e V6 ⟨hl, rfl, hhl, wr, s⟩
    have gg := but_wrote wr
    have S6 := hide s
    have G6 := hide (but_trans (unhide G5) gg)
    have T6 := hide ((unhide T5).but gg (by omega))
    have C6 : Hid (∀ o, V6.cell? ⟨V3.heap.size, o, none⟩ = (#[.int .i64 (q1 : Int), .int .i64 65535] : Array Value)[o]?) := hide (fun o => (gg.cell_at hneP (litLt (unhide C5)) o).trans (unhide C5 o))
    clear gg s wr
    clear hHeld
    refine hK.out _ _ (unhide C6) (fun hHeld => ?_)
    clear hK K
    (try simp only [Act.put, List.setIfInBounds_toArray, List.set_cons_zero, List.set_cons_succ])
    (refine wpAnyH_ready (rs := [16]) (by kernel_rfl) (by simp) ?_; refine AllReadyH.cons (o := _) rfl (fun K hK => ?_) AllReadyH.nil; go_simp)
    refine (next p a bs cap (n + 15) 4 _ (by omega) (by omega) (by omega) hm (unhide S6)).mono ?_
    rintro e V7 ⟨hq, rfl, hhq, wr, s⟩
    have gg := but_wrote wr
    have S7 := hide s
    have G7 := hide (but_trans (unhide G6) gg)
    have T7 := hide ((unhide T6).but gg (by omega))
    have C7 : Hid (∀ o, V7.cell? ⟨V3.heap.size, o, none⟩ = (#[.int .i64 (q1 : Int), .int .i64 65535] : Array Value)[o]?) := hide (fun o => (gg.cell_at hneP (litLt (unhide C6)) o).trans (unhide C6 o))
    clear gg s wr
    clear hHeld
    refine hK.out _ _ (unhide C7) (fun hHeld => ?_)
    clear hK K
    (try simp only [Act.put, List.setIfInBounds_toArray, List.set_cons_zero, List.set_cons_succ])
    (refine wpAnyH_ready (rs := [19]) (by kernel_rfl) (by simp) ?_; refine AllReadyH.cons (o := _) rfl (fun K hK => ?_) AllReadyH.nil; go_simp)
    refine (next p a bs cap (n + 18) 9 _ (by omega) (by omega) (by omega) hm (unhide S7)).mono ?_
    rintro e V8 ⟨bl, rfl, hbl, wr, s⟩
    have gg := but_wrote wr
    have S8 := hide s
    have G8 := hide (but_trans (unhide G7) gg)
    have T8 := hide ((unhide T7).but gg (by omega))
    have C8 : Hid (∀ o, V8.cell? ⟨V3.heap.size, o, none⟩ = (#[.int .i64 (q1 : Int), .int .i64 65535] : Array Value)[o]?) := hide (fun o => (gg.cell_at hneP (litLt (unhide C7)) o).trans (unhide C7 o))
    clear gg s wr
    clear hHeld
    refine hK.out _ _ (unhide C8) (fun hHeld => ?_)
    clear hK K
    (try simp only [Act.put, List.setIfInBounds_toArray, List.set_cons_zero, List.set_cons_succ])
    (refine wpAnyH_ready (rs := [20]) (by kernel_rfl) (by simp) ?_; refine AllReadyH.cons (o := _) rfl (fun K hK => ?_) AllReadyH.nil; go_simp)
    refine (drawSome p a bs cap (n + 21) bl _ (by omega) (by omega) hm (unhide S8)).mono ?_
    rintro e V9 ⟨body, rfl, hbody, gg, s⟩
    have HOK := hide (msg_ok (sq := sq) hty ⟨hog1, hog2⟩ ⟨hsq0, hsq1⟩ hhl hhq hbody hbl)
    have S9 := hide s
    have G9 := hide (but_trans (unhide G8) gg)
    have T9 := hide ((unhide T8).but gg (by omega))
    have C9 : Hid (∀ o, V9.cell? ⟨V3.heap.size, o, none⟩ = (#[.int .i64 (q1 : Int), .int .i64 65535] : Array Value)[o]?) := hide (fun o => (gg.cell_at hneP (litLt (unhide C8)) o).trans (unhide C8 o))
    clear gg s
    clear hHeld
    refine hK.out _ _ (unhide C9) (fun hHeld => ?_)
    clear hK K
    (try simp only [Act.put, List.setIfInBounds_toArray, List.set_cons_zero, List.set_cons_succ])
    (refine Rg.tk (i := 21) (d := 24) (v := ?_) rfl rfl (by kernel_rfl) (by kernel_rfl) (by kernel_rfl) (fun _ _ _ h => h) (by rfl) ?_ (by assumption) ?_; rotate_left; (focus (intro w0 hSw; (try dsimp only at hSw); go_simp; (try with_reducible rfl))); (try simp only [Act.put, List.setIfInBounds_toArray, List.set_cons_zero, List.set_cons_succ]))
    obtain ⟨⟨x0, x1, x2⟩, x3, x4, x5⟩ := (unhide T9).cells
    have y0 := (unhide T9).free 0
    have y1 := (unhide T9).free 1
    have y2 := (unhide T9).free 2
    have y3 := (unhide T9).free 3
    have y4 := (unhide T9).free 4
    have y5 := (unhide T9).free 5
    have hlw := (unhide T9).lt
    (refine wpAnyH_ready (rs := [22]) (by kernel_rfl) (by simp) ?_; refine AllReadyH.cons (o := _) rfl (fun K hK => ?_) AllReadyH.nil; go_simp)
    clear hHeld
    refine hK.out _ _ (litSix (unhide C9) hneL) (fun hHeld => ?_)
    clear hK K
    (try simp only [Act.put, List.setIfInBounds_toArray, List.set_cons_zero, List.set_cons_succ])
    refine wpAnyH_done (by kernel_rfl) (NoPanic.normal ?_) _
    clear hHeld
    go_wp2_with fail
    refine bodyPost_ret (v := .agg #[.int .i64 (1 + (ty : Int)), .int .i64 (og : Int), .int .i64 sq, .int .i64 (hl : Int), .int .i64 (hq : Int), .string body]) (by simp [results, Tryd.results13, go_sem, x0, x1, x2, x3, x4, x5, hlw]) rfl ⟨_, _, _, _, _, _, rfl, unhide HOK, ?_⟩
    exact but_set (but_set (but_set (but_set (but_set (but_set (unhide G9) (Nat.le_refl _) 0 _) (Nat.le_refl _) 1 _) (Nat.le_refl _) 2 _) (Nat.le_refl _) 3 _) (Nat.le_refl _) 4 _) (Nat.le_refl _) 5 _
  · go_simp
    refine (next p a bs cap (n + 9) 5 _ (by omega) (by omega) (by omega) hm (unhide S3)).mono ?_
    rintro e V4 ⟨q2, rfl, hq2, wr, s⟩
    have gg := but_wrote wr
    have S4 := hide s
    have G4 := hide (but_trans (unhide G3) gg)
    have T4 := hide ((unhide T3).but gg (by omega))
    clear gg s wr
    clear hHeld
    refine hK.out _ _ trivial (fun hHeld => ?_)
    clear hK K
    (try simp only [Act.put, List.setIfInBounds_toArray, List.set_cons_zero, List.set_cons_succ])
    have hqd : (q2 : Int).tdiv 4 = ((q2 / 4 : Nat) : Int) := by rw [Int.tdiv_eq_ediv_of_nonneg (by omega)]; simp
    obtain ⟨q, hq⟩ : ∃ q, q2 / 4 = q := ⟨_, rfl⟩
    rw [hq] at hqd
    have wq : IntKind.i64.wrap (q : Int) = (q : Int) := by rw [IntKind.wrap_i64]; omega
    have q0 : (0 : Int) ≤ (q : Int) := by omega
    have qlt : (q : Int) < 2 := by omega
    obtain ⟨sq, hsq, hsq0, hsq1⟩ : ∃ sq : Int, (#[.int .i64 (q1 : Int), .int .i64 65535] : Array Value)[q]? = some (.int .i64 sq) ∧ 0 ≤ sq ∧ sq ≤ 65535 := by
      have h2 : q = 0 ∨ q = 1 := by omega
      rcases h2 with rfl | rfl
      · exact ⟨(q1 : Int), rfl, by omega, by omega⟩
      · exact ⟨65535, rfl, by omega, by omega⟩
    (refine Rg.tk (i := 10) (d := 13) (v := .int .i64 (q : Int)) rfl rfl (by kernel_rfl) (by kernel_rfl) (by kernel_rfl) (fun _ _ _ h => h) (by rfl) ?_ (by assumption) ?_; (focus (intro w0 hSw; (try dsimp only at hSw); go_simp)); (try simp only [Act.put, List.setIfInBounds_toArray, List.set_cons_zero, List.set_cons_succ]))
    (refine wpAnyH_ready (rs := [7, 14]) (by kernel_rfl) (by simp) ?_; refine AllReadyH.cons (o := _) rfl (fun K hK => ?_) (AllReadyH.cons (o := _) rfl (fun K hK => ?_) (AllReadyH.nil)))
    · go_simp
      have S5 := hide (src_below (unhide S4) ((Below.refl _ _).alloc (Nat.le_refl _) (.cells #[.int .i64 (q1 : Int), .int .i64 65535] 3)))
      have G5 := hide (but_alloc (unhide G4) (.cells #[.int .i64 (q1 : Int), .int .i64 65535] 3))
      have T5 : Hid (MV (V4.alloc (.cells #[.int .i64 (q1 : Int), .int .i64 65535] 3)) w.heap.size) := hide (((Below.refl _ _).alloc (Nat.le_refl _) (.cells #[.int .i64 (q1 : Int), .int .i64 65535] 3) : Below V4.heap.size V4 _).block w.heap.size (unhide T4).lt |>.trans (unhide T4))
      have C5 : Hid (∀ o, (V4.alloc (.cells #[.int .i64 (q1 : Int), .int .i64 65535] 3)).cell? ⟨V4.heap.size, o, none⟩ = (#[.int .i64 (q1 : Int), .int .i64 65535] : Array Value)[o]?) := hide (fun o => World.cell?_alloc_new _ _ _ _)
      have hneL : V4.heap.size ≠ w.heap.size := by have := (unhide T4).lt; omega
      have hneP : V4.heap.size ≠ p := by have := src_lt (unhide S4); omega
      clear hHeld
      refine hK.out _ _ trivial (fun hHeld => ?_)
      clear hK K hHeld
      (try simp only [Act.put, List.setIfInBounds_toArray, List.set_cons_zero, List.set_cons_succ])
      refine wpAnyH_strong (S' := fun w' => ∀ o, w'.cell? ⟨V4.heap.size, o, none⟩ = (#[.int .i64 (q1 : Int), .int .i64 65535] : Array Value)[o]?) (fun _ _ => trivial) ?_
      have hHeld := unhide C5
      obtain ⟨V5, hV5⟩ : ∃ V5, V4.alloc (.cells #[.int .i64 (q1 : Int), .int .i64 65535] 3) = V5 := ⟨_, rfl⟩
      rw [hV5] at S5 G5 T5 C5 hHeld ⊢
      clear hV5
      (refine Rg.tk (i := 11) (d := 14) (v := ?_) rfl rfl (by kernel_rfl) (by kernel_rfl) (by kernel_rfl) (fun _ _ _ h => h) (by rfl) ?_ (by assumption) ?_; rotate_left; (focus (intro w0 hSw; (try dsimp only at hSw); go_simp; (try with_reducible rfl))); (try simp only [Act.put, List.setIfInBounds_toArray, List.set_cons_zero, List.set_cons_succ]))
      (refine Rg.tk (i := 12) (d := 15) (v := .int .i64 sq) rfl rfl (by kernel_rfl) (by kernel_rfl) (by kernel_rfl) (fun _ _ _ h => h) (by rfl) ?_ (by assumption) ?_; (focus (intro w0 hSw; (try dsimp only at hSw); go_simp)); (try simp only [Act.put, List.setIfInBounds_toArray, List.set_cons_zero, List.set_cons_succ]))
      (refine wpAnyH_ready (rs := [14]) (by kernel_rfl) (by simp) ?_; refine AllReadyH.cons (o := _) rfl (fun K hK => ?_) AllReadyH.nil; go_simp)
      refine (next p a bs cap (n + 12) 9 _ (by omega) (by omega) (by omega) hm (unhide S5)).mono ?_
      rintro e V6 ⟨hl, rfl, hhl, wr, s⟩
      have gg := but_wrote wr
      have S6 := hide s
      have G6 := hide (but_trans (unhide G5) gg)
      have T6 := hide ((unhide T5).but gg (by omega))
      have C6 : Hid (∀ o, V6.cell? ⟨V4.heap.size, o, none⟩ = (#[.int .i64 (q1 : Int), .int .i64 65535] : Array Value)[o]?) := hide (fun o => (gg.cell_at hneP (litLt (unhide C5)) o).trans (unhide C5 o))
      clear gg s wr
      clear hHeld
      refine hK.out _ _ (unhide C6) (fun hHeld => ?_)
      clear hK K
      (try simp only [Act.put, List.setIfInBounds_toArray, List.set_cons_zero, List.set_cons_succ])
      (refine wpAnyH_ready (rs := [16]) (by kernel_rfl) (by simp) ?_; refine AllReadyH.cons (o := _) rfl (fun K hK => ?_) AllReadyH.nil; go_simp)
      refine (next p a bs cap (n + 15) 4 _ (by omega) (by omega) (by omega) hm (unhide S6)).mono ?_
      rintro e V7 ⟨hq, rfl, hhq, wr, s⟩
      have gg := but_wrote wr
      have S7 := hide s
      have G7 := hide (but_trans (unhide G6) gg)
      have T7 := hide ((unhide T6).but gg (by omega))
      have C7 : Hid (∀ o, V7.cell? ⟨V4.heap.size, o, none⟩ = (#[.int .i64 (q1 : Int), .int .i64 65535] : Array Value)[o]?) := hide (fun o => (gg.cell_at hneP (litLt (unhide C6)) o).trans (unhide C6 o))
      clear gg s wr
      clear hHeld
      refine hK.out _ _ (unhide C7) (fun hHeld => ?_)
      clear hK K
      (try simp only [Act.put, List.setIfInBounds_toArray, List.set_cons_zero, List.set_cons_succ])
      (refine wpAnyH_ready (rs := [19]) (by kernel_rfl) (by simp) ?_; refine AllReadyH.cons (o := _) rfl (fun K hK => ?_) AllReadyH.nil; go_simp)
      refine (next p a bs cap (n + 18) 9 _ (by omega) (by omega) (by omega) hm (unhide S7)).mono ?_
      rintro e V8 ⟨bl, rfl, hbl, wr, s⟩
      have gg := but_wrote wr
      have S8 := hide s
      have G8 := hide (but_trans (unhide G7) gg)
      have T8 := hide ((unhide T7).but gg (by omega))
      have C8 : Hid (∀ o, V8.cell? ⟨V4.heap.size, o, none⟩ = (#[.int .i64 (q1 : Int), .int .i64 65535] : Array Value)[o]?) := hide (fun o => (gg.cell_at hneP (litLt (unhide C7)) o).trans (unhide C7 o))
      clear gg s wr
      clear hHeld
      refine hK.out _ _ (unhide C8) (fun hHeld => ?_)
      clear hK K
      (try simp only [Act.put, List.setIfInBounds_toArray, List.set_cons_zero, List.set_cons_succ])
      (refine wpAnyH_ready (rs := [20]) (by kernel_rfl) (by simp) ?_; refine AllReadyH.cons (o := _) rfl (fun K hK => ?_) AllReadyH.nil; go_simp)
      refine (drawSome p a bs cap (n + 21) bl _ (by omega) (by omega) hm (unhide S8)).mono ?_
      rintro e V9 ⟨body, rfl, hbody, gg, s⟩
      have HOK := hide (msg_ok (sq := sq) hty ⟨hog1, hog2⟩ ⟨hsq0, hsq1⟩ hhl hhq hbody hbl)
      have S9 := hide s
      have G9 := hide (but_trans (unhide G8) gg)
      have T9 := hide ((unhide T8).but gg (by omega))
      have C9 : Hid (∀ o, V9.cell? ⟨V4.heap.size, o, none⟩ = (#[.int .i64 (q1 : Int), .int .i64 65535] : Array Value)[o]?) := hide (fun o => (gg.cell_at hneP (litLt (unhide C8)) o).trans (unhide C8 o))
      clear gg s
      clear hHeld
      refine hK.out _ _ (unhide C9) (fun hHeld => ?_)
      clear hK K
      (try simp only [Act.put, List.setIfInBounds_toArray, List.set_cons_zero, List.set_cons_succ])
      (refine Rg.tk (i := 21) (d := 24) (v := ?_) rfl rfl (by kernel_rfl) (by kernel_rfl) (by kernel_rfl) (fun _ _ _ h => h) (by rfl) ?_ (by assumption) ?_; rotate_left; (focus (intro w0 hSw; (try dsimp only at hSw); go_simp; (try with_reducible rfl))); (try simp only [Act.put, List.setIfInBounds_toArray, List.set_cons_zero, List.set_cons_succ]))
      obtain ⟨⟨x0, x1, x2⟩, x3, x4, x5⟩ := (unhide T9).cells
      have y0 := (unhide T9).free 0
      have y1 := (unhide T9).free 1
      have y2 := (unhide T9).free 2
      have y3 := (unhide T9).free 3
      have y4 := (unhide T9).free 4
      have y5 := (unhide T9).free 5
      have hlw := (unhide T9).lt
      (refine wpAnyH_ready (rs := [22]) (by kernel_rfl) (by simp) ?_; refine AllReadyH.cons (o := _) rfl (fun K hK => ?_) AllReadyH.nil; go_simp)
      clear hHeld
      refine hK.out _ _ (litSix (unhide C9) hneL) (fun hHeld => ?_)
      clear hK K
      (try simp only [Act.put, List.setIfInBounds_toArray, List.set_cons_zero, List.set_cons_succ])
      refine wpAnyH_done (by kernel_rfl) (NoPanic.normal ?_) _
      clear hHeld
      go_wp2_with fail
      refine bodyPost_ret (v := .agg #[.int .i64 (1 + (ty : Int)), .int .i64 (og : Int), .int .i64 sq, .int .i64 (hl : Int), .int .i64 (hq : Int), .string body]) (by simp [results, Tryd.results13, go_sem, x0, x1, x2, x3, x4, x5, hlw]) rfl ⟨_, _, _, _, _, _, rfl, unhide HOK, ?_⟩
      exact but_set (but_set (but_set (but_set (but_set (but_set (unhide G9) (Nat.le_refl _) 0 _) (Nat.le_refl _) 1 _) (Nat.le_refl _) 2 _) (Nat.le_refl _) 3 _) (Nat.le_refl _) 4 _) (Nat.le_refl _) 5 _
    · go_simp
      refine (next p a bs cap (n + 12) 9 _ (by omega) (by omega) (by omega) hm (unhide S4)).mono ?_
      rintro e V5 ⟨hl, rfl, hhl, wr, s⟩
      have gg := but_wrote wr
      have S5 := hide s
      have G5 := hide (but_trans (unhide G4) gg)
      have T5 := hide ((unhide T4).but gg (by omega))
      clear gg s wr
      clear hHeld
      refine hK.out _ _ trivial (fun hHeld => ?_)
      clear hK K
      (try simp only [Act.put, List.setIfInBounds_toArray, List.set_cons_zero, List.set_cons_succ])
      (refine wpAnyH_ready (rs := [7, 16]) (by kernel_rfl) (by simp) ?_; refine AllReadyH.cons (o := _) rfl (fun K hK => ?_) (AllReadyH.cons (o := _) rfl (fun K hK => ?_) (AllReadyH.nil)))
      · go_simp
        have S6 := hide (src_below (unhide S5) ((Below.refl _ _).alloc (Nat.le_refl _) (.cells #[.int .i64 (q1 : Int), .int .i64 65535] 3)))
        have G6 := hide (but_alloc (unhide G5) (.cells #[.int .i64 (q1 : Int), .int .i64 65535] 3))
        have T6 : Hid (MV (V5.alloc (.cells #[.int .i64 (q1 : Int), .int .i64 65535] 3)) w.heap.size) := hide (((Below.refl _ _).alloc (Nat.le_refl _) (.cells #[.int .i64 (q1 : Int), .int .i64 65535] 3) : Below V5.heap.size V5 _).block w.heap.size (unhide T5).lt |>.trans (unhide T5))
        have C6 : Hid (∀ o, (V5.alloc (.cells #[.int .i64 (q1 : Int), .int .i64 65535] 3)).cell? ⟨V5.heap.size, o, none⟩ = (#[.int .i64 (q1 : Int), .int .i64 65535] : Array Value)[o]?) := hide (fun o => World.cell?_alloc_new _ _ _ _)
        have hneL : V5.heap.size ≠ w.heap.size := by have := (unhide T5).lt; omega
        have hneP : V5.heap.size ≠ p := by have := src_lt (unhide S5); omega
        clear hHeld
        refine hK.out _ _ trivial (fun hHeld => ?_)
        clear hK K hHeld
        (try simp only [Act.put, List.setIfInBounds_toArray, List.set_cons_zero, List.set_cons_succ])
        refine wpAnyH_strong (S' := fun w' => ∀ o, w'.cell? ⟨V5.heap.size, o, none⟩ = (#[.int .i64 (q1 : Int), .int .i64 65535] : Array Value)[o]?) (fun _ _ => trivial) ?_
        have hHeld := unhide C6
        obtain ⟨V6, hV6⟩ : ∃ V6, V5.alloc (.cells #[.int .i64 (q1 : Int), .int .i64 65535] 3) = V6 := ⟨_, rfl⟩
        rw [hV6] at S6 G6 T6 C6 hHeld ⊢
        clear hV6
        (refine Rg.tk (i := 11) (d := 14) (v := ?_) rfl rfl (by kernel_rfl) (by kernel_rfl) (by kernel_rfl) (fun _ _ _ h => h) (by rfl) ?_ (by assumption) ?_; rotate_left; (focus (intro w0 hSw; (try dsimp only at hSw); go_simp; (try with_reducible rfl))); (try simp only [Act.put, List.setIfInBounds_toArray, List.set_cons_zero, List.set_cons_succ]))
        (refine Rg.tk (i := 12) (d := 15) (v := .int .i64 sq) rfl rfl (by kernel_rfl) (by kernel_rfl) (by kernel_rfl) (fun _ _ _ h => h) (by rfl) ?_ (by assumption) ?_; (focus (intro w0 hSw; (try dsimp only at hSw); go_simp)); (try simp only [Act.put, List.setIfInBounds_toArray, List.set_cons_zero, List.set_cons_succ]))
        (refine wpAnyH_ready (rs := [16]) (by kernel_rfl) (by simp) ?_; refine AllReadyH.cons (o := _) rfl (fun K hK => ?_) AllReadyH.nil; go_simp)
        refine (next p a bs cap (n + 15) 4 _ (by omega) (by omega) (by omega) hm (unhide S6)).mono ?_
        rintro e V7 ⟨hq, rfl, hhq, wr, s⟩
        have gg := but_wrote wr
        have S7 := hide s
        have G7 := hide (but_trans (unhide G6) gg)
        have T7 := hide ((unhide T6).but gg (by omega))
        have C7 : Hid (∀ o, V7.cell? ⟨V5.heap.size, o, none⟩ = (#[.int .i64 (q1 : Int), .int .i64 65535] : Array Value)[o]?) := hide (fun o => (gg.cell_at hneP (litLt (unhide C6)) o).trans (unhide C6 o))
        clear gg s wr
        clear hHeld
        refine hK.out _ _ (unhide C7) (fun hHeld => ?_)
        clear hK K
        (try simp only [Act.put, List.setIfInBounds_toArray, List.set_cons_zero, List.set_cons_succ])
        (refine wpAnyH_ready (rs := [19]) (by kernel_rfl) (by simp) ?_; refine AllReadyH.cons (o := _) rfl (fun K hK => ?_) AllReadyH.nil; go_simp)
        refine (next p a bs cap (n + 18) 9 _ (by omega) (by omega) (by omega) hm (unhide S7)).mono ?_
        rintro e V8 ⟨bl, rfl, hbl, wr, s⟩
        have gg := but_wrote wr
        have S8 := hide s
        have G8 := hide (but_trans (unhide G7) gg)
        have T8 := hide ((unhide T7).but gg (by omega))
        have C8 : Hid (∀ o, V8.cell? ⟨V5.heap.size, o, none⟩ = (#[.int .i64 (q1 : Int), .int .i64 65535] : Array Value)[o]?) := hide (fun o => (gg.cell_at hneP (litLt (unhide C7)) o).trans (unhide C7 o))
        clear gg s wr
        clear hHeld
        refine hK.out _ _ (unhide C8) (fun hHeld => ?_)
        clear hK K
        (try simp only [Act.put, List.setIfInBounds_toArray, List.set_cons_zero, List.set_cons_succ])
        (refine wpAnyH_ready (rs := [20]) (by kernel_rfl) (by simp) ?_; refine AllReadyH.cons (o := _) rfl (fun K hK => ?_) AllReadyH.nil; go_simp)
        refine (drawSome p a bs cap (n + 21) bl _ (by omega) (by omega) hm (unhide S8)).mono ?_
        rintro e V9 ⟨body, rfl, hbody, gg, s⟩
        have HOK := hide (msg_ok (sq := sq) hty ⟨hog1, hog2⟩ ⟨hsq0, hsq1⟩ hhl hhq hbody hbl)
        have S9 := hide s
        have G9 := hide (but_trans (unhide G8) gg)
        have T9 := hide ((unhide T8).but gg (by omega))
        have C9 : Hid (∀ o, V9.cell? ⟨V5.heap.size, o, none⟩ = (#[.int .i64 (q1 : Int), .int .i64 65535] : Array Value)[o]?) := hide (fun o => (gg.cell_at hneP (litLt (unhide C8)) o).trans (unhide C8 o))
        clear gg s
        clear hHeld
        refine hK.out _ _ (unhide C9) (fun hHeld => ?_)
        clear hK K
        (try simp only [Act.put, List.setIfInBounds_toArray, List.set_cons_zero, List.set_cons_succ])
        (refine Rg.tk (i := 21) (d := 24) (v := ?_) rfl rfl (by kernel_rfl) (by kernel_rfl) (by kernel_rfl) (fun _ _ _ h => h) (by rfl) ?_ (by assumption) ?_; rotate_left; (focus (intro w0 hSw; (try dsimp only at hSw); go_simp; (try with_reducible rfl))); (try simp only [Act.put, List.setIfInBounds_toArray, List.set_cons_zero, List.set_cons_succ]))
        obtain ⟨⟨x0, x1, x2⟩, x3, x4, x5⟩ := (unhide T9).cells
        have y0 := (unhide T9).free 0
        have y1 := (unhide T9).free 1
        have y2 := (unhide T9).free 2
        have y3 := (unhide T9).free 3
        have y4 := (unhide T9).free 4
        have y5 := (unhide T9).free 5
        have hlw := (unhide T9).lt
        (refine wpAnyH_ready (rs := [22]) (by kernel_rfl) (by simp) ?_; refine AllReadyH.cons (o := _) rfl (fun K hK => ?_) AllReadyH.nil; go_simp)
        clear hHeld
        refine hK.out _ _ (litSix (unhide C9) hneL) (fun hHeld => ?_)
        clear hK K
        (try simp only [Act.put, List.setIfInBounds_toArray, List.set_cons_zero, List.set_cons_succ])
        refine wpAnyH_done (by kernel_rfl) (NoPanic.normal ?_) _
        clear hHeld
        go_wp2_with fail
        refine bodyPost_ret (v := .agg #[.int .i64 (1 + (ty : Int)), .int .i64 (og : Int), .int .i64 sq, .int .i64 (hl : Int), .int .i64 (hq : Int), .string body]) (by simp [results, Tryd.results13, go_sem, x0, x1, x2, x3, x4, x5, hlw]) rfl ⟨_, _, _, _, _, _, rfl, unhide HOK, ?_⟩
        exact but_set (but_set (but_set (but_set (but_set (but_set (unhide G9) (Nat.le_refl _) 0 _) (Nat.le_refl _) 1 _) (Nat.le_refl _) 2 _) (Nat.le_refl _) 3 _) (Nat.le_refl _) 4 _) (Nat.le_refl _) 5 _
      · go_simp
        refine (next p a bs cap (n + 15) 4 _ (by omega) (by omega) (by omega) hm (unhide S5)).mono ?_
        rintro e V6 ⟨hq, rfl, hhq, wr, s⟩
        have gg := but_wrote wr
        have S6 := hide s
        have G6 := hide (but_trans (unhide G5) gg)
        have T6 := hide ((unhide T5).but gg (by omega))
        clear gg s wr
        clear hHeld
        refine hK.out _ _ trivial (fun hHeld => ?_)
        clear hK K
        (try simp only [Act.put, List.setIfInBounds_toArray, List.set_cons_zero, List.set_cons_succ])
        (refine wpAnyH_ready (rs := [7, 19]) (by kernel_rfl) (by simp) ?_; refine AllReadyH.cons (o := _) rfl (fun K hK => ?_) (AllReadyH.cons (o := _) rfl (fun K hK => ?_) (AllReadyH.nil)))
        · go_simp
          have S7 := hide (src_below (unhide S6) ((Below.refl _ _).alloc (Nat.le_refl _) (.cells #[.int .i64 (q1 : Int), .int .i64 65535] 3)))
          have G7 := hide (but_alloc (unhide G6) (.cells #[.int .i64 (q1 : Int), .int .i64 65535] 3))
          have T7 : Hid (MV (V6.alloc (.cells #[.int .i64 (q1 : Int), .int .i64 65535] 3)) w.heap.size) := hide (((Below.refl _ _).alloc (Nat.le_refl _) (.cells #[.int .i64 (q1 : Int), .int .i64 65535] 3) : Below V6.heap.size V6 _).block w.heap.size (unhide T6).lt |>.trans (unhide T6))
          have C7 : Hid (∀ o, (V6.alloc (.cells #[.int .i64 (q1 : Int), .int .i64 65535] 3)).cell? ⟨V6.heap.size, o, none⟩ = (#[.int .i64 (q1 : Int), .int .i64 65535] : Array Value)[o]?) := hide (fun o => World.cell?_alloc_new _ _ _ _)
          have hneL : V6.heap.size ≠ w.heap.size := by have := (unhide T6).lt; omega
          have hneP : V6.heap.size ≠ p := by have := src_lt (unhide S6); omega
          clear hHeld
          refine hK.out _ _ trivial (fun hHeld => ?_)
          clear hK K hHeld
          (try simp only [Act.put, List.setIfInBounds_toArray, List.set_cons_zero, List.set_cons_succ])
          refine wpAnyH_strong (S' := fun w' => ∀ o, w'.cell? ⟨V6.heap.size, o, none⟩ = (#[.int .i64 (q1 : Int), .int .i64 65535] : Array Value)[o]?) (fun _ _ => trivial) ?_
          have hHeld := unhide C7
          obtain ⟨V7, hV7⟩ : ∃ V7, V6.alloc (.cells #[.int .i64 (q1 : Int), .int .i64 65535] 3) = V7 := ⟨_, rfl⟩
          rw [hV7] at S7 G7 T7 C7 hHeld ⊢
          clear hV7
          (refine Rg.tk (i := 11) (d := 14) (v := ?_) rfl rfl (by kernel_rfl) (by kernel_rfl) (by kernel_rfl) (fun _ _ _ h => h) (by rfl) ?_ (by assumption) ?_; rotate_left; (focus (intro w0 hSw; (try dsimp only at hSw); go_simp; (try with_reducible rfl))); (try simp only [Act.put, List.setIfInBounds_toArray, List.set_cons_zero, List.set_cons_succ]))
          (refine Rg.tk (i := 12) (d := 15) (v := .int .i64 sq) rfl rfl (by kernel_rfl) (by kernel_rfl) (by kernel_rfl) (fun _ _ _ h => h) (by rfl) ?_ (by assumption) ?_; (focus (intro w0 hSw; (try dsimp only at hSw); go_simp)); (try simp only [Act.put, List.setIfInBounds_toArray, List.set_cons_zero, List.set_cons_succ]))
          (refine wpAnyH_ready (rs := [19]) (by kernel_rfl) (by simp) ?_; refine AllReadyH.cons (o := _) rfl (fun K hK => ?_) AllReadyH.nil; go_simp)
          refine (next p a bs cap (n + 18) 9 _ (by omega) (by omega) (by omega) hm (unhide S7)).mono ?_
          rintro e V8 ⟨bl, rfl, hbl, wr, s⟩
          have gg := but_wrote wr
          have S8 := hide s
          have G8 := hide (but_trans (unhide G7) gg)
          have T8 := hide ((unhide T7).but gg (by omega))
          have C8 : Hid (∀ o, V8.cell? ⟨V6.heap.size, o, none⟩ = (#[.int .i64 (q1 : Int), .int .i64 65535] : Array Value)[o]?) := hide (fun o => (gg.cell_at hneP (litLt (unhide C7)) o).trans (unhide C7 o))
          clear gg s wr
          clear hHeld
          refine hK.out _ _ (unhide C8) (fun hHeld => ?_)
          clear hK K
          (try simp only [Act.put, List.setIfInBounds_toArray, List.set_cons_zero, List.set_cons_succ])
          (refine wpAnyH_ready (rs := [20]) (by kernel_rfl) (by simp) ?_; refine AllReadyH.cons (o := _) rfl (fun K hK => ?_) AllReadyH.nil; go_simp)
          refine (drawSome p a bs cap (n + 21) bl _ (by omega) (by omega) hm (unhide S8)).mono ?_
          rintro e V9 ⟨body, rfl, hbody, gg, s⟩
          have HOK := hide (msg_ok (sq := sq) hty ⟨hog1, hog2⟩ ⟨hsq0, hsq1⟩ hhl hhq hbody hbl)
          have S9 := hide s
          have G9 := hide (but_trans (unhide G8) gg)
          have T9 := hide ((unhide T8).but gg (by omega))
          have C9 : Hid (∀ o, V9.cell? ⟨V6.heap.size, o, none⟩ = (#[.int .i64 (q1 : Int), .int .i64 65535] : Array Value)[o]?) := hide (fun o => (gg.cell_at hneP (litLt (unhide C8)) o).trans (unhide C8 o))
          clear gg s
          clear hHeld
          refine hK.out _ _ (unhide C9) (fun hHeld => ?_)
          clear hK K
          (try simp only [Act.put, List.setIfInBounds_toArray, List.set_cons_zero, List.set_cons_succ])
          (refine Rg.tk (i := 21) (d := 24) (v := ?_) rfl rfl (by kernel_rfl) (by kernel_rfl) (by kernel_rfl) (fun _ _ _ h => h) (by rfl) ?_ (by assumption) ?_; rotate_left; (focus (intro w0 hSw; (try dsimp only at hSw); go_simp; (try with_reducible rfl))); (try simp only [Act.put, List.setIfInBounds_toArray, List.set_cons_zero, List.set_cons_succ]))
          obtain ⟨⟨x0, x1, x2⟩, x3, x4, x5⟩ := (unhide T9).cells
          have y0 := (unhide T9).free 0
          have y1 := (unhide T9).free 1
          have y2 := (unhide T9).free 2
          have y3 := (unhide T9).free 3
          have y4 := (unhide T9).free 4
          have y5 := (unhide T9).free 5
          have hlw := (unhide T9).lt
          (refine wpAnyH_ready (rs := [22]) (by kernel_rfl) (by simp) ?_; refine AllReadyH.cons (o := _) rfl (fun K hK => ?_) AllReadyH.nil; go_simp)
          clear hHeld
          refine hK.out _ _ (litSix (unhide C9) hneL) (fun hHeld => ?_)
          clear hK K
          (try simp only [Act.put, List.setIfInBounds_toArray, List.set_cons_zero, List.set_cons_succ])
          refine wpAnyH_done (by kernel_rfl) (NoPanic.normal ?_) _
          clear hHeld
          go_wp2_with fail
          refine bodyPost_ret (v := .agg #[.int .i64 (1 + (ty : Int)), .int .i64 (og : Int), .int .i64 sq, .int .i64 (hl : Int), .int .i64 (hq : Int), .string body]) (by simp [results, Tryd.results13, go_sem, x0, x1, x2, x3, x4, x5, hlw]) rfl ⟨_, _, _, _, _, _, rfl, unhide HOK, ?_⟩
          exact but_set (but_set (but_set (but_set (but_set (but_set (unhide G9) (Nat.le_refl _) 0 _) (Nat.le_refl _) 1 _) (Nat.le_refl _) 2 _) (Nat.le_refl _) 3 _) (Nat.le_refl _) 4 _) (Nat.le_refl _) 5 _
        · go_simp
          refine (next p a bs cap (n + 18) 9 _ (by omega) (by omega) (by omega) hm (unhide S6)).mono ?_
          rintro e V7 ⟨bl, rfl, hbl, wr, s⟩
          have gg := but_wrote wr
          have S7 := hide s
          have G7 := hide (but_trans (unhide G6) gg)
          have T7 := hide ((unhide T6).but gg (by omega))
          clear gg s wr
          clear hHeld
          refine hK.out _ _ trivial (fun hHeld => ?_)
          clear hK K
          (try simp only [Act.put, List.setIfInBounds_toArray, List.set_cons_zero, List.set_cons_succ])
          (refine wpAnyH_ready (rs := [7, 20]) (by kernel_rfl) (by simp) ?_; refine AllReadyH.cons (o := _) rfl (fun K hK => ?_) (AllReadyH.cons (o := _) rfl (fun K hK => ?_) (AllReadyH.nil)))
          · go_simp
            have S8 := hide (src_below (unhide S7) ((Below.refl _ _).alloc (Nat.le_refl _) (.cells #[.int .i64 (q1 : Int), .int .i64 65535] 3)))
            have G8 := hide (but_alloc (unhide G7) (.cells #[.int .i64 (q1 : Int), .int .i64 65535] 3))
            have T8 : Hid (MV (V7.alloc (.cells #[.int .i64 (q1 : Int), .int .i64 65535] 3)) w.heap.size) := hide (((Below.refl _ _).alloc (Nat.le_refl _) (.cells #[.int .i64 (q1 : Int), .int .i64 65535] 3) : Below V7.heap.size V7 _).block w.heap.size (unhide T7).lt |>.trans (unhide T7))
            have C8 : Hid (∀ o, (V7.alloc (.cells #[.int .i64 (q1 : Int), .int .i64 65535] 3)).cell? ⟨V7.heap.size, o, none⟩ = (#[.int .i64 (q1 : Int), .int .i64 65535] : Array Value)[o]?) := hide (fun o => World.cell?_alloc_new _ _ _ _)
            have hneL : V7.heap.size ≠ w.heap.size := by have := (unhide T7).lt; omega
            have hneP : V7.heap.size ≠ p := by have := src_lt (unhide S7); omega
            clear hHeld
            refine hK.out _ _ trivial (fun hHeld => ?_)
            clear hK K hHeld
            (try simp only [Act.put, List.setIfInBounds_toArray, List.set_cons_zero, List.set_cons_succ])
            refine wpAnyH_strong (S' := fun w' => ∀ o, w'.cell? ⟨V7.heap.size, o, none⟩ = (#[.int .i64 (q1 : Int), .int .i64 65535] : Array Value)[o]?) (fun _ _ => trivial) ?_
            have hHeld := unhide C8
            obtain ⟨V8, hV8⟩ : ∃ V8, V7.alloc (.cells #[.int .i64 (q1 : Int), .int .i64 65535] 3) = V8 := ⟨_, rfl⟩
            rw [hV8] at S8 G8 T8 C8 hHeld ⊢
            clear hV8
            (refine Rg.tk (i := 11) (d := 14) (v := ?_) rfl rfl (by kernel_rfl) (by kernel_rfl) (by kernel_rfl) (fun _ _ _ h => h) (by rfl) ?_ (by assumption) ?_; rotate_left; (focus (intro w0 hSw; (try dsimp only at hSw); go_simp; (try with_reducible rfl))); (try simp only [Act.put, List.setIfInBounds_toArray, List.set_cons_zero, List.set_cons_succ]))
            (refine Rg.tk (i := 12) (d := 15) (v := .int .i64 sq) rfl rfl (by kernel_rfl) (by kernel_rfl) (by kernel_rfl) (fun _ _ _ h => h) (by rfl) ?_ (by assumption) ?_; (focus (intro w0 hSw; (try dsimp only at hSw); go_simp)); (try simp only [Act.put, List.setIfInBounds_toArray, List.set_cons_zero, List.set_cons_succ]))
            (refine wpAnyH_ready (rs := [20]) (by kernel_rfl) (by simp) ?_; refine AllReadyH.cons (o := _) rfl (fun K hK => ?_) AllReadyH.nil; go_simp)
            refine (drawSome p a bs cap (n + 21) bl _ (by omega) (by omega) hm (unhide S8)).mono ?_
            rintro e V9 ⟨body, rfl, hbody, gg, s⟩
            have HOK := hide (msg_ok (sq := sq) hty ⟨hog1, hog2⟩ ⟨hsq0, hsq1⟩ hhl hhq hbody hbl)
            have S9 := hide s
            have G9 := hide (but_trans (unhide G8) gg)
            have T9 := hide ((unhide T8).but gg (by omega))
            have C9 : Hid (∀ o, V9.cell? ⟨V7.heap.size, o, none⟩ = (#[.int .i64 (q1 : Int), .int .i64 65535] : Array Value)[o]?) := hide (fun o => (gg.cell_at hneP (litLt (unhide C8)) o).trans (unhide C8 o))
            clear gg s
            clear hHeld
            refine hK.out _ _ (unhide C9) (fun hHeld => ?_)
            clear hK K
            (try simp only [Act.put, List.setIfInBounds_toArray, List.set_cons_zero, List.set_cons_succ])
            (refine Rg.tk (i := 21) (d := 24) (v := ?_) rfl rfl (by kernel_rfl) (by kernel_rfl) (by kernel_rfl) (fun _ _ _ h => h) (by rfl) ?_ (by assumption) ?_; rotate_left; (focus (intro w0 hSw; (try dsimp only at hSw); go_simp; (try with_reducible rfl))); (try simp only [Act.put, List.setIfInBounds_toArray, List.set_cons_zero, List.set_cons_succ]))
            obtain ⟨⟨x0, x1, x2⟩, x3, x4, x5⟩ := (unhide T9).cells
            have y0 := (unhide T9).free 0
            have y1 := (unhide T9).free 1
            have y2 := (unhide T9).free 2
            have y3 := (unhide T9).free 3
            have y4 := (unhide T9).free 4
            have y5 := (unhide T9).free 5
            have hlw := (unhide T9).lt
            (refine wpAnyH_ready (rs := [22]) (by kernel_rfl) (by simp) ?_; refine AllReadyH.cons (o := _) rfl (fun K hK => ?_) AllReadyH.nil; go_simp)
            clear hHeld
            refine hK.out _ _ (litSix (unhide C9) hneL) (fun hHeld => ?_)
            clear hK K
            (try simp only [Act.put, List.setIfInBounds_toArray, List.set_cons_zero, List.set_cons_succ])
            refine wpAnyH_done (by kernel_rfl) (NoPanic.normal ?_) _
            clear hHeld
            go_wp2_with fail
            refine bodyPost_ret (v := .agg #[.int .i64 (1 + (ty : Int)), .int .i64 (og : Int), .int .i64 sq, .int .i64 (hl : Int), .int .i64 (hq : Int), .string body]) (by simp [results, Tryd.results13, go_sem, x0, x1, x2, x3, x4, x5, hlw]) rfl ⟨_, _, _, _, _, _, rfl, unhide HOK, ?_⟩
            exact but_set (but_set (but_set (but_set (but_set (but_set (unhide G9) (Nat.le_refl _) 0 _) (Nat.le_refl _) 1 _) (Nat.le_refl _) 2 _) (Nat.le_refl _) 3 _) (Nat.le_refl _) 4 _) (Nat.le_refl _) 5 _
          · go_simp
            refine (drawSome p a bs cap (n + 21) bl _ (by omega) (by omega) hm (unhide S7)).mono ?_
            rintro e V8 ⟨body, rfl, hbody, gg, s⟩
            have HOK := hide (msg_ok (sq := sq) hty ⟨hog1, hog2⟩ ⟨hsq0, hsq1⟩ hhl hhq hbody hbl)
            have S8 := hide s
            have G8 := hide (but_trans (unhide G7) gg)
            have T8 := hide ((unhide T7).but gg (by omega))
            clear gg s
            clear hHeld
            refine hK.out _ _ trivial (fun hHeld => ?_)
            clear hK K
            (try simp only [Act.put, List.setIfInBounds_toArray, List.set_cons_zero, List.set_cons_succ])
            (refine wpAnyH_ready (rs := [7]) (by kernel_rfl) (by simp) ?_; refine AllReadyH.cons (o := _) rfl (fun K hK => ?_) AllReadyH.nil; go_simp)
            have S9 := hide (src_below (unhide S8) ((Below.refl _ _).alloc (Nat.le_refl _) (.cells #[.int .i64 (q1 : Int), .int .i64 65535] 3)))
            have G9 := hide (but_alloc (unhide G8) (.cells #[.int .i64 (q1 : Int), .int .i64 65535] 3))
            have T9 : Hid (MV (V8.alloc (.cells #[.int .i64 (q1 : Int), .int .i64 65535] 3)) w.heap.size) := hide (((Below.refl _ _).alloc (Nat.le_refl _) (.cells #[.int .i64 (q1 : Int), .int .i64 65535] 3) : Below V8.heap.size V8 _).block w.heap.size (unhide T8).lt |>.trans (unhide T8))
            have C9 : Hid (∀ o, (V8.alloc (.cells #[.int .i64 (q1 : Int), .int .i64 65535] 3)).cell? ⟨V8.heap.size, o, none⟩ = (#[.int .i64 (q1 : Int), .int .i64 65535] : Array Value)[o]?) := hide (fun o => World.cell?_alloc_new _ _ _ _)
            have hneL : V8.heap.size ≠ w.heap.size := by have := (unhide T8).lt; omega
            have hneP : V8.heap.size ≠ p := by have := src_lt (unhide S8); omega
            clear hHeld
            refine hK.out _ _ trivial (fun hHeld => ?_)
            clear hK K hHeld
            (try simp only [Act.put, List.setIfInBounds_toArray, List.set_cons_zero, List.set_cons_succ])
            refine wpAnyH_strong (S' := fun w' => ∀ o, w'.cell? ⟨V8.heap.size, o, none⟩ = (#[.int .i64 (q1 : Int), .int .i64 65535] : Array Value)[o]?) (fun _ _ => trivial) ?_
            have hHeld := unhide C9
            obtain ⟨V9, hV9⟩ : ∃ V9, V8.alloc (.cells #[.int .i64 (q1 : Int), .int .i64 65535] 3) = V9 := ⟨_, rfl⟩
            rw [hV9] at S9 G9 T9 C9 hHeld ⊢
            clear hV9
            (refine Rg.tk (i := 11) (d := 14) (v := ?_) rfl rfl (by kernel_rfl) (by kernel_rfl) (by kernel_rfl) (fun _ _ _ h => h) (by rfl) ?_ (by assumption) ?_; rotate_left; (focus (intro w0 hSw; (try dsimp only at hSw); go_simp; (try with_reducible rfl))); (try simp only [Act.put, List.setIfInBounds_toArray, List.set_cons_zero, List.set_cons_succ]))
            (refine Rg.tk (i := 12) (d := 15) (v := .int .i64 sq) rfl rfl (by kernel_rfl) (by kernel_rfl) (by kernel_rfl) (fun _ _ _ h => h) (by rfl) ?_ (by assumption) ?_; (focus (intro w0 hSw; (try dsimp only at hSw); go_simp)); (try simp only [Act.put, List.setIfInBounds_toArray, List.set_cons_zero, List.set_cons_succ]))
            (refine Rg.tk (i := 21) (d := 24) (v := ?_) rfl rfl (by kernel_rfl) (by kernel_rfl) (by kernel_rfl) (fun _ _ _ h => h) (by rfl) ?_ (by assumption) ?_; rotate_left; (focus (intro w0 hSw; (try dsimp only at hSw); go_simp; (try with_reducible rfl))); (try simp only [Act.put, List.setIfInBounds_toArray, List.set_cons_zero, List.set_cons_succ]))
            obtain ⟨⟨x0, x1, x2⟩, x3, x4, x5⟩ := (unhide T9).cells
            have y0 := (unhide T9).free 0
            have y1 := (unhide T9).free 1
            have y2 := (unhide T9).free 2
            have y3 := (unhide T9).free 3
            have y4 := (unhide T9).free 4
            have y5 := (unhide T9).free 5
            have hlw := (unhide T9).lt
            (refine wpAnyH_ready (rs := [22]) (by kernel_rfl) (by simp) ?_; refine AllReadyH.cons (o := _) rfl (fun K hK => ?_) AllReadyH.nil; go_simp)
            clear hHeld
            refine hK.out _ _ (litSix (unhide C9) hneL) (fun hHeld => ?_)
            clear hK K
            (try simp only [Act.put, List.setIfInBounds_toArray, List.set_cons_zero, List.set_cons_succ])
            refine wpAnyH_done (by kernel_rfl) (NoPanic.normal ?_) _
            clear hHeld
            go_wp2_with fail
            refine bodyPost_ret (v := .agg #[.int .i64 (1 + (ty : Int)), .int .i64 (og : Int), .int .i64 sq, .int .i64 (hl : Int), .int .i64 (hq : Int), .string body]) (by simp [results, Tryd.results13, go_sem, x0, x1, x2, x3, x4, x5, hlw]) rfl ⟨_, _, _, _, _, _, rfl, unhide HOK, ?_⟩
            exact but_set (but_set (but_set (but_set (but_set (but_set (unhide G9) (Nat.le_refl _) 0 _) (Nat.le_refl _) 1 _) (Nat.le_refl _) 2 _) (Nat.le_refl _) 3 _) (Nat.le_refl _) 4 _) (Nat.le_refl _) 5 _
theorem reads_under {w w' : World} {a : Option Addr} {bs : List UInt8} (h : Reads w a bs) (hb : Below w.heap.size w w') : Reads w' a bs := by
  rcases h with h | ⟨g, off, e, hc⟩
  · exact .inl h
  · exact .inr ⟨g, off, e, fun i hi => (hb.cell (p := ⟨g, off + i, none⟩) (World.block_lt_of_cell? _ _ (hc i hi))).trans (hc i hi)⟩
set_option maxRecDepth 100000 in
set_option maxHeartbeats 8000000 in
theorem messageOf (a : Option Addr) (bs : List UInt8) (cap : Nat) (w : World) (hm : bs.length ≤ 1048576) (hr : Reads w a bs) :
    Calls Tryd.prog 4 #[.slice a bs.length cap] w fun e w' => ∃ (ty og sq hl hp : Int) (body : ByteArray), e = .returned (.agg #[.int .i64 ty, .int .i64 og, .int .i64 sq, .int .i64 hl, .int .i64 hp, .string body]) ∧ okB ty og sq hl hp body = true ∧ Below w.heap.size w w' := by
  have A0 : Hid (Below w.heap.size w (w.alloc (.cells #[.int .i64 0, .int .i64 0, .int .i64 0, .int .i64 0, .int .i64 0, .string ⟨#[]⟩] 24))) := hide ((Below.refl _ _).alloc (Nat.le_refl _) _)
  have R0 := hide (reads_under hr (unhide A0))
  have T0 : Hid (MV (w.alloc (.cells #[.int .i64 0, .int .i64 0, .int .i64 0, .int .i64 0, .int .i64 0, .string ⟨#[]⟩] 24)) w.heap.size) := hide (heap_alloc_new w (.cells #[.int .i64 0, .int .i64 0, .int .i64 0, .int .i64 0, .int .i64 0, .string ⟨#[]⟩] 24))
  have hz0 : (w.alloc (.cells #[.int .i64 0, .int .i64 0, .int .i64 0, .int .i64 0, .int .i64 0, .string ⟨#[]⟩] 24)).heap.size = w.heap.size + 1 := by simp
  clear hr
  go_enter Tryd.func4, Tryd.ntmps4
  go_wp2_with fail
  generalize hW : w.alloc (.cells #[.int .i64 0, .int .i64 0, .int .i64 0, .int .i64 0, .int .i64 0, .string ⟨#[]⟩] 24) = W0 at *
  clear hW
  refine (source a bs cap _ hm (unhide R0)).mono ?_
  rintro e w1 ⟨p, rfl, hp, b1, s1⟩
  have T1 : Hid (MV w1 w.heap.size) := hide ((b1.block w.heap.size (by omega)).trans (unhide T0))
  have D1 := hide ((unhide A0).trans (b1.mono (unhide A0).size))
  have S1 := hide s1
  clear b1 s1
  go_wp2_with fail
  refine (drawMessage p a bs cap 0 w1 (by omega) (by omega) (unhide S1)).mono ?_
  rintro e w2 ⟨ty, og, sq, hl, hq, body, rfl, hok, g2⟩
  have HOK := hide hok
  have T2 := hide ((unhide T1).but g2 (by omega))
  have D2 : Hid (Below w.heap.size w w2) := hide ((unhide D1).grown g2 (unhide D1).size (fun k hk => by cases hk; omega))
  clear hok g2
  obtain ⟨⟨x0, x1, x2⟩, x3, x4, x5⟩ := (unhide T2).cells
  have y0 := (unhide T2).free 0
  have y1 := (unhide T2).free 1
  have y2 := (unhide T2).free 2
  have y3 := (unhide T2).free 3
  have y4 := (unhide T2).free 4
  have y5 := (unhide T2).free 5
  have hlw := (unhide T2).lt
  go_wp2_with fail
  refine bodyPost_ret (v := .agg #[.int .i64 ty, .int .i64 og, .int .i64 sq, .int .i64 hl, .int .i64 hq, .string body]) (by simp [results, Tryd.results4, go_sem, x0, x1, x2, x3, x4, x5, hlw]) rfl ⟨_, _, _, _, _, _, rfl, unhide HOK, ?_⟩
  have hBB := unhide D2
  repeat (first | exact hBB | refine Below.setCell ?_ (by simp <;> omega) _)
end Md
end Go.Proofs.YtmelbilepfnmjaaDoor
