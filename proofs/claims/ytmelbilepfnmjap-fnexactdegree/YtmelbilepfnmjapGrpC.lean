/-
  The program's contracts: whom relays reach, whether they cover, who reaches one alone, who is always willing.
-/
import Derived.Test.YtmelbilepfnmjapGrpB
import Derived.Test.YtmelbilepfnmjapMprE
import Derived.Test.YtmelbilepfnmjapRg
namespace Go.Proofs.Ytmelbilepfnmjap
open Go.ChangeShapes Go.WideShapes Go.ChangeAt Go.RowKit
set_option linter.unusedVariables false
set_option linter.unusedSimpArgs false
attribute [local go_sem ↓] Go.wp_at_zero Go.wp_at_succ
namespace Gp
open W1 Tu St Tw Mr Mt
theorem below_dN' (w : World) : ∀ q, Below w.heap.size w (w.drewN q) := fun q => ⟨rfl, rfl, rfl, Nat.le_refl _, fun _ _ => rfl⟩
/-- Those of the strict ones that one of some reaches. -/
def reB (S : List Int) (via : Int → List Int) (L : List Int) (z : Int) : Bool := L.any (fun a => rB S via a z)
theorem reB_step {S : List Int} {via : Int → List Int} {L : List Int} {j : Nat} (h : j < L.length) (z : Int) : reB S via (L.take (j + 1)) z = (reB S via (L.take j) z || rB S via (L.getD j 0) z) := by
  unfold reB; rw [zs_take h, List.any_append]; simp
set_option maxRecDepth 100000 in
set_option maxHeartbeats 4000000 in
theorem reachedBy (s : Nat) (V : Nat → Nat) (S : List Int) (via : Int → List Int) (c : Int → Bool) (w : World) :
    Calls Try.prog 46 #[GV s V (rN S via), .int .u16 (gN c)] w fun e w' => e = .returned (.int .u16 (gN (reB S via (strN c 8)))) ∧ Below w.heap.size w w' := by
  have hcl := gN_lt c
  have hsl := strN_len c 8
  have HLR := hide (fun z => (str_mem (c := c) (z := z)).1)
  have HLE : Hid (strN (hasB (gN c)) 8 = strN c 8) := hide (str_same (fun z h1 h2 => by
    rw [has_gN]; unfold inB; rw [decide_eq_true h1, decide_eq_true h2]; rfl))
  obtain ⟨L, hL⟩ : ∃ L, strN c 8 = L := ⟨_, rfl⟩
  rw [hL] at hsl HLE HLR ⊢
  clear hL
  generalize gN c = cn at *
  go_enter Try.func46, Try.ntmps46
  go_wp2_with (refine wpList_boxG _ rfl rfl rfl ?_; intro w1 ga1 b1 hs1; have HG1 := hide ga1; have HB1 := hide b1; clear ga1 b1)
  refine (addrs cn _ (by omega)).mono ?_
  rintro e w2 ⟨v2, rfl, b2, hl2⟩
  rw [unhide HLE] at hl2
  obtain ⟨a2, c2, rfl, l2⟩ := hl2
  have HG2 := hide ((unhide HG1).below b2)
  have HB2 := hide ((unhide HB1).trans (b2.mono (unhide HB1).size))
  have HL2 := hide l2.rm
  clear b2 l2
  generalize hn : L.length = n at *
  have HN := hide hn
  clear hn
  go_wp2_with fail
  go_loopw [5, 11] (fun g i wr => w2 = wr ∧ ∃ j : Nat, j ≤ n ∧ i = .int .i64 j ∧ ∃ x : Int, g = .int .u16 x ∧ Hid (x = gN (reB S via (L.take j)))) (fun _ i _ => n - (intOf i).toNat)
  case atStart => exact ⟨rfl, 0, by omega, rfl, 0, rfl, hide (by rw [gN_nil (c := reB S via (L.take 0)) (fun _ _ _ => rfl)]; rfl)⟩
  case round =>
    obtain ⟨rfl, j, hj, rfl, x, rfl, hx⟩ := hrel
    by_cases hlt : (j : Int) < (n : Int)
    · have k0 : (0 : Int) ≤ (j : Int) := by omega
      have hlen : j < L.length := by rw [unhide HN]; omega
      have hzr := unhide HLR _ (getD_mem hlen)
      have HT := hide (reB_step (S := S) (via := via) hlen)
      rcases unhide HL2 with e0 | ⟨gl, ol, rfl, hc⟩
      · exfalso; rw [e0] at hlen; simp at hlen
      have c0 := hc j hlen
      clear hc
      generalize L.getD j 0 = y at *
      obtain ⟨q, rfl⟩ : ∃ q : Nat, y = (q : Int) := ⟨y.toNat, by omega⟩
      have hq9 : q < 9 := by omega
      have q0 : (0 : Int) ≤ (q : Int) := by omega
      have q9 : (q : Int) < 9 := by omega
      have cr := ((unhide HG2).r hq9).1
      have HE : Hid (bits .or .u16 x (rN S via q : Int) = gN (reB S via (L.take (j + 1)))) := hide (by
        rw [unhide hx]; unfold rN; rw [or_int]; congr 1
        exact gN_congr (fun z _ _ => (unhide HT z).symm))
      clear hzr
      go_wp2_with fail
      go_roundw
      case rel => exact ⟨by first | trivial | rfl, j + 1, by omega, by go_num, _, rfl, HE⟩
      case measure => simp [intOf]; omega
    · obtain rfl : j = n := by omega
      have HE : Hid (x = gN (reB S via L)) := hide (by have := unhide hx; rw [← unhide HN, List.take_length] at this; exact this)
      go_wp2_with fail
      go_ret
      exact ⟨ret_int (unhide HE), unhide HB2⟩
/-- Whether those of a list cover. -/
def covB (S : List Int) (via : Int → List Int) (L : List Int) : Bool := gN (fun z => S.contains z && !reB S via L z) == 0
/-- Those that reach one of the strict ones alone. -/
def vB (S : List Int) (via : Int → List Int) (i : Nat) (a : Int) : Bool := S.contains (i : Int) && (via i).contains a
theorem vN_eq (S : List Int) (via : Int → List Int) (i : Nat) : vN S via i = gN (vB S via i) := by
  unfold vN
  cases h : S.contains (i : Int)
  · rw [if_neg (by simp)]; exact (gN_nil (fun z _ _ => by unfold vB; rw [h]; rfl)).symm
  · rw [if_pos rfl]; exact gN_congr (fun z _ _ => by unfold vB; rw [h]; rfl)
def lone (S : List Int) (via : Int → List Int) (i : Nat) : Bool := (strN (vB S via i) 8).length == 1
def oB (S : List Int) (via : Int → List Int) (n : Nat) (a : Int) : Bool := (List.range n).any (fun i => lone S via i && vB S via i a)
theorem oB_step (S : List Int) (via : Int → List Int) (n : Nat) (a : Int) : oB S via (n + 1) a = (oB S via n a || (lone S via n && vB S via n a)) := by
  unfold oB; rw [List.range_succ, List.any_append]; simp
def vC (V : Nat → Nat) : List Value := [.int .u16 (V 0), .int .u16 (V 1), .int .u16 (V 2), .int .u16 (V 3), .int .u16 (V 4), .int .u16 (V 5), .int .u16 (V 6), .int .u16 (V 7), .int .u16 (V 8)]
theorem vC_get (V : Nat → Nat) : ∀ i, i < 9 → (vC V)[i]? = some (.int .u16 (V i))
  | 0, _ | 1, _ | 2, _ | 3, _ | 4, _ | 5, _ | 6, _ | 7, _ | 8, _ => rfl
  | n + 9, h => by omega
theorem GA.vias {w : World} {b s : Nat} {V R : Nat → Nat} (h : GA w b s V R) : w.rangeAt b 1 (vC V) := fun j v hv => by
  have hj : j < 9 := (List.getElem?_eq_some_iff.1 hv).1
  rw [vC_get V j hj] at hv
  rw [(h.v hj).1]; exact hv
theorem infoA : Try.prog.underlying 84 = some (Try.prog.underlying 84).get! ∧ ((Try.prog.underlying 84).get!).isRow = true ∧ (Try.prog.info? 84).map (·.size) = some 9 := ⟨by kernel_rfl, by kernel_rfl, by kernel_rfl⟩
theorem idx_run (V : Nat → Nat) (W : World) : ∀ j : Nat, j < 9 → (Instr.index 84 (.agg (vC V).toArray) (.int .i64 (j : Int))).run Try.prog W = .ok (.int .u16 (V j)) W
  | 0, _ | 1, _ | 2, _ | 3, _ | 4, _ | 5, _ | 6, _ | 7, _ | 8, _ => by kernel_rfl
  | n + 9, h => by omega
theorem gL_app (L : List Int) (a : Int) : bits .or .u16 (gL L : Int) (gL [a] : Int) = (gL (L ++ [a]) : Int) := by
  unfold gL; rw [or_int]; congr 1
  exact gN_congr (fun z _ _ => by rw [Bool.eq_iff_iff]; simp)
end Gp
end Go.Proofs.Ytmelbilepfnmjap
