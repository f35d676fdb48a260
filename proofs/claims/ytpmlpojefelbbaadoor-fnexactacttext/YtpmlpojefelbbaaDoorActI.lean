/-
  The program's ActText.
-/
import Derived.Test.YtpmlpojefelbbaaDoorActM
import Derived.Test.YtpmlpojefelbbaaDoorU8
import Derived.Test.YtpmlpojefelbbaaDoorRg
import Derived.Deep.DeepHandedRow
import Derived.Lib.AppendIntMem
namespace Go.Proofs.YtpmlpojefelbbaaDoor
open Go.ChangeShapes Go.WideShapes Go.ChangeAt Go.RowKit
set_option linter.unusedVariables false
set_option linter.unusedSimpArgs false
set_option maxRecDepth 100000
attribute [local go_sem ↓] Go.wp_at_zero Go.wp_at_succ
attribute [local go_sem] Go.strOfNums_size ByteArray.size_append
namespace Ac
open W1 Di

def sgN (zs : List Int) : Nat → List Int
  | 0 => []
  | j + 1 => sgN zs j ++ [48 + zs.getD j 0]
theorem sgN_len (zs : List Int) : ∀ j, (sgN zs j).length = j
  | 0 => rfl
  | j + 1 => by unfold sgN; rw [List.length_append, sgN_len zs j]; rfl
theorem sgN_text {zs : List Int} (h : sgB zs = true) : ∀ j, j ≤ zs.length → strOfNums (sgN zs j) = sgT zs j
  | 0, _ => rfl
  | j + 1, hj => by
    unfold sgN sgT
    rw [← U8.str_append, sgN_text h j (by omega)]
    congr 1
    rcases sg_at h (i := j) (by omega) with e | e
    · rw [e, show (0 : Int) = ((0 : Nat) : Int) from rfl, dig_one (by omega), tx_nat]
    · rw [e, show (1 : Int) = ((1 : Nat) : Int) from rfl, dig_one (by omega), tx_nat]
set_option maxHeartbeats 4000000 in
theorem implTold (l : Option Addr) (zs : List Int) (c : Nat) (w : World) (hm : zs.length ≤ 1048576) (hr : In.RM w l zs) :
    Calls Tryd.prog 29 #[.slice l zs.length c] w fun e w' => e = .returned (.bool (toldB zs)) ∧ w' = w := by
  have KW := hide (within zs.length 1 60 w)
  have KS := hide (implSigns l zs c w hm hr)
  have HT : toldB zs = (inB zs.length 1 60 && sgB zs) := by
    unfold toldB
    congr 1
    unfold inB
    by_cases h1 : 1 ≤ zs.length <;> by_cases h2 : zs.length ≤ 60 <;> simp [h1, h2] <;> omega
  rw [HT]
  clear HT
  cases hq : inB zs.length 1 60
  · rw [hq] at KW
    clear KS hq
    go_enter Tryd.func29, Tryd.ntmps29
    go_wp2_with (first | (go_at_call 39; refine (unhide KW).mono ?_; rintro e w_ ⟨rfl, rfl⟩))
    go_ret
    exact ⟨rfl, rfl⟩
  · rw [hq] at KW
    clear hq
    generalize sgB zs = q at *
    go_enter Tryd.func29, Tryd.ntmps29
    go_wp2_with (first | (go_at_call 39; refine (unhide KW).mono ?_; rintro e w_ ⟨rfl, rfl⟩) | (go_at_call 40; refine (unhide KS).mono ?_; rintro e w_ ⟨rfl, rfl⟩))
    go_ret
    exact ⟨by cases q <;> rfl, rfl⟩
set_option maxHeartbeats 16000000 in
theorem implSig (l : Option Addr) (zs : List Int) (c : Nat) (w : World) (h1 : 1 ≤ zs.length) (hm : zs.length ≤ 60) (hsg : sgB zs = true) (hr : In.RM w l zs) :
    Calls Tryd.prog 30 #[.slice l zs.length c] w fun e w' => e = .returned (.string (sgT zs zs.length)) ∧ Below w.heap.size w w' := by
  have HTX := hide (sgN_text hsg zs.length (Nat.le_refl _))
  have HAT := hide (fun (i : Nat) (hi : i < zs.length) => sg_at hsg hi)
  have HR := hide (fun W (h : Below w.heap.size w W) => hr.below h)
  have HSN := hide (sgN_len zs)
  rw [← unhide HTX]
  obtain ⟨N, hN⟩ : ∃ N, zs.length = N := ⟨_, rfl⟩
  have HN := hide hN
  rw [hN] at h1 hm HAT ⊢
  clear hN hsg hr HTX
  obtain ⟨i0, hi, hz0, hz1, hz2⟩ := Nu.info5
  have hmk := run_make (P := Tryd.prog) w 48 5 i0 _ Tryd.underlying48 hi hz0 .i64 .i64 (0 : Int) (N : Int) (by omega) (by omega) (by rw [hz2]; omega) (by omega)
  rw [hz1, Int.toNat_natCast] at hmk
  have hO0 : (w.alloc (.cells (madeCells (Value.int .u8 0).cells (N * 1)) 5)).ownsRow w.heap.size 5 1 (.slice (some ⟨w.heap.size, 0, none⟩) 0 N) ([] : List Int).length (U8.fl []) := World.ownsRow_made w _ N (Nat.le_refl _) (by unfold maxLen; omega) (size_madeCells _ _)
  generalize madeCells (Value.int .u8 0).cells (N * 1) = mc at *
  have O0 := hide hO0
  have HB0 : Hid (Below w.heap.size w (w.alloc (.cells mc 5))) := hide ((Below.refl _ _).alloc (Nat.le_refl _) _)
  clear hi hz0 hz1 hz2 hO0
  go_enter Tryd.func30, Tryd.ntmps30
  go_wp2_with fail
  clear hmk
  go_loopw [3, 11] (fun v i wr => ∃ j : Nat, j ≤ N ∧ i = .int .i64 j ∧ Hid (wr.ownsRow w.heap.size 5 1 v (sgN zs j).length (U8.fl (sgN zs j))) ∧ Hid (Below w.heap.size w wr)) (fun _ i _ => N - (intOf i).toNat)
  case atStart => exact ⟨0, by omega, rfl, O0, HB0⟩
  case round =>
    clear O0 HB0
    obtain ⟨j, hj, rfl, how, hb⟩ := hrel
    by_cases hlt : (j : Int) < (N : Int)
    · have j0 : (0 : Int) ≤ (j : Int) := by omega
      have hjn : j < N := by omega
      have hz := unhide HAT j hjn
      rcases unhide HR wr (unhide hb) with e0 | ⟨g, off, rfl, hc⟩
      · exfalso; have := unhide HN; rw [e0] at this; simp at this; omega
      have c0 := hc j (by rw [unhide HN]; exact hjn)
      have HNX := hide (show sgN zs (j + 1) = sgN zs j ++ [48 + zs.getD j 0] from rfl)
      have hsl := unhide HSN j
      generalize zs.getD j 0 = z at c0 hz HNX
      generalize sgN zs j = sq at hsl how HNX
      have u1 : IntKind.u8.wrap z = z := by rw [IntKind.wrap_u8]; omega
      have u2 : IntKind.u8.wrap (48 + z) = 48 + z := by rw [IntKind.wrap_u8]; omega
      have hbs := (unhide hb).size
      have b1 : Below wr.heap.size wr (wr.alloc (.cells #[.int .u8 (48 + z)] 5)) := (Below.refl _ _).alloc (Nat.le_refl _) _
      have O1 := hide (U8.own_below (unhide how) b1)
      have R1 := hide (U8.r8_new wr [48 + z] #[.int .u8 (48 + z)] rfl)
      have B1 := hide ((unhide hb).trans (b1.mono hbs))
      clear hc b1
      go_wp2_with (at_builtin; refine U8.wpList_ap (unhide O1) wr.heap.size 0 1 1 [48 + z] rfl (unhide R1) (by simp only [List.length_cons, List.length_nil]; omega) (by simp; omega) rfl _ _ rfl rfl rfl ?_; intro v' w' ho hg; have HO := hide ho; have HB2 := hide (U8.below_own (unhide B1) (unhide O1) hg (Nat.le_refl _) (by simp; omega)); clear ho hg)
      go_roundw
      case rel => exact ⟨j + 1, by omega, by go_num, by rw [unhide HNX]; exact HO, HB2⟩
      case measure => simp [intOf]; omega
    · obtain rfl : j = N := by omega
      have hsl := unhide HSN j
      obtain ⟨gf, cf, rfl, hcf⟩ := U8.form (unhide how) (by omega)
      have hconv := run_convert_bytes_arg (P := Tryd.prog) wr 48 5 Tryd.underlying48 Tryd.underlying5 gf 0 _ cf (sgN zs j) rfl hcf 9 Tryd.underlying9
      clear hcf how hsl
      go_wp2_with fail
      go_ret
      exact ⟨rfl, unhide hb⟩
end Ac
end Go.Proofs.YtpmlpojefelbbaaDoor
