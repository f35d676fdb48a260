/-
  Of the texts DupI, DupS, NetCm, NetZ, NetO, NetE, ExCountMarksW: what this claim needs of them. (put together by mkprune.py)
-/
import Derived.Test.YtfooahhdikobeaaGreatQm5
import Derived.OwnWalk
import Derived.Laws.BytesArg
import Derived.Laws.BitsAllLaws
import Derived.Deep.Cut
import Derived.WalkMore
import Derived.Deep.DeepHandedRow
namespace Go.Proofs.YtfooahhdikobeaaGreat
open Go.ChangeShapes Go.WideShapes Go.ChangeAt Go.RowKit
set_option linter.unusedVariables false
set_option linter.unusedSimpArgs false
set_option maxRecDepth 100000
attribute [local go_sem ↓] Go.wp_at_zero Go.wp_at_succ
namespace Du
open W1 Tu St
/-- A mark in a block. -/
def Bm (w : World) (b : Nat) (og sq : Int) : Prop := w.cell? ⟨b, 0, none⟩ = some (.int .i64 og) ∧ w.cell? ⟨b, 1, none⟩ = some (.int .i64 sq)
theorem Bm.lt {w : World} {b : Nat} {og sq : Int} (h : Bm w b og sq) : b < w.heap.size := World.block_lt_of_cell? _ _ h.1
theorem Bm.below {w w' : World} {b : Nat} {og sq : Int} (h : Bm w b og sq) (hb : Below w.heap.size w w') : Bm w' b og sq := ⟨(hb.cell h.lt).trans h.1, (hb.cell h.lt).trans h.2⟩
theorem Bm.drew {w : World} {b : Nat} {og sq : Int} (h : Bm w b og sq) : Bm w.drew b og sq := h
theorem bm_new (w : World) (og sq : Int) (t : Nat) : Bm (w.alloc (.cells #[.int .i64 og, .int .i64 sq] t)) w.heap.size og sq := by constructor <;> simp [World.cell?_alloc_new]
theorem bx_new (w : World) (m : R) (t : Nat) : Bx (w.alloc (.cells #[.int .i64 m.key, .int .i64 m.til, .int .i64 m.val] t)) w.heap.size m := by
  refine ⟨?_, ?_, ?_⟩ <;> simp [World.cell?_alloc_new]
set_option maxHeartbeats 1000000 in
theorem isMark (og sq : Int) (w : World) : Calls Tryz.prog 126 #[.agg #[.int .i64 og, .int .i64 sq]] w fun e w' => e = .returned (.bool (askB og sq)) ∧ Below w.heap.size w w' := by
  have HB : Hid (Below w.heap.size w (w.alloc (.cells #[.int .i64 og, .int .i64 sq] 150))) := hide ((Below.refl _ _).alloc (Nat.le_refl _) _)
  cases h1 : inB og 1 8
  rotate_left
  cases h2 : inB sq 0 65535
  all_goals
    go_enter Tryz.func126, Tryz.ntmps126
    go_wp2_with (first | (go_at_call 109; refine (isAddress _ _).mono ?_; rintro e w' ⟨rfl, rfl⟩) | (go_at_call 111; refine (isSeq _ _).mono ?_; rintro e w' ⟨rfl, rfl⟩))
    go_ret
    refine ⟨ret_bool ?_, unhide HB⟩
    unfold askB
    simp_all
set_option maxHeartbeats 1000000 in
theorem keyOfMark (og sq : Int) (w : World) (h0 : 0 ≤ og) (h1 : og ≤ 1000000) (h2 : 0 ≤ sq) (h3 : sq ≤ 1000000) : Calls Tryz.prog 127 #[.agg #[.int .i64 og, .int .i64 sq]] w fun e w' => e = .returned (.int .i64 (keyD og sq)) ∧ Below w.heap.size w w' := by
  have HB : Hid (Below w.heap.size w (w.alloc (.cells #[.int .i64 og, .int .i64 sq] 150))) := hide ((Below.refl _ _).alloc (Nat.le_refl _) _)
  unfold keyD
  go_enter Tryz.func127, Tryz.ntmps127
  go_wp2
  go_ret
  exact ⟨rfl, unhide HB⟩
set_option maxHeartbeats 1000000 in
theorem implKey (og sq : Int) (w : World) : Calls Tryz.prog 78 #[.int .i64 og, .int .i64 sq] w fun e w' => e = .returned (.tuple #[.int .i64 (if askB og sq = true then keyD og sq else 0), .int .i64 (if askB og sq = true then 0 else 4)]) ∧ Below w.heap.size w w' := by
  have HB : Hid (Below w.heap.size w (w.alloc (.cells #[.int .i64 og, .int .i64 sq] 150))) := hide ((Below.refl _ _).alloc (Nat.le_refl _) _)
  have HV : Hid (Bm (w.alloc (.cells #[.int .i64 og, .int .i64 sq] 150)) w.heap.size og sq) := hide (bm_new _ _ _ _)
  cases hh : askB og sq
  · have HH := hide hh
    clear hh
    go_enter Tryz.func78, Tryz.ntmps78
    go_wp2_with fail
    refine (isMark og sq _).mono ?_
    rintro e w1 ⟨rfl, b1⟩
    rw [unhide HH]
    have HB1 := hide ((unhide HB).trans (b1.mono (unhide HB).size))
    clear b1
    go_wp2_with fail
    go_ret2
    exact ⟨rfl, unhide HB1⟩
  · have hb := ask_bounds hh
    have HH := hide hh
    clear hh
    go_enter Tryz.func78, Tryz.ntmps78
    go_wp2_with fail
    refine (isMark og sq _).mono ?_
    rintro e w1 ⟨rfl, b1⟩
    rw [unhide HH]
    have HB1 := hide ((unhide HB).trans (b1.mono (unhide HB).size))
    obtain ⟨d0, d1⟩ := (unhide HV).below b1
    clear b1
    go_wp2_with fail
    refine (keyOfMark og sq _ (by omega) (by omega) (by omega) (by omega)).mono ?_
    rintro e w2 ⟨rfl, b2⟩
    have HB2 := hide ((unhide HB1).trans (b2.mono (unhide HB1).size))
    clear b2
    go_wp2_with fail
    go_ret2
    exact ⟨rfl, unhide HB2⟩
end Du
end Go.Proofs.YtfooahhdikobeaaGreat
namespace Go.Proofs.YtfooahhdikobeaaGreat
open Go.ChangeShapes Go.WideShapes Go.ChangeAt Go.RowKit
set_option linter.unusedVariables false
set_option linter.unusedSimpArgs false
set_option maxRecDepth 100000
attribute [local go_sem ↓] Go.wp_at_zero Go.wp_at_succ
namespace Du
open W1 Tu St
theorem or16 {x y : Int} (hx0 : 0 ≤ x) (hx1 : x ≤ 255) (hy0 : 0 ≤ y) (hy1 : y ≤ 65535) : bits BinOp.or IntKind.i64 (x * 65536) y = 65536 * x + y := by
  obtain ⟨X, rfl⟩ := Int.eq_ofNat_of_zero_le hx0
  obtain ⟨Y, rfl⟩ := Int.eq_ofNat_of_zero_le hy0
  have e : ((X : Int) * 65536) = ((2 ^ 16 * X : Nat) : Int) := by omega
  rw [e]
  show IntKind.i64.wrap ((BitVec.ofInt 64 ((2 ^ 16 * X : Nat) : Int) ||| BitVec.ofInt 64 (Y : Int)).toNat : Int) = _
  rw [BitVec.toNat_or, ofInt_u64 (2 ^ 16 * X) (by omega), ofInt_u64 Y (by omega), ← Nat.two_pow_add_eq_or_of_lt (by omega), IntWalk.i64_left]
  unfold wrap64
  omega
set_option maxHeartbeats 1000000 in
theorem l10Ask (og sq : Int) (w : World) : Calls Tryz.prog 74 #[.int .i64 og, .int .i64 sq] w fun e w' => e = .returned (.bool (askB og sq)) ∧ w' = w := by
  cases h1 : inB og 1 8
  rotate_left
  cases h2 : inB sq 0 65535
  all_goals
    go_enter Tryz.func74, Tryz.ntmps74
    go_wp2_with (first | (go_at_call 124; refine (l01Addr _ _).mono ?_; rintro e w' ⟨rfl, rfl⟩) | (go_at_call 43; refine (l01In _ _ _ _).mono ?_; rintro e w' ⟨rfl, rfl⟩))
    go_ret
    refine ⟨ret_bool ?_, rfl⟩
    unfold askB
    simp_all
set_option maxHeartbeats 1000000 in
theorem l10Key (og sq : Int) (w : World) (h : askB og sq = true) : Calls Tryz.prog 76 #[.int .i64 og, .int .i64 sq] w fun e w' => e = .returned (.int .i64 (keyD og sq)) ∧ w' = w := by
  have hb := ask_bounds h
  have hor : bits BinOp.or IntKind.i64 (og * 65536) sq = keyD og sq := or16 (by omega) (by omega) (by omega) (by omega)
  clear h
  generalize keyD og sq = K at *
  go_enter Tryz.func76, Tryz.ntmps76
  go_wp2
  go_ret
  exact ⟨rfl, rfl⟩
end Du
end Go.Proofs.YtfooahhdikobeaaGreat
namespace Go.Proofs.YtfooahhdikobeaaGreat
open Go.ChangeShapes Go.WideShapes Go.ChangeAt Go.RowKit
set_option linter.unusedVariables false
set_option linter.unusedSimpArgs false
set_option maxRecDepth 100000
attribute [local go_sem ↓] Go.wp_at_zero Go.wp_at_succ
namespace Nt
open W1 Rt
def cntM (ms : List Rm) (k : Int) : Nat → Int
  | 0 => 0
  | j + 1 => cntM ms k j + (if St.thereB (ms.getD j Rm.zero).du k = true then 1 else 0)
theorem cnt_lo (ms : List Rm) (k : Int) : ∀ j, 0 ≤ cntM ms k j ∧ cntM ms k j ≤ j
  | 0 => ⟨Int.le_refl _, Int.le_refl _⟩
  | j + 1 => by have := cnt_lo ms k j; simp only [cntM]; split <;> omega
theorem cnt_yes {ms : List Rm} {k : Int} {j : Nat} (h : St.thereB (ms.getD j Rm.zero).du k = true) : cntM ms k (j + 1) = cntM ms k j + 1 := by simp only [cntM]; rw [if_pos h]
theorem cnt_no {ms : List Rm} {k : Int} {j : Nat} (h : St.thereB (ms.getD j Rm.zero).du k = false) : cntM ms k (j + 1) = cntM ms k j := by simp only [cntM]; rw [if_neg (by rw [h]; simp)]; omega
theorem there_no {l : List Tu.R} {k : Int} (h : ∀ i, i < l.length → (l.getD i Tu.R.zero).key ≠ k) : St.thereB l k = false := by
  cases e : St.thereB l k
  · rfl
  · have := Du.there_at e
    exact absurd this.2 (h _ this.1)
/-- What CountMarks answers. -/
def cmV (ok : Bool) (ms : List Rm) (og sq : Int) : Int := if (ok && Du.askB og sq) = true then cntM ms (Du.keyD og sq) ms.length else 0
def cmC (ok : Bool) (og sq : Int) : Int := if ok = true then (if Du.askB og sq = true then 0 else 4) else 1
theorem netB_du {ms : List Rm} {cs : List Int} {fs : List Fm.R} {t : Int} (h : netB ms cs fs t = true) : ∀ i, i < ms.length → St.setB (ms.getD i Rm.zero).du = true := by
  intro i hi
  unfold netB rtsB at h
  simp only [Bool.and_eq_true] at h
  have h1 := allI_at h.2.2.1 hi
  unfold rok okM rtrB at h1
  simp only [Bool.and_eq_true] at h1
  exact h1.1.2.2.2.2.2.2.2.2.2.1
set_option maxHeartbeats 16000000 in
theorem implCM (a b d : Option Addr) (ca cb cd : Nat) (t : Int) (ms : List Rm) (ps : List Pl) (cs : List Int) (fs : List Fm.R) (og sq : Int) (w : World) (hm : ms.length ≤ 1048576) (hc : cs.length ≤ 1048576) (hf : fs.length ≤ 1048576) (hs : ∀ i, i < ms.length → Sm (ms.getD i Rm.zero)) (hg : ∀ i, i < fs.length → (fs.getD i Fm.R.zero).bs.size ≤ maxLen) (hr : NR w a ms ps) (hi : In.RM w b cs) (hz : Fm.RM w d fs) :
    Calls Tryz.prog 30 #[.agg #[.slice a ms.length ca, .slice b cs.length cb, .slice d fs.length cd, .int .i64 t], .int .i64 og, .int .i64 sq] w fun e w' => e = .returned (.tuple #[.int .i64 (cmV (netB ms cs fs t) ms og sq), .int .i64 (cmC (netB ms cs fs t) og sq)]) ∧ Below w.heap.size w w' := by
  have HX0 := hide (nb_new w (.slice a ms.length ca) (.slice b cs.length cb) (.slice d fs.length cd) t 31)
  have b0 := bel_new w (.cells #[.slice a ms.length ca, .slice b cs.length cb, .slice d fs.length cd, .int .i64 t] 31)
  have HB0 := hide b0
  have HR0 := hide (hr.below b0)
  have KN := hide (implNet a b d ca cb cd t ms ps cs fs _ hm hc hf hs hg (hr.below b0) (hi.below b0) (hz.below b0))
  have HN6 := hide (fun h => netB_n (ms := ms) (cs := cs) (fs := fs) (t := t) h)
  have HDU := hide (fun h => netB_du (ms := ms) (cs := cs) (fs := fs) (t := t) h)
  have HSM := hide hs
  clear b0 hr hi hz hs hg
  generalize netB ms cs fs t = ok at *
  obtain ⟨v1, hv1⟩ : ∃ v, cmV ok ms og sq = v := ⟨_, rfl⟩
  obtain ⟨v2, hv2⟩ : ∃ v, cmC ok og sq = v := ⟨_, rfl⟩
  rw [hv1, hv2]
  have HV1 := hide hv1
  have HV2 := hide hv2
  clear hv1 hv2
  have HCV : Hid (cntM ms (Du.keyD og sq) ms.length = cmV true ms og sq ∨ Du.askB og sq = false) := hide (by
    cases e : Du.askB og sq
    · exact .inr rfl
    · left; unfold cmV; rw [e]; rfl)
  obtain ⟨n, hN⟩ : ∃ n, ms.length = n := ⟨_, rfl⟩
  rw [hN] at hm HX0 HB0 HR0 KN HCV ⊢
  have HN := hide hN
  go_enter Tryz.func30, Tryz.ntmps30
  go_wp2_with fail
  go_step3
  go_wp2_with fail
  generalize w.alloc (.cells #[.slice a n ca, .slice b cs.length cb, .slice d fs.length cd, .int .i64 t] 31) = w0 at *
  refine (unhide KN).mono ?_
  rintro e w1 ⟨rfl, b1⟩
  have HX1 := hide ((unhide HX0).below b1)
  have HR1 := hide ((unhide HR0).below b1)
  have HB1 := hide ((unhide HB0).trans (b1.mono (unhide HB0).size))
  clear HX0 HR0 HB0 KN b1
  cases ok
  · clear hN
    obtain rfl : v1 = 0 := by rw [← unhide HV1]; rfl
    obtain rfl : v2 = 1 := by rw [← unhide HV2]; rfl
    go_wp2_with fail
    (try rw [Exit.noGoto_ret])
    go_ret2
    exact ⟨rfl, unhide HB1⟩
  have hn6 : n ≤ 6 := by have := (unhide HN6 rfl).2.1; omega
  have HD2 := hide (unhide HDU rfl)
  have hs1 : w.heap.size ≤ w1.heap.size := (unhide HB1).size
  clear HN6 HDU hN
  go_wp2_with fail
  refine (Du.implKey og sq _).mono ?_
  rintro e w2 ⟨rfl, b2⟩
  have HX2 := hide ((unhide HX1).below b2)
  have HR2 := hide ((unhide HR1).below b2)
  have HB2 := hide ((unhide HB1).trans (b2.mono (unhide HB1).size))
  clear HX1 HR1 HB1 b2 hs1
  cases hask : Du.askB og sq
  · obtain rfl : v1 = 0 := by rw [← unhide HV1]; unfold cmV; rw [hask]; rfl
    obtain rfl : v2 = 4 := by rw [← unhide HV2]; unfold cmC; rw [hask]; rfl
    rw [if_neg (by simp), if_neg (by simp)]
    clear hask HCV
    go_wp2_with fail
    (try rw [Exit.noGoto_ret])
    go_ret2
    exact ⟨rfl, unhide HB2⟩
  obtain rfl : v2 = 0 := by rw [← unhide HV2]; unfold cmC; rw [hask]; rfl
  have HCV2 : Hid (cntM ms (Du.keyD og sq) n = v1) := hide (by
    rw [← unhide HV1]
    rcases unhide HCV with h | h
    · exact h
    · rw [hask] at h; cases h)
  rw [if_pos rfl, if_pos rfl]
  clear hask HCV
  generalize Du.keyD og sq = key at *
  have hs2 : w.heap.size ≤ w2.heap.size := (unhide HB2).size
  obtain ⟨p0, p1, p2, p3⟩ := unhide HX2
  go_wp2_with fail
  go_step3
  go_wp2_with fail
  clear p0 p1 p2 p3
  go_loopw [10, 30] (fun v i wr => ∃ j : Nat, j ≤ n ∧ i = .int .i64 j ∧ v = .int .i64 (cntM ms key j) ∧ Hid (Below w2.heap.size w2 wr)) (fun _ i _ => n - (intOf i).toNat)
  case atStart => exact ⟨0, by omega, rfl, rfl, hide (Below.refl _ _)⟩
  case round =>
    obtain ⟨j, hj, rfl, rfl, hbl⟩ := hrel
    by_cases hlt : (j : Int) < (n : Int)
    · have k0 : (0 : Int) ≤ (j : Int) := by omega
      have hlen : j < ms.length := by rw [unhide HN]; omega
      obtain ⟨g, off, rfl, hA, hD⟩ := ((unhide HR2).below (unhide hbl)).at hlen
      have HA := hide hA
      have HD := hide hD
      have HST := hide (unhide HD2 j hlen)
      have HYES := hide (fun h => cnt_yes (ms := ms) (k := key) (j := j) h)
      have HNO := hide (fun h => cnt_no (ms := ms) (k := key) (j := j) h)
      have hcb := cnt_lo ms key j
      clear hA hD
      generalize hmj : ms.getD j Rm.zero = m at HA HST HD HYES HNO
      clear hmj hlen
      generalize hpj : ps.getD j Pl.zero = p at HA HD
      clear hpj
      generalize hCJ : cntM ms key j = cj at *
      have HCJ := hide hCJ
      clear hCJ
      have hbs := (unhide hbl).size
      go_upto_region 10 with (first | (refine loadI _ rfl rfl (unhide HA) rfl ?_) | (refine wpList_storeR _ _ rfl rfl (cl m p) (cl_ones m p) rfl rfl (ra_new wr (rC 0 0 0 0 0 (.slice none 0 0) (.slice none 0 0) (.slice none 0 0) (.slice none 0 0) (.slice none 0 0) (.slice none 0 0) (.slice none 0 0) 0) rfl 83).2.1 ?_; intro w3 ra bb hs3))
      have b3_ : Below wr.heap.size wr w3 := bb _ _ ((Below.refl _ _).alloc (Nat.le_refl _) _) (Nat.le_refl _)
      have HB3 := hide ((unhide hbl).trans (b3_.mono hbs))
      have HD3 := hide ((unhide HD).2.2.2.1.below b3_)
      have HRA := hide ra
      have hz3 := b3_.size
      clear ra bb hs3 HA HD b3_ hbl
      have e8 := (unhide HRA).at (i := 8) (v := .slice p.a4 m.du.length p.c4) rfl
      obtain ⟨q, hq⟩ : ∃ q, m.du.length = q := ⟨_, rfl⟩
      have HQ := hide hq
      rw [hq] at e8
      clear hq
      have hq64 : q ≤ 64 := by rw [← unhide HQ]; exact St.setB_len (unhide HST)
      have hz4 := (unhide HB3).size
      go_wp2_with fail
      clear e8
      go_loopw [37, 10] (fun i v wi => ∃ k : Nat, k ≤ q ∧ i = .int .i64 k ∧ v = .int .i64 cj ∧ Hid (∀ i, i < k → (m.du.getD i Tu.R.zero).key ≠ key) ∧ Hid (Below w3.heap.size w3 wi)) (fun i _ _ => q - (intOf i).toNat)
      case atStart => exact ⟨0, by omega, rfl, rfl, hide (fun i hi => by omega), hide (Below.refl _ _)⟩
      case round =>
        obtain ⟨k, hk, rfl, rfl, hno, hbi⟩ := hrel
        by_cases hlk : (k : Int) < (q : Int)
        · have k1 : (0 : Int) ≤ (k : Int) := by omega
          have hlen : k < m.du.length := by rw [unhide HQ]; omega
          obtain ⟨h, oh, hpa⟩ := (unhide HD3).form (by omega)
          have hHD := unhide HD3
          rw [hpa] at hHD
          obtain ⟨c0, c1, c2⟩ := (hHD.below (unhide hbi)).at hlen
          rw [hpa]
          clear hpa hHD
          have HBI := hide ((unhide hbi).alloc (unhide hbi).size (.cells #[.int .i64 (m.du.getD k Tu.R.zero).key, .int .i64 (m.du.getD k Tu.R.zero).til, .int .i64 (m.du.getD k Tu.R.zero).val] 99))
          by_cases he : (m.du.getD k Tu.R.zero).key = key
          · have HTH := hide (unhide HYES (Du.at_place (unhide HST) hlen he).2)
            have he2 : ((m.du.getD k Tu.R.zero).key == key) = true := by simpa using he
            clear he
            generalize m.du.getD k Tu.R.zero = z at *
            obtain ⟨z1, z2, z3⟩ := z
            dsimp only at c0 c1 c2 he2
            go_wp2_with fail
            refine ⟨⟨j + 1, by omega, by go_num, by rw [unhide HTH], hide ((unhide HB3).trans ((unhide HBI).mono hz4))⟩, by simp [intOf]; omega⟩
          · have HNN : Hid (∀ i, i < k + 1 → (m.du.getD i Tu.R.zero).key ≠ key) := hide (fun i hi => by
              by_cases e : i = k
              · subst e; exact he
              · exact unhide hno i (by omega))
            have he2 : ((m.du.getD k Tu.R.zero).key == key) = false := by simpa using he
            clear he
            generalize m.du.getD k Tu.R.zero = z at *
            obtain ⟨z1, z2, z3⟩ := z
            dsimp only at c0 c1 c2 he2
            go_wp2_with fail
            go_roundw
            case rel => exact ⟨k + 1, by omega, by go_num, rfl, HNN, HBI⟩
            case measure => simp [intOf]; omega
        · obtain rfl : k = q := by omega
          have HTH := hide (unhide HNO (there_no (by rw [unhide HQ]; exact unhide hno)))
          go_wp2_with fail
          refine ⟨⟨j + 1, by omega, by go_num, by rw [unhide HTH], hide ((unhide HB3).trans ((unhide hbi).mono hz4))⟩, by simp [intOf]; omega⟩
    · obtain rfl : j = n := by omega
      have HF := hide ((unhide HB2).trans ((unhide hbl).mono hs2))
      rw [unhide HCV2]
      go_wp2_with fail
      (try rw [Exit.noGoto_ret])
      go_ret2
      exact ⟨rfl, unhide HF⟩
/-- A record of noughts that may be written. -/
def Tz (w : World) (b : Nat) : Prop := (w.cell? ⟨b, 0, none⟩ = some (.int .i64 0) ∧ w.cell? ⟨b, 1, none⟩ = some (.int .i64 0) ∧ w.cell? ⟨b, 2, none⟩ = some (.int .i64 0)) ∧ w.frozen? ⟨b, 0, none⟩ = false ∧ w.frozen? ⟨b, 1, none⟩ = false ∧ w.frozen? ⟨b, 2, none⟩ = false
theorem tz_new (w : World) (t : Nat) : Tz (w.alloc (.cells #[.int .i64 0, .int .i64 0, .int .i64 0] t)) w.heap.size := by
  refine ⟨⟨?_, ?_, ?_⟩, ?_, ?_, ?_⟩ <;> simp [World.cell?_alloc_new]
theorem Tz.below {w w' : World} {b : Nat} (h : Tz w b) (hb : Below w.heap.size w w') : Tz w' b := by
  have hg : b < w.heap.size := World.block_lt_of_cell? _ _ h.1.1
  obtain ⟨⟨h0, h1, h2⟩, g0, g1, g2⟩ := h
  refine ⟨⟨?_, ?_, ?_⟩, ?_, ?_, ?_⟩
  all_goals first | (rw [hb.cell hg]; assumption) | (rw [hb.frozen hg]; assumption)
theorem l01BitN (s : Bool) (w : World) : Calls Tryz.prog 77 #[.bool s] w fun e w' => e = .returned (.int .i64 (Du.bitD s)) ∧ w' = w := by
  cases s
  all_goals
    go_enter Tryz.func77, Tryz.ntmps77
    go_wp2
    go_ret
    exact ⟨rfl, rfl⟩
set_option maxHeartbeats 16000000 in
theorem specCM (a b d : Option Addr) (ca cb cd : Nat) (t : Int) (ms : List Rm) (ps : List Pl) (cs : List Int) (fs : List Fm.R) (og sq : Int) (w : World) (hm : ms.length ≤ 1048576) (hc : cs.length ≤ 1048576) (hf : fs.length ≤ 1048576) (hs : ∀ i, i < ms.length → Sm (ms.getD i Rm.zero)) (hg : ∀ i, i < fs.length → (fs.getD i Fm.R.zero).bs.size ≤ maxLen) (hr : NR w a ms ps) (hi : In.RM w b cs) (hz : Fm.RM w d fs) (had : ∀ i, i < ms.length → Ad (ps.getD i Pl.zero)) :
    Calls Tryz.prog 29 #[.agg #[.slice a ms.length ca, .slice b cs.length cb, .slice d fs.length cd, .int .i64 t], .int .i64 og, .int .i64 sq] w fun e w' => e = .returned (.tuple #[.int .i64 (cmV (netB ms cs fs t) ms og sq), .int .i64 (cmC (netB ms cs fs t) og sq)]) ∧ Below w.heap.size w w' := by
  have HAD := hide had
  clear had
  have HX0 := hide (nb_new w (.slice a ms.length ca) (.slice b cs.length cb) (.slice d fs.length cd) t 31)
  have b0 := bel_new w (.cells #[.slice a ms.length ca, .slice b cs.length cb, .slice d fs.length cd, .int .i64 t] 31)
  have HB0 := hide b0
  have HR0 := hide (hr.below b0)
  have KN := hide (specNet a b d ca cb cd t ms ps cs fs _ hm hc hf hs hg (hr.below b0) (hi.below b0) (hz.below b0))
  have HN6 := hide (fun h => netB_n (ms := ms) (cs := cs) (fs := fs) (t := t) h)
  have HDU := hide (fun h => netB_du (ms := ms) (cs := cs) (fs := fs) (t := t) h)
  have HSM := hide hs
  clear b0 hr hi hz hs hg
  generalize netB ms cs fs t = ok at *
  obtain ⟨v1, hv1⟩ : ∃ v, cmV ok ms og sq = v := ⟨_, rfl⟩
  obtain ⟨v2, hv2⟩ : ∃ v, cmC ok og sq = v := ⟨_, rfl⟩
  rw [hv1, hv2]
  have HV1 := hide hv1
  have HV2 := hide hv2
  clear hv1 hv2
  have HCV : Hid (cntM ms (Du.keyD og sq) ms.length = cmV true ms og sq ∨ Du.askB og sq = false) := hide (by
    cases e : Du.askB og sq
    · exact .inr rfl
    · left; unfold cmV; rw [e]; rfl)
  obtain ⟨n, hN⟩ : ∃ n, ms.length = n := ⟨_, rfl⟩
  rw [hN] at hm HX0 HB0 HR0 KN HCV ⊢
  have HN := hide hN
  go_enter Tryz.func29, Tryz.ntmps29
  go_wp2_with fail
  generalize w.alloc (.cells #[.slice a n ca, .slice b cs.length cb, .slice d fs.length cd, .int .i64 t] 31) = w0 at *
  refine (unhide KN).mono ?_
  rintro e w1 ⟨rfl, b1⟩
  have HX1 := hide ((unhide HX0).below b1)
  have HR1 := hide ((unhide HR0).below b1)
  have HB1 := hide ((unhide HB0).trans (b1.mono (unhide HB0).size))
  clear HX0 HR0 HB0 KN b1
  cases ok
  · clear hN
    obtain rfl : v1 = 0 := by rw [← unhide HV1]; rfl
    obtain rfl : v2 = 1 := by rw [← unhide HV2]; rfl
    go_wp2_with fail
    (try rw [Exit.noGoto_ret])
    go_ret2
    exact ⟨rfl, unhide HB1⟩
  have hn6 : n ≤ 6 := by have := (unhide HN6 rfl).2.1; omega
  have HD2 := hide (unhide HDU rfl)
  have hs1 : w.heap.size ≤ w1.heap.size := (unhide HB1).size
  clear HN6 HDU hN
  go_wp2_with fail
  refine (Du.l10Ask og sq _).mono ?_
  rintro e w2 ⟨rfl, hw_⟩
  subst w2
  cases hask : Du.askB og sq
  · obtain rfl : v1 = 0 := by rw [← unhide HV1]; unfold cmV; rw [hask]; rfl
    obtain rfl : v2 = 4 := by rw [← unhide HV2]; unfold cmC; rw [hask]; rfl
    clear hask HCV
    go_wp2_with fail
    go_ret2
    exact ⟨rfl, unhide HB1⟩
  obtain rfl : v2 = 0 := by rw [← unhide HV2]; unfold cmC; rw [hask]; rfl
  have HCV2 : Hid (cntM ms (Du.keyD og sq) n = v1) := hide (by
    rw [← unhide HV1]
    rcases unhide HCV with h | h
    · exact h
    · rw [hask] at h; cases h)
  have HK := hide (fun w => Du.l10Key og sq w hask)
  clear hask HCV HV1 HV2
  generalize Du.keyD og sq = key at *
  go_wp2_with fail
  go_loopw [8, 9] (fun v i wr => ∃ j : Nat, j ≤ n ∧ i = .int .i64 j ∧ v = .int .i64 (cntM ms key j) ∧ Hid (Below w1.heap.size w1 wr)) (fun _ i _ => n - (intOf i).toNat)
  case atStart => exact ⟨0, by omega, rfl, rfl, hide (Below.refl _ _)⟩
  case round =>
    obtain ⟨j, hj, rfl, rfl, hbl⟩ := hrel
    have HP := hide ((unhide HX1).below (unhide hbl))
    obtain ⟨p0, p1, p2, p3⟩ := unhide HP
    by_cases hlt : (j : Int) < (n : Int)
    · have k0 : (0 : Int) ≤ (j : Int) := by omega
      have hlen : j < ms.length := by rw [unhide HN]; omega
      obtain ⟨g, off, rfl, hA, hD⟩ := ((unhide HR1).below (unhide hbl)).at hlen
      have HST := unhide HD2 j hlen
      have hl64 := St.setB_len HST
      have HD := hide hD.2.2.2.1
      have e8 := hA 8 _ rfl
      have hadj := (unhide HAD) j hlen
      have HSTEP : Hid (cntM ms key (j + 1) = cntM ms key j + Du.bitD (St.thereB (ms.getD j Rm.zero).du key)) := hide rfl
      have hcb := cnt_lo ms key j
      clear hA hD
      generalize hmj : ms.getD j Rm.zero = m at e8 HST HD HSTEP hl64
      clear hmj hlen
      generalize hpj : ps.getD j Pl.zero = p at e8 HD hadj
      clear hpj
      obtain ⟨_, _, _, ⟨g2, hg2⟩, _⟩ := hadj
      rw [hg2] at e8 HD
      clear hg2
      generalize hCJ : cntM ms key j = cj at *
      clear hCJ
      have hbs := (unhide hbl).size
      have HE8 := hide e8
      clear e8 HST
      go_wp2_with fail
      obtain ⟨q, hq⟩ : ∃ q, m.du.length = q := ⟨_, rfl⟩
      have HQ := hide hq
      rw [hq] at HE8 hl64
      clear hq
      have HBB := unhide hbl
      refine wp_region_noPanic ?_
      refine wp_region_held_drew (S := fun w' => w'.cell? ⟨w.heap.size, 0, none⟩ = some (.slice (some ⟨g, off, none⟩) n ca) ∧ w'.cell? ⟨g, off + j * 13 + 8, none⟩ = some (.slice (some ⟨g2, 0, none⟩) q p.c4)) (by kernel_rfl) (⟨(unhide HP).1, unhide HE8⟩) (fun hHeld => ?_)
      refine Rg.t 0 27 ?_
      refine Rg.t 1 28 ?_
      refine Rg.t 2 29 ?_
      refine Rg.t 3 30 ?_
      refine Rg.t 4 31 ?_
      refine Rg.t 5 32 ?_
      refine Rg.t 6 33 ?_
      refine Rg.t 7 34 ?_
      have HC0 := hide (unhide HP).1
      have HD0 := hide ((unhide HD).drew)
      have hb0 : Below w1.heap.size w1 wr.drew := HBB.drew
      have HB0 := hide hb0
      clear hb0 HBB
      obtain ⟨W0, hW0⟩ : ∃ V, wr.drew = V := ⟨_, rfl⟩
      rw [hW0] at HD0 HB0 ⊢
      have HC00 : Hid (W0.cell? ⟨w.heap.size, 0, none⟩ = some (.slice (some ⟨g, off, none⟩) n ca)) := hide (by rw [← hW0]; exact unhide HC0)
      have HE0 : Hid (W0.cell? ⟨g, off + j * 13 + 8, none⟩ = some (.slice (some ⟨g2, 0, none⟩) q p.c4)) := hide (by rw [← hW0]; exact unhide HE8)
      have hl1 : w1.heap.size ≤ W0.heap.size := (unhide HB0).size
      have hl2 : w.heap.size < w1.heap.size := (unhide HX1).lt
      clear hW0 HC0 HP HE8 HD hbl p0 p1 p2 p3
      have hl1_0 := hl1
      (refine wpAnyH_ready (rs := [8, 13]) (by kernel_rfl) (by simp) ?_; refine AllReadyH.cons (o := _) rfl (fun K hK => ?_) (AllReadyH.cons (o := _) rfl (fun K hK => ?_) (AllReadyH.nil)))
      · go_simp
        refine (unhide HK _).mono ?_
        rintro e W1 ⟨rfl, hw_⟩
        subst W1
        refine hK.out _ _ (⟨unhide HC00, unhide HE0⟩) (fun hHeld => ?_)
        clear hK K
        (try simp only [Act.put, List.setIfInBounds_toArray, List.set_cons_zero, List.set_cons_succ])
        (refine wpAnyH_ready (rs := [9, 13]) (by kernel_rfl) (by simp) ?_; refine AllReadyH.cons (o := _) rfl (fun K hK => ?_) (AllReadyH.cons (o := _) rfl (fun K hK => ?_) (AllReadyH.nil)))
        · go_simp
          have fnd := St.l03Find g2 0 m.du p.c4 key W0 (by have := unhide HQ; omega) (unhide HD0)
          rw [unhide HQ] at fnd
          refine fnd.mono ?_
          clear fnd
          rintro e W1 ⟨rfl, b_⟩
          have HC01 := hide (((unhide HC00 : _)) |> (b_.cell (by show w.heap.size < W0.heap.size; omega)).trans)
          have HE1 := hide ((b_.cell (World.block_lt_of_cell? _ _ (unhide HE0))).trans (unhide HE0))
          have HD1 := hide ((unhide HD0).below b_)
          have HB1 := hide ((unhide HB0).trans (b_.mono hl1_0))
          have hl1_1 := (unhide HB1).size
          clear HC00 HE0 HD0 HB0 b_
          refine hK.out _ _ (⟨unhide HC01, unhide HE1⟩) (fun hHeld => ?_)
          clear hK K
          (try simp only [Act.put, List.setIfInBounds_toArray, List.set_cons_zero, List.set_cons_succ])
          generalize (if St.thereB m.du key = true then m.du.getD (St.place m.du key) Tu.R.zero else Tu.R.zero) = zz at *
          obtain ⟨z1, z2, z3⟩ := zz
          rw [show (Tu.R.mk z1 z2 z3).value = Value.agg #[.int .i64 z1, .int .i64 z2, .int .i64 z3] from rfl]
          refine Rg.t 10 26 ?_
          refine Rg.t 11 37 ?_
          refine Rg.t 12 38 ?_
          (refine Rg.o 13 (fun K hK => ?_); go_simp)
          have b_ : Below W1.heap.size W1 (W1.alloc (.cells #[.int .i64 0, .int .i64 0, .int .i64 0] 99)) := (Below.refl _ _).alloc (Nat.le_refl _) _
          have HZ2 := hide (tz_new W1 99)
          obtain ⟨W2, hW_⟩ : ∃ V, W1.alloc (.cells #[.int .i64 0, .int .i64 0, .int .i64 0] 99) = V := ⟨_, rfl⟩
          rw [hW_] at b_ HZ2 ⊢
          obtain ⟨bz, hbz⟩ : ∃ bz, W1.heap.size = bz := ⟨_, rfl⟩
          have hbz1 : w1.heap.size ≤ bz := by rw [← hbz]; exact hl1_1
          have hbz2 : g < bz := by rw [← hbz]; exact World.block_lt_of_cell? _ _ (unhide HE1)
          rw [hbz] at HZ2 ⊢
          clear hW_
          have HC02 := hide (((unhide HC01 : _)) |> (b_.cell (by show w.heap.size < W1.heap.size; omega)).trans)
          have HE2 := hide ((b_.cell (World.block_lt_of_cell? _ _ (unhide HE1))).trans (unhide HE1))
          have HD2 := hide ((unhide HD1).below b_)
          have HB2 := hide ((unhide HB1).trans (b_.mono hl1_1))
          have hl1_2 := (unhide HB2).size
          clear HC01 HE1 HD1 HB1 b_
          clear hbz
          refine hK.out _ _ (⟨unhide HC02, unhide HE2⟩) (fun hHeld => ?_)
          clear hK K
          (try simp only [Act.put, List.setIfInBounds_toArray, List.set_cons_zero, List.set_cons_succ])
          obtain ⟨⟨q0, q1, q2⟩, r0, r1, r2⟩ := unhide HZ2
          (refine Rg.o 14 (fun K hK => ?_); go_simp)
          clear q0 q1 q2 r0 r1 r2
          have hsz := (unhide HB2).size
          have HBF := hide (((((unhide HB2).setCell (p := ⟨bz, 0, none⟩) hbz1 (.int .i64 z1)).setCell (p := ⟨bz, 1, none⟩) hbz1 (.int .i64 z2)).setCell (p := ⟨bz, 2, none⟩) hbz1 (.int .i64 z3)))
          refine hK.out _ _ (⟨?_, ?_⟩) (fun hHeld => ?_)
          · try dsimp only
            rw [World.cell?_setCell_other _ _ _ _ (by intro h; injection h with h1 _ _; omega), World.cell?_setCell_other _ _ _ _ (by intro h; injection h with h1 _ _; omega), World.cell?_setCell_other _ _ _ _ (by intro h; injection h with h1 _ _; omega)]
            exact unhide HC02
          · try dsimp only
            rw [World.cell?_setCell_other _ _ _ _ (by intro h; injection h with h1 _ _; omega), World.cell?_setCell_other _ _ _ _ (by intro h; injection h with h1 _ _; omega), World.cell?_setCell_other _ _ _ _ (by intro h; injection h with h1 _ _; omega)]
            exact unhide HE2
          clear hK K
          (try simp only [Act.put, List.setIfInBounds_toArray, List.set_cons_zero, List.set_cons_succ])
          refine Rg.t 15 11 ?_
          refine wpAnyH_done (by kernel_rfl) (NoPanic.normal ?_) _
          clear hHeld
          go_wp2_with fail
          refine (l01BitN _ _).mono ?_
          rintro e wf ⟨rfl, hw_⟩
          subst wf
          have hbd : 0 ≤ Du.bitD (St.thereB m.du key) ∧ Du.bitD (St.thereB m.du key) ≤ 1 := by unfold Du.bitD; split <;> omega
          generalize Du.bitD (St.thereB m.du key) = bd at *
          go_wp2_with fail
          go_roundw
          case rel => exact ⟨j + 1, by omega, by go_num, by rw [unhide HSTEP], HBF⟩
          case measure => simp [intOf]; omega
        · go_simp
          have b_ : Below W0.heap.size W0 (W0.alloc (.cells #[.int .i64 0, .int .i64 0, .int .i64 0] 99)) := (Below.refl _ _).alloc (Nat.le_refl _) _
          have HZ1 := hide (tz_new W0 99)
          obtain ⟨W1, hW_⟩ : ∃ V, W0.alloc (.cells #[.int .i64 0, .int .i64 0, .int .i64 0] 99) = V := ⟨_, rfl⟩
          rw [hW_] at b_ HZ1 ⊢
          obtain ⟨bz, hbz⟩ : ∃ bz, W0.heap.size = bz := ⟨_, rfl⟩
          have hbz1 : w1.heap.size ≤ bz := by rw [← hbz]; exact hl1_0
          have hbz2 : g < bz := by rw [← hbz]; exact World.block_lt_of_cell? _ _ (unhide HE0)
          rw [hbz] at HZ1 ⊢
          clear hW_
          have HC01 := hide (((unhide HC00 : _)) |> (b_.cell (by show w.heap.size < W0.heap.size; omega)).trans)
          have HE1 := hide ((b_.cell (World.block_lt_of_cell? _ _ (unhide HE0))).trans (unhide HE0))
          have HD1 := hide ((unhide HD0).below b_)
          have HB1 := hide ((unhide HB0).trans (b_.mono hl1_0))
          have hl1_1 := (unhide HB1).size
          clear HC00 HE0 HD0 HB0 b_
          clear hbz
          refine hK.out _ _ (⟨unhide HC01, unhide HE1⟩) (fun hHeld => ?_)
          clear hK K
          (try simp only [Act.put, List.setIfInBounds_toArray, List.set_cons_zero, List.set_cons_succ])
          (refine Rg.o 9 (fun K hK => ?_); go_simp)
          have fnd := St.l03Find g2 0 m.du p.c4 key W1 (by have := unhide HQ; omega) (unhide HD1)
          rw [unhide HQ] at fnd
          refine fnd.mono ?_
          clear fnd
          rintro e W2 ⟨rfl, b_⟩
          have HC02 := hide (((unhide HC01 : _)) |> (b_.cell (by show w.heap.size < W1.heap.size; omega)).trans)
          have HE2 := hide ((b_.cell (World.block_lt_of_cell? _ _ (unhide HE1))).trans (unhide HE1))
          have HD2 := hide ((unhide HD1).below b_)
          have HB2 := hide ((unhide HB1).trans (b_.mono hl1_1))
          have hl1_2 := (unhide HB2).size
          have HZ2 := hide ((unhide HZ1).below b_)
          clear HC01 HE1 HD1 HB1 b_ HZ1
          refine hK.out _ _ (⟨unhide HC02, unhide HE2⟩) (fun hHeld => ?_)
          clear hK K
          (try simp only [Act.put, List.setIfInBounds_toArray, List.set_cons_zero, List.set_cons_succ])
          generalize (if St.thereB m.du key = true then m.du.getD (St.place m.du key) Tu.R.zero else Tu.R.zero) = zz at *
          obtain ⟨z1, z2, z3⟩ := zz
          rw [show (Tu.R.mk z1 z2 z3).value = Value.agg #[.int .i64 z1, .int .i64 z2, .int .i64 z3] from rfl]
          refine Rg.t 10 26 ?_
          refine Rg.t 11 37 ?_
          refine Rg.t 12 38 ?_
          obtain ⟨⟨q0, q1, q2⟩, r0, r1, r2⟩ := unhide HZ2
          (refine Rg.o 14 (fun K hK => ?_); go_simp)
          clear q0 q1 q2 r0 r1 r2
          have hsz := (unhide HB2).size
          have HBF := hide (((((unhide HB2).setCell (p := ⟨bz, 0, none⟩) hbz1 (.int .i64 z1)).setCell (p := ⟨bz, 1, none⟩) hbz1 (.int .i64 z2)).setCell (p := ⟨bz, 2, none⟩) hbz1 (.int .i64 z3)))
          refine hK.out _ _ (⟨?_, ?_⟩) (fun hHeld => ?_)
          · try dsimp only
            rw [World.cell?_setCell_other _ _ _ _ (by intro h; injection h with h1 _ _; omega), World.cell?_setCell_other _ _ _ _ (by intro h; injection h with h1 _ _; omega), World.cell?_setCell_other _ _ _ _ (by intro h; injection h with h1 _ _; omega)]
            exact unhide HC02
          · try dsimp only
            rw [World.cell?_setCell_other _ _ _ _ (by intro h; injection h with h1 _ _; omega), World.cell?_setCell_other _ _ _ _ (by intro h; injection h with h1 _ _; omega), World.cell?_setCell_other _ _ _ _ (by intro h; injection h with h1 _ _; omega)]
            exact unhide HE2
          clear hK K
          (try simp only [Act.put, List.setIfInBounds_toArray, List.set_cons_zero, List.set_cons_succ])
          refine Rg.t 15 11 ?_
          refine wpAnyH_done (by kernel_rfl) (NoPanic.normal ?_) _
          clear hHeld
          go_wp2_with fail
          refine (l01BitN _ _).mono ?_
          rintro e wf ⟨rfl, hw_⟩
          subst wf
          have hbd : 0 ≤ Du.bitD (St.thereB m.du key) ∧ Du.bitD (St.thereB m.du key) ≤ 1 := by unfold Du.bitD; split <;> omega
          generalize Du.bitD (St.thereB m.du key) = bd at *
          go_wp2_with fail
          go_roundw
          case rel => exact ⟨j + 1, by omega, by go_num, by rw [unhide HSTEP], HBF⟩
          case measure => simp [intOf]; omega
      · go_simp
        have b_ : Below W0.heap.size W0 (W0.alloc (.cells #[.int .i64 0, .int .i64 0, .int .i64 0] 99)) := (Below.refl _ _).alloc (Nat.le_refl _) _
        have HZ1 := hide (tz_new W0 99)
        obtain ⟨W1, hW_⟩ : ∃ V, W0.alloc (.cells #[.int .i64 0, .int .i64 0, .int .i64 0] 99) = V := ⟨_, rfl⟩
        rw [hW_] at b_ HZ1 ⊢
        obtain ⟨bz, hbz⟩ : ∃ bz, W0.heap.size = bz := ⟨_, rfl⟩
        have hbz1 : w1.heap.size ≤ bz := by rw [← hbz]; exact hl1_0
        have hbz2 : g < bz := by rw [← hbz]; exact World.block_lt_of_cell? _ _ (unhide HE0)
        rw [hbz] at HZ1 ⊢
        clear hW_
        have HC01 := hide (((unhide HC00 : _)) |> (b_.cell (by show w.heap.size < W0.heap.size; omega)).trans)
        have HE1 := hide ((b_.cell (World.block_lt_of_cell? _ _ (unhide HE0))).trans (unhide HE0))
        have HD1 := hide ((unhide HD0).below b_)
        have HB1 := hide ((unhide HB0).trans (b_.mono hl1_0))
        have hl1_1 := (unhide HB1).size
        clear HC00 HE0 HD0 HB0 b_
        clear hbz
        refine hK.out _ _ (⟨unhide HC01, unhide HE1⟩) (fun hHeld => ?_)
        clear hK K
        (try simp only [Act.put, List.setIfInBounds_toArray, List.set_cons_zero, List.set_cons_succ])
        (refine Rg.o 8 (fun K hK => ?_); go_simp)
        refine (unhide HK _).mono ?_
        rintro e W2 ⟨rfl, hw_⟩
        subst W2
        refine hK.out _ _ (⟨unhide HC01, unhide HE1⟩) (fun hHeld => ?_)
        clear hK K
        (try simp only [Act.put, List.setIfInBounds_toArray, List.set_cons_zero, List.set_cons_succ])
        (refine Rg.o 9 (fun K hK => ?_); go_simp)
        have fnd := St.l03Find g2 0 m.du p.c4 key W1 (by have := unhide HQ; omega) (unhide HD1)
        rw [unhide HQ] at fnd
        refine fnd.mono ?_
        clear fnd
        rintro e W2 ⟨rfl, b_⟩
        have HC02 := hide (((unhide HC01 : _)) |> (b_.cell (by show w.heap.size < W1.heap.size; omega)).trans)
        have HE2 := hide ((b_.cell (World.block_lt_of_cell? _ _ (unhide HE1))).trans (unhide HE1))
        have HD2 := hide ((unhide HD1).below b_)
        have HB2 := hide ((unhide HB1).trans (b_.mono hl1_1))
        have hl1_2 := (unhide HB2).size
        have HZ2 := hide ((unhide HZ1).below b_)
        clear HC01 HE1 HD1 HB1 b_ HZ1
        refine hK.out _ _ (⟨unhide HC02, unhide HE2⟩) (fun hHeld => ?_)
        clear hK K
        (try simp only [Act.put, List.setIfInBounds_toArray, List.set_cons_zero, List.set_cons_succ])
        generalize (if St.thereB m.du key = true then m.du.getD (St.place m.du key) Tu.R.zero else Tu.R.zero) = zz at *
        obtain ⟨z1, z2, z3⟩ := zz
        rw [show (Tu.R.mk z1 z2 z3).value = Value.agg #[.int .i64 z1, .int .i64 z2, .int .i64 z3] from rfl]
        refine Rg.t 10 26 ?_
        refine Rg.t 11 37 ?_
        refine Rg.t 12 38 ?_
        obtain ⟨⟨q0, q1, q2⟩, r0, r1, r2⟩ := unhide HZ2
        (refine Rg.o 14 (fun K hK => ?_); go_simp)
        clear q0 q1 q2 r0 r1 r2
        have hsz := (unhide HB2).size
        have HBF := hide (((((unhide HB2).setCell (p := ⟨bz, 0, none⟩) hbz1 (.int .i64 z1)).setCell (p := ⟨bz, 1, none⟩) hbz1 (.int .i64 z2)).setCell (p := ⟨bz, 2, none⟩) hbz1 (.int .i64 z3)))
        refine hK.out _ _ (⟨?_, ?_⟩) (fun hHeld => ?_)
        · try dsimp only
          rw [World.cell?_setCell_other _ _ _ _ (by intro h; injection h with h1 _ _; omega), World.cell?_setCell_other _ _ _ _ (by intro h; injection h with h1 _ _; omega), World.cell?_setCell_other _ _ _ _ (by intro h; injection h with h1 _ _; omega)]
          exact unhide HC02
        · try dsimp only
          rw [World.cell?_setCell_other _ _ _ _ (by intro h; injection h with h1 _ _; omega), World.cell?_setCell_other _ _ _ _ (by intro h; injection h with h1 _ _; omega), World.cell?_setCell_other _ _ _ _ (by intro h; injection h with h1 _ _; omega)]
          exact unhide HE2
        clear hK K
        (try simp only [Act.put, List.setIfInBounds_toArray, List.set_cons_zero, List.set_cons_succ])
        refine Rg.t 15 11 ?_
        refine wpAnyH_done (by kernel_rfl) (NoPanic.normal ?_) _
        clear hHeld
        go_wp2_with fail
        refine (l01BitN _ _).mono ?_
        rintro e wf ⟨rfl, hw_⟩
        subst wf
        have hbd : 0 ≤ Du.bitD (St.thereB m.du key) ∧ Du.bitD (St.thereB m.du key) ≤ 1 := by unfold Du.bitD; split <;> omega
        generalize Du.bitD (St.thereB m.du key) = bd at *
        go_wp2_with fail
        go_roundw
        case rel => exact ⟨j + 1, by omega, by go_num, by rw [unhide HSTEP], HBF⟩
        case measure => simp [intOf]; omega
    · obtain rfl : j = n := by omega
      have HF := hide ((unhide HB1).trans ((unhide hbl).mono hs1))
      rw [unhide HCV2]
      go_wp2_with fail
      go_ret2
      exact ⟨rfl, unhide HF⟩
end Nt
end Go.Proofs.YtfooahhdikobeaaGreat
namespace Go.Proofs.YtfooahhdikobeaaGreat
open Go.ChangeShapes Go.WideShapes Go.ChangeAt Go.RowKit
set_option linter.unusedVariables false
set_option linter.unusedSimpArgs false
set_option maxRecDepth 100000
attribute [local go_sem ↓] Go.wp_at_zero Go.wp_at_succ
namespace Nt
open W1 Rt
/-- How many bytes the frames have. -/
def totF : List Fm.R → Int
  | [] => 0
  | m :: r => (m.bs.size : Int) + totF r
theorem totF_nonneg : ∀ fs : List Fm.R, 0 ≤ totF fs
  | [] => Int.le_refl _
  | m :: r => by have := totF_nonneg r; unfold totF; omega
theorem totF_append (a b : List Fm.R) : totF (a ++ b) = totF a + totF b := by
  induction a with
  | nil => simp [totF]
  | cons m r ih => simp only [List.cons_append, totF, ih]; omega
theorem totF_take {fs : List Fm.R} {j : Nat} (h : j < fs.length) : totF (fs.take (j + 1)) = totF (fs.take j) + ((fs.getD j Fm.R.zero).bs.size : Int) := by
  rw [take_snoc Fm.R.zero h, totF_append]; simp [totF]
set_option maxHeartbeats 8000000 in
theorem szNS (a : Option Addr) (ms : List Rm) (ps : List Pl) (cap : Nat) (L : Int) (w : World) (hL : 0 ≤ L) (hL1 : L ≤ 1048576) (hm : ms.length ≤ maxLen) (hs : ∀ i, i < ms.length → Sx (ms.getD i Rm.zero)) (hr : NR w a ms ps) :
    Calls Tryz.prog 38 #[.slice a ms.length cap, .int .i64 L] w fun e w' => ∃ r : Int, e = .returned (.int .i64 r) ∧ Below w.heap.size w w' ∧ (r < 0 ∨ (0 ≤ r ∧ r = L - ms.length - tot ms)) := by
  unfold maxLen at hm
  have HR := hide hr
  have HS := hide hs
  clear hr hs
  obtain ⟨n, hN⟩ : ∃ n, ms.length = n := ⟨_, rfl⟩
  rw [hN] at hm ⊢
  have HN := hide hN
  have HTT := hide (show tot (ms.take ms.length) = tot ms by rw [List.take_length])
  rw [hN] at HTT
  clear hN
  obtain ⟨T, hT⟩ : ∃ T, tot ms = T := ⟨_, rfl⟩
  rw [hT] at HTT ⊢
  have HT := hide hT
  clear hT
  by_cases h0 : L - n < 0
  · go_enter Tryz.func38, Tryz.ntmps38
    go_wp2
    go_ret
    exact ⟨_, rfl, Below.refl _ _, .inl (by omega)⟩
  obtain ⟨M, hM⟩ : ∃ M, L - (n : Int) = M := ⟨_, rfl⟩
  have HM := hide hM
  have hM0 : 0 ≤ M := by omega
  have hM1 : M ≤ 1048576 := by omega
  have h0' : ¬ M < 0 := by omega
  clear h0
  go_enter Tryz.func38, Tryz.ntmps38
  go_wp2_with fail
  try rw [hM]
  go_wp2_with fail
  clear hM h0'
  go_loopw [1, 5] (fun r i wr => ∃ j : Nat, j ≤ n ∧ i = .int .i64 j ∧ ∃ q : Int, r = .int .i64 q ∧ 0 ≤ q ∧ q ≤ 1048576 ∧ Hid (q = M - tot (ms.take j)) ∧ Hid (Below w.heap.size w wr)) (fun _ i _ => n - (intOf i).toNat)
  case atStart => exact ⟨0, by omega, rfl, M, rfl, hM0, hM1, hide (by simp [tot]), hide (Below.refl _ _)⟩
  case round =>
    obtain ⟨j, hj, rfl, q, rfl, hq0, hq1, hq, hbl⟩ := hrel
    by_cases hlt : (j : Int) < (n : Int)
    · have k0 : (0 : Int) ≤ (j : Int) := by omega
      have hlen : j < ms.length := by rw [unhide HN]; omega
      obtain ⟨g, off, rfl, hA, hD⟩ := ((unhide HR).below (unhide hbl)).at hlen
      have HA := hide hA
      have HX := hide ((unhide HS) j hlen)
      have HTK := hide (tot_take hlen)
      clear hlen hA hD
      generalize ms.getD j Rm.zero = m at *
      generalize ps.getD j Pl.zero = p at *
      go_wp2_with (refine loadW _ rfl rfl (unhide HA) rfl ?_)
      refine (szN m p q _ hq0 hq1 (unhide HX)).mono ?_
      rintro e w1 ⟨r, rfl, b1, hr⟩
      have HB1 := hide ((unhide hbl).trans (b1.mono (unhide hbl).size))
      have hc := cnt_nonneg m
      rcases hr with hr | ⟨hr0, hr1⟩
      · clear b1 HA HX HTK hc
        go_wp2_with fail
        go_ret
        exact ⟨_, rfl, unhide HB1, .inl (by omega)⟩
      · have HQ : Hid (r = M - tot (ms.take (j + 1))) := hide (by have := unhide hq; have := unhide HTK; omega)
        have hrn : ¬ r < 0 := by omega
        have hrm : r ≤ 1048576 := by omega
        clear b1 HA HX HTK hc hr1 hq
        go_wp2_with fail
        go_roundw
        case rel => exact ⟨j + 1, by omega, by go_num, r, rfl, hr0, hrm, HQ, HB1⟩
        case measure => simp [intOf]; omega
    · obtain rfl : j = n := by omega
      go_wp2_with fail
      go_ret
      exact ⟨_, rfl, unhide hbl, .inr ⟨hq0, by have := unhide hq; have := unhide HTT; have := unhide HM; omega⟩⟩
set_option maxHeartbeats 1000000 in
theorem szF (fr tt ti : Int) (bs : ByteArray) (L : Int) (w : World) (hL : 0 ≤ L) (hL1 : L ≤ 1048576) (hz : bs.size ≤ maxLen) :
    Calls Tryz.prog 82 #[.agg #[.int .i64 fr, .int .i64 tt, .int .i64 ti, .string bs], .int .i64 L] w fun e w' => ∃ r : Int, e = .returned (.int .i64 r) ∧ Below w.heap.size w w' ∧ (r < 0 ∨ (0 ≤ r ∧ r = L - bs.size)) := by
  unfold maxLen at hz
  by_cases h0 : L - bs.size < 0
  all_goals
    go_enter Tryz.func82, Tryz.ntmps82
    go_wp2
    go_ret
  · exact ⟨_, rfl, (Below.refl _ _).alloc (Nat.le_refl _) _, .inl (by omega)⟩
  · exact ⟨_, rfl, (Below.refl _ _).alloc (Nat.le_refl _) _, .inr ⟨by omega, rfl⟩⟩
set_option maxHeartbeats 8000000 in
theorem szFS (a : Option Addr) (fs : List Fm.R) (cap : Nat) (L : Int) (w : World) (hL : 0 ≤ L) (hL1 : L ≤ 1048576) (hm : fs.length ≤ maxLen) (hs : ∀ i, i < fs.length → (fs.getD i Fm.R.zero).bs.size ≤ maxLen) (hr : Fm.RM w a fs) :
    Calls Tryz.prog 40 #[.slice a fs.length cap, .int .i64 L] w fun e w' => ∃ r : Int, e = .returned (.int .i64 r) ∧ Below w.heap.size w w' ∧ (r < 0 ∨ (0 ≤ r ∧ r = L - fs.length - totF fs)) := by
  unfold maxLen at hm
  have HR := hide hr
  have HS := hide hs
  clear hr hs
  obtain ⟨n, hN⟩ : ∃ n, fs.length = n := ⟨_, rfl⟩
  rw [hN] at hm ⊢
  have HN := hide hN
  have HTT := hide (show totF (fs.take fs.length) = totF fs by rw [List.take_length])
  rw [hN] at HTT
  clear hN
  obtain ⟨T, hT⟩ : ∃ T, totF fs = T := ⟨_, rfl⟩
  rw [hT] at HTT ⊢
  have HT := hide hT
  clear hT
  by_cases h0 : L - n < 0
  · go_enter Tryz.func40, Tryz.ntmps40
    go_wp2
    go_ret
    exact ⟨_, rfl, Below.refl _ _, .inl (by omega)⟩
  obtain ⟨M, hM⟩ : ∃ M, L - (n : Int) = M := ⟨_, rfl⟩
  have HM := hide hM
  have hM0 : 0 ≤ M := by omega
  have hM1 : M ≤ 1048576 := by omega
  have h0' : ¬ M < 0 := by omega
  clear h0
  go_enter Tryz.func40, Tryz.ntmps40
  go_wp2_with fail
  try rw [hM]
  go_wp2_with fail
  clear hM h0'
  go_loopw [1, 5] (fun r i wr => ∃ j : Nat, j ≤ n ∧ i = .int .i64 j ∧ ∃ q : Int, r = .int .i64 q ∧ 0 ≤ q ∧ q ≤ 1048576 ∧ Hid (q = M - totF (fs.take j)) ∧ Hid (Below w.heap.size w wr)) (fun _ i _ => n - (intOf i).toNat)
  case atStart => exact ⟨0, by omega, rfl, M, rfl, hM0, hM1, hide (by simp [totF]), hide (Below.refl _ _)⟩
  case round =>
    obtain ⟨j, hj, rfl, q, rfl, hq0, hq1, hq, hbl⟩ := hrel
    by_cases hlt : (j : Int) < (n : Int)
    · have k0 : (0 : Int) ≤ (j : Int) := by omega
      have hlen : j < fs.length := by rw [unhide HN]; omega
      rcases (unhide HR).below (by exact (unhide hbl)) with e0 | ⟨g, off, rfl, hc⟩
      · exfalso; rw [e0] at hlen; simp at hlen
      have hA := hc j hlen
      have HX := hide ((unhide HS) j hlen)
      have HTK := hide (totF_take hlen)
      clear hlen hc
      generalize fs.getD j Fm.R.zero = m at *
      obtain ⟨fr, tt, ti, bs⟩ := m
      obtain ⟨c0, c1, c2, c3⟩ := hA
      dsimp only at c0 c1 c2 c3 HX HTK
      go_wp2_with fail
      refine (szF fr tt ti bs q _ hq0 hq1 (unhide HX)).mono ?_
      rintro e w1 ⟨r, rfl, b1, hr⟩
      clear c0 c1 c2 c3
      have HB1 := hide ((unhide hbl).trans (b1.mono (unhide hbl).size))
      rcases hr with hr | ⟨hr0, hr1⟩
      · clear b1 HX HTK
        go_wp2_with fail
        go_ret
        exact ⟨_, rfl, unhide HB1, .inl (by omega)⟩
      · have HQ : Hid (r = M - totF (fs.take (j + 1))) := hide (by have := unhide hq; have := unhide HTK; omega)
        have hrn : ¬ r < 0 := by omega
        have hrm : r ≤ 1048576 := by omega
        clear b1 HX HTK hr1 hq
        go_wp2_with fail
        go_roundw
        case rel => exact ⟨j + 1, by omega, by go_num, r, rfl, hr0, hrm, HQ, HB1⟩
        case measure => simp [intOf]; omega
    · obtain rfl : j = n := by omega
      go_wp2_with fail
      go_ret
      exact ⟨_, rfl, unhide hbl, .inr ⟨hq0, by have := unhide hq; have := unhide HTT; have := unhide HM; omega⟩⟩
set_option maxHeartbeats 1000000 in
theorem szI (a : Option Addr) (n cap : Nat) (L : Int) (w : World) (hL : 0 ≤ L) (hL1 : L ≤ 1048576) (hm : n ≤ maxLen) :
    Calls Tryz.prog 39 #[.slice a n cap, .int .i64 L] w fun e w' => ∃ r : Int, e = .returned (.int .i64 r) ∧ w' = w ∧ (r < 0 ∨ (0 ≤ r ∧ r = L - n)) := by
  unfold maxLen at hm
  by_cases h0 : L - n < 0
  all_goals
    go_enter Tryz.func39, Tryz.ntmps39
    go_wp2
    go_ret
  · exact ⟨_, rfl, rfl, .inl (by omega)⟩
  · exact ⟨_, rfl, rfl, .inr ⟨by omega, rfl⟩⟩
set_option maxHeartbeats 8000000 in
theorem szNt (a b d : Option Addr) (ca cb cd : Nat) (t : Int) (ms : List Rm) (ps : List Pl) (cs : List Int) (fs : List Fm.R) (L : Int) (w : World) (hL : 0 ≤ L) (hL1 : L ≤ 1048576) (hm : ms.length ≤ maxLen) (hc : cs.length ≤ maxLen) (hf : fs.length ≤ maxLen) (hs : ∀ i, i < ms.length → Sx (ms.getD i Rm.zero)) (hg : ∀ i, i < fs.length → (fs.getD i Fm.R.zero).bs.size ≤ maxLen) (hr : NR w a ms ps) (hz : Fm.RM w d fs) :
    Calls Tryz.prog 11 #[.agg #[.slice a ms.length ca, .slice b cs.length cb, .slice d fs.length cd, .int .i64 t], .int .i64 L] w fun e w' => ∃ r : Int, e = .returned (.int .i64 r) ∧ Below w.heap.size w w' ∧ (r < 0 ∨ (0 ≤ r ∧ r = L - ms.length - tot ms - cs.length - fs.length - totF fs)) := by
  have b0 := bel_new w (.cells #[.slice a ms.length ca, .slice b cs.length cb, .slice d fs.length cd, .int .i64 t] 26)
  have HX0 := hide (nb_new w (.slice a ms.length ca) (.slice b cs.length cb) (.slice d fs.length cd) t 26)
  have HR := hide (hr.below b0)
  have HZ := hide (hz.below b0)
  have HB0 := hide b0
  have HS := hide hs
  have HG := hide hg
  have t0 := tot_nonneg ms
  clear b0 hr hz hs hg
  go_enter Tryz.func11, Tryz.ntmps11
  go_wp2_with fail
  generalize w.alloc (.cells #[.slice a ms.length ca, .slice b cs.length cb, .slice d fs.length cd, .int .i64 t] 26) = w0 at *
  refine (szNS _ ms ps _ L _ hL hL1 hm (unhide HS) (unhide HR)).mono ?_
  rintro e w1 ⟨r1, rfl, b1, h1⟩
  have HB1 := hide ((unhide HB0).trans (b1.mono (unhide HB0).size))
  have HX1 := hide ((unhide HX0).below b1)
  have HZ1 := hide ((unhide HZ).below b1)
  clear HB0 HX0 HZ HR b1
  rcases h1 with h1 | ⟨h1, h1'⟩
  · go_wp2_with fail
    go_ret
    exact ⟨_, rfl, unhide HB1, .inl (by omega)⟩
  have hn1 : ¬ r1 < 0 := by omega
  have hu1 : r1 ≤ 1048576 := by omega
  have HE1 := hide h1'
  clear h1'
  obtain ⟨p0, p1, p2, p3⟩ := unhide HX1
  go_wp2_with fail
  clear p0 p1 p2 p3
  refine (szI _ _ _ r1 _ h1 hu1 hc).mono ?_
  rintro e w2 ⟨r2, rfl, hw2, h2⟩
  subst hw2
  rcases h2 with h2 | ⟨h2, h2'⟩
  · go_wp2_with fail
    go_ret
    exact ⟨_, rfl, unhide HB1, .inl (by omega)⟩
  have hn2 : ¬ r2 < 0 := by omega
  have hu2 : r2 ≤ 1048576 := by omega
  have HE2 := hide h2'
  clear h2'
  obtain ⟨p0, p1, p2, p3⟩ := unhide HX1
  go_wp2_with fail
  clear p0 p1 p2 p3
  refine (szFS _ fs _ r2 _ h2 hu2 hf (unhide HG) (unhide HZ1)).mono ?_
  rintro e w3 ⟨r3, rfl, b3, h3⟩
  have HB3 := hide ((unhide HB1).trans (b3.mono (unhide HB1).size))
  clear HB1 HX1 HZ1 b3
  rcases h3 with h3 | ⟨h3, h3'⟩
  · go_wp2_with fail
    go_ret
    exact ⟨_, rfl, unhide HB3, .inl (by omega)⟩
  have hn3 : ¬ r3 < 0 := by omega
  have HE3 := hide h3'
  clear h3'
  go_wp2_with fail
  go_ret
  exact ⟨_, rfl, unhide HB3, .inr ⟨h3, by have := unhide HE1; have := unhide HE2; have := unhide HE3; omega⟩⟩
end Nt
end Go.Proofs.YtfooahhdikobeaaGreat
namespace Go.Proofs.YtfooahhdikobeaaGreat
open Go.ChangeShapes Go.WideShapes Go.ChangeAt Go.RowKit
set_option linter.unusedVariables false
set_option linter.unusedSimpArgs false
set_option maxRecDepth 100000
attribute [local go_sem ↓] Go.wp_at_zero Go.wp_at_succ
namespace Nt
open W1 Rt
set_option maxHeartbeats 4000000 in
/-- The cells that read as a router. -/
theorem open_one {H : Type} {enc : TypeId × Value → H} {W : World} {fuel : Nat} {c : List Value} {y : DataW H × List MemPlace} (hl : c.length = 13)
    (hf : DataW.trod enc Tryz.prog W 0 (fun _ => true) true fuel 114 c = some y) : ∃ (m : Rm) (p : Pl), c = cl m p ∧ Sx m ∧ Rd W m p := by
  obtain ⟨c0, c1, c2, c3, c4, c5, c6, c7, c8, c9, c10, c11, c12, rfl⟩ := list13 hl
  obtain ⟨xs, n, _, _, _, hlen, hf⟩ := DataW.trod_struct Tryz.underlying114 hf
  obtain ⟨x0, x1, x2, x3, x4, x5, x6, x7, x8, x9, x10, x11, rfl⟩ := list12 hlen
  have k0 := hf 0 _ rfl
  have k1 := hf 1 _ rfl
  have k2 := hf 2 _ rfl
  have k3 := hf 3 _ rfl
  have k4 := hf 4 _ rfl
  have k5 := hf 5 _ rfl
  have k6 := hf 6 _ rfl
  have k7 := hf 7 _ rfl
  have k8 := hf 8 _ rfl
  have k9 := hf 9 _ rfl
  have k10 := hf 10 _ rfl
  have k11 := hf 11 _ rfl
  clear hf hlen
  simp [cells_int, cells_lk, cells_tu, cells_ed, cells_top] at k0 k1 k2 k3 k4 k5 k6 k7 k8 k9 k10 k11
  obtain ⟨a0, e0, _, _⟩ := DataW.trod_int Tryz.underlying3 k0
  obtain ⟨a1, e1, _, _⟩ := DataW.trod_int Tryz.underlying3 k1
  obtain ⟨a2, e2, _, _⟩ := DataW.trod_int Tryz.underlying3 k2
  obtain ⟨a3, e3, _, _⟩ := DataW.trod_int Tryz.underlying3 k3
  obtain ⟨a4, e4, _, _⟩ := DataW.trod_int Tryz.underlying3 k4
  obtain ⟨a11, e11, _, _⟩ := DataW.trod_int Tryz.underlying3 k11
  simp at e0 e1 e2 e3 e4 e11
  subst e0 e1 e2 e3 e4 e11
  obtain ⟨ys, n', _, _, _, hlen', hg⟩ := DataW.trod_struct Tryz.underlying111 k9
  obtain ⟨y0, y1, rfl⟩ := Tq.listR hlen'
  have t0 := hg 0 _ rfl
  have t1 := hg 1 _ rfl
  simp [cells_so, cells_tu] at t0 t1
  obtain ⟨g1, l1, p1, m1, rfl, h1, j1, r1⟩ := Lk.open_cell k5
  obtain ⟨g2, l2, p2, m2, rfl, h2, j2, r2⟩ := Tq.open_cellT k6
  obtain ⟨g3, l3, p3, m3, rfl, h3, j3, r3⟩ := Tq.open_cellT k7
  obtain ⟨g4, l4, p4, m4, rfl, h4, j4, r4⟩ := Tq.open_cellT k8
  obtain ⟨g5, l5, p5, m5, rfl, h5, j5, r5⟩ := So.open_cell t0
  obtain ⟨g6, l6, p6, m6, rfl, h6, j6, r6⟩ := Tq.open_cellT t1
  obtain ⟨g7, l7, p7, m7, rfl, h7, j7, r7⟩ := Ed.open_cell k10
  subst h1 h2 h3 h4 h5 h6 h7
  exact ⟨⟨a0, a1, a2, a3, a4, a11, m1, m2, m3, m4, m5, m6, m7⟩, ⟨g1, g2, g3, g4, g5, g6, g7, p1, p2, p3, p4, p5, p6, p7⟩, rfl, ⟨j1, j2, j3, j4, j5, j6, j7⟩, r1, r2, r3, r4, r5, r6, r7⟩
theorem plain_add (b off k : Nat) : (⟨b, off, none⟩ : Addr).add k = ⟨b, off + k, none⟩ := by unfold Addr.add; split <;> simp_all
/-- A row of routers that came in. -/
theorem open_row {H : Type} {enc : TypeId × Value → H} {W : World} {v : Value} {fuel : Nat} {y : DataW H × List MemPlace}
    (hf : DataW.trod enc Tryz.prog W 0 (fun _ => true) true fuel 22 [v] = some y) : ∃ a len cap, ∃ (ms : List Rm) (ps : List Pl), v = .slice a len cap ∧ ms.length = len ∧ len ≤ maxLen ∧ (∀ i, i < ms.length → Sx (ms.getD i Rm.zero)) ∧ NR W a ms ps := by
  rcases Deep.open_slice Tryz.underlying22 hf with ⟨hcs, _⟩ | ⟨x, len, cap, m, n, D, Pc, hcs, _, hl, hm, hmm, _, hx⟩
  · simp only [List.cons.injEq, and_true] at hcs
    subst hcs
    exact ⟨none, 0, 0, [], [], rfl, rfl, Nat.zero_le _, fun i hi => absurd hi (Nat.not_lt_zero i), .inl rfl⟩
  · simp only [List.cons.injEq, and_true] at hcs
    subst hcs
    simp at hmm
    subst hmm
    rw [cells13] at hx
    by_cases h0 : len = 0
    · subst h0; exact ⟨_, _, _, [], [], rfl, rfl, Nat.zero_le _, fun i hi => absurd hi (Nat.not_lt_zero i), .inl rfl⟩
    obtain ⟨b, off, spot⟩ := x
    have hsp : spot = none := by
      obtain ⟨cs', h1, _⟩ := hx 0 (by omega)
      obtain ⟨_, hlen, hc⟩ := World.cells?_some h1
      have h2 := hc 0 (by omega)
      rw [List.getElem?_eq_getElem (by omega)] at h2
      simpa [Addr.add] using World.cell?_spot h2
    subst hsp
    have hex : ∀ i, i < len → ∃ mp : Rm × Pl, W.rangeAt b (off + i * 13) (cl mp.1 mp.2) ∧ Sx mp.1 ∧ Rd W mp.1 mp.2 := by
      intro i hi
      obtain ⟨cs', h1, h2⟩ := hx i (by omega)
      obtain ⟨_, hlen, hc⟩ := World.cells?_some h1
      obtain ⟨m, p, rfl, hs, hr⟩ := open_one hlen h2
      refine ⟨(m, p), fun j u hu => ?_, hs, hr⟩
      have hj : j < 13 := by
        rcases Nat.lt_or_ge j 13 with h | h
        · exact h
        · rw [List.getElem?_eq_none (by rw [cl_len]; exact h)] at hu; cases hu
      have q := hc j hj
      rw [plain_add, plain_add] at q
      rw [q]; exact hu
    have hin : Inhabited (Rm × Pl) := ⟨(Rm.zero, Pl.zero)⟩
    obtain ⟨V, hV⟩ := Deep.choose_lt hex
    have e1 : ∀ i, i < len → ((List.range len).map fun i => (V i).1).getD i Rm.zero = (V i).1 := fun i hi => by
      rw [List.getD_eq_getElem?_getD, List.getElem?_map, List.getElem?_range hi]; rfl
    have e2 : ∀ i, i < len → ((List.range len).map fun i => (V i).2).getD i Pl.zero = (V i).2 := fun i hi => by
      rw [List.getD_eq_getElem?_getD, List.getElem?_map, List.getElem?_range hi]; rfl
    refine ⟨_, _, _, (List.range len).map fun i => (V i).1, (List.range len).map fun i => (V i).2, rfl, by simp, Nat.le_trans hl hm, fun i hi => ?_, .inr ⟨b, off, rfl, fun i hi => ?_⟩⟩
    all_goals have hi' : i < len := by simpa using hi
    · rw [e1 i hi']; exact (hV i hi').2.1
    · rw [e1 i hi', e2 i hi']; exact ⟨(hV i hi').1, (hV i hi').2.2⟩
theorem cellsNet : Tryz.prog.cellsOf 26 = 4 := by kernel_rfl
theorem cells_ro : Tryz.prog.cellsOf 22 = 1 := by kernel_rfl
theorem cells_in : Tryz.prog.cellsOf 23 = 1 := by kernel_rfl
theorem cells_fr : Tryz.prog.cellsOf 24 = 1 := by kernel_rfl
theorem cells_i : Tryz.prog.cellsOf 3 = 1 := by kernel_rfl
theorem list4 {α : Type} {l : List α} (h : l.length = 4) : ∃ c0 c1 c2 c3, l = [c0, c1, c2, c3] := by
  match l, h with
  | [c0, c1, c2, c3], _ => exact ⟨c0, c1, c2, c3, rfl⟩
/-- A list of ints within a struct that came in. -/
theorem open_ints_cell {H : Type} {enc : TypeId × Value → H} {W : World} {v : Value} {fuel : Nat} {y : DataW H × List MemPlace}
    (hf : DataW.trod enc Tryz.prog W 0 (fun _ => true) true fuel 23 [v] = some y) : ∃ a len cap, ∃ zs : List Int, v = .slice a len cap ∧ zs.length = len ∧ len ≤ maxLen ∧ In.RM W a zs := by
  obtain ⟨a, len, cap, hv⟩ : ∃ a len cap, v = .slice a len cap := by
    rcases open_ints Tryz.underlying23 Tryz.underlying3 (by kernel_rfl) hf with ⟨hcs, _⟩ | ⟨x, l, c, zs, hcs, _⟩
    · simp at hcs; exact ⟨_, _, _, hcs⟩
    · simp at hcs; exact ⟨_, _, _, hcs⟩
  subst hv
  obtain ⟨zs, h1, h2, h3⟩ := In.open_list (a := a) (len := len) (cap := cap) (d := y.1) (p := y.2) ⟨fuel, hf⟩
  exact ⟨a, len, cap, zs, rfl, h1, h2, h3⟩
set_option maxHeartbeats 4000000 in
/-- A net that came in by value. -/
theorem open_net {H : Type} {enc : TypeId × Value → H} {W : World} {r : Reach} {b0 : Nat} {v : Value} {d : DataW H} {p : List MemPlace}
    (hv : Value.okWide Tryz.prog W r b0 26 v) (h : DataW.Trod enc Tryz.prog W 0 (fun _ => true) true 26 v d p) :
    ∃ a b d ca cb cd t, ∃ (ms : List Rm) (ps : List Pl) (cs : List Int) (fs : List Fm.R), v = .agg #[.slice a ms.length ca, .slice b cs.length cb, .slice d fs.length cd, .int .i64 t] ∧ (ms.length ≤ maxLen ∧ cs.length ≤ maxLen ∧ fs.length ≤ maxLen ∧ (∀ i, i < ms.length → Sx (ms.getD i Rm.zero)) ∧ ∀ i, i < fs.length → (fs.getD i Fm.R.zero).bs.size ≤ maxLen) ∧ NR W a ms ps ∧ In.RM W b cs ∧ Fm.RM W d fs := by
  obtain ⟨cs, rfl, hsz⟩ := okWide_struct Tryz.underlying26 hv
  obtain ⟨l⟩ := cs
  obtain ⟨c0, c1, c2, c3, rfl⟩ := list4 (hsz.trans cellsNet)
  obtain ⟨fuel, hf⟩ := h
  obtain ⟨xs, n, _, _, _, hlen, hf⟩ := DataW.trod_struct Tryz.underlying26 hf
  obtain ⟨x0, x1, x2, x3, rfl⟩ := list4 hlen
  have k0 := hf 0 _ rfl
  have k1 := hf 1 _ rfl
  have k2 := hf 2 _ rfl
  have k3 := hf 3 _ rfl
  clear hf hsz hv hlen
  simp [Value.cells, cells_ro, cells_in, cells_fr, cells_i] at k0 k1 k2 k3
  obtain ⟨t, e3, _, _⟩ := DataW.trod_int Tryz.underlying3 k3
  simp at e3
  subst e3
  obtain ⟨a, l0, ca, ms, ps, rfl, h0, j0, s0, r0⟩ := open_row k0
  obtain ⟨b, l1, cb, zs, rfl, h1, j1, r1⟩ := open_ints_cell k1
  obtain ⟨d, l2, cd, fs, rfl, h2, j2, r2, s2⟩ := Fm.open_cell k2
  subst h0 h1 h2
  exact ⟨a, b, d, ca, cb, cd, t, ms, ps, zs, fs, rfl, ⟨j0, j1, j2, s0, s2⟩, r0, r1, r2⟩
end Nt
end Go.Proofs.YtfooahhdikobeaaGreat
namespace Go.Proofs.YtfooahhdikobeaaGreat
open Go.ChangeShapes Go.WideShapes Go.ChangeAt Go.RowKit
set_option linter.unusedVariables false
set_option linter.unusedSimpArgs false
set_option maxRecDepth 100000
attribute [local go_sem ↓] Go.wp_at_zero Go.wp_at_succ
namespace Nt
open W1 Rt
set_option maxHeartbeats 8000000 in
theorem eqNS (a b : Option Addr) (ms : List Rm) (ps qs : List Pl) (ca cb : Nat) (w : World) (hm : ms.length ≤ 1048576) (hs : ∀ i, i < ms.length → Sm (ms.getD i Rm.zero)) (hr : NR w a ms ps) (hr' : NR w b ms qs) :
    Calls Tryz.prog 54 #[.slice a ms.length ca, .slice b ms.length cb] w fun e w' => e = .returned (.bool true) ∧ Below w.heap.size w w' := by
  have HR := hide hr
  have HR' := hide hr'
  have HS := hide hs
  clear hr hr' hs
  generalize hN : ms.length = n at *
  have HN := hide hN
  clear hN
  go_enter Tryz.func54, Tryz.ntmps54
  go_wp2
  go_loopw [5] (fun i wr => ∃ j : Nat, j ≤ n ∧ i = .int .i64 j ∧ Hid (Below w.heap.size w wr)) (fun i _ => n - (intOf i).toNat)
  case atStart => exact ⟨0, by omega, rfl, hide (Below.refl _ _)⟩
  case round =>
    obtain ⟨j, hj, rfl, hbl⟩ := hrel
    by_cases hlt : (j : Int) < (n : Int)
    · have k0 : (0 : Int) ≤ (j : Int) := by omega
      have hlen : j < ms.length := by rw [unhide HN]; omega
      obtain ⟨g, off, rfl, hA, hD⟩ := ((unhide HR).below (unhide hbl)).at hlen
      obtain ⟨g', off', rfl, hA', hD'⟩ := ((unhide HR').below (unhide hbl)).at hlen
      have HM := hide ((unhide HS) j (by omega))
      have HA := hide hA
      have HA' := hide hA'
      have HD := hide hD
      have HD' := hide hD'
      clear hlen hA hA' hD hD'
      generalize ms.getD j Rm.zero = m at *
      generalize ps.getD j Pl.zero = p at *
      generalize qs.getD j Pl.zero = q at *
      go_wp2_with fail
      refine wp_region_noPanic ?_
      refine wp_region_held_drew (S := fun w' => w'.rangeAt g (off + j * 13) (cl m p) ∧ w'.rangeAt g' (off' + j * 13) (cl m q)) (by kernel_rfl) (⟨unhide HA, unhide HA'⟩) (fun hHeld => ?_)
      refine Rg.t 0 17 ?_
      refine Rg.t 1 18 ?_
      refine Rg.t 2 19 ?_
      refine Rg.t (v := .agg (cl m p).toArray) 3 20 ?_ (hv := fun w0 hSw => execI _ rfl rfl hSw.1)
      refine Rg.t 4 21 ?_
      refine Rg.t 5 22 ?_
      refine Rg.t 6 23 ?_
      refine Rg.t (v := .agg (cl m q).toArray) 7 24 ?_ (hv := fun w0 hSw => execI _ rfl rfl hSw.2)
      (refine Rg.o 8 (fun K hK => ?_); go_simp)
      refine (eqN m p q wr.drew (unhide HM) (unhide HD).drew (unhide HD').drew).mono ?_
      rintro e w1 ⟨rfl, b1⟩
      refine hK.out _ _ ⟨rng_below (w := wr.drew) (unhide HA) b1, rng_below (w := wr.drew) (unhide HA') b1⟩ (fun hHeld => ?_)
      clear hK K
      (try simp only [Act.put, List.setIfInBounds_toArray, List.set_cons_zero, List.set_cons_succ])
      refine Rg.t 9 26 ?_
      refine wpAnyH_done (by kernel_rfl) (NoPanic.normal ?_) _
      have hb1 := hide ((unhide hbl).drew.trans (b1.mono (by show w.heap.size ≤ wr.heap.size; exact (unhide hbl).size)))
      clear hHeld b1 HA HA' HD HD'
      go_wp2_with fail
      go_roundw
      case rel => exact ⟨j + 1, by omega, by go_num, hb1⟩
      case measure => simp [intOf]; omega
    · go_wp2
      go_ret
      exact ⟨rfl, unhide hbl⟩
set_option maxHeartbeats 8000000 in
theorem eqNt (a b d a' b' d' : Option Addr) (ca cb cd ca' cb' cd' : Nat) (t : Int) (ms : List Rm) (ps qs : List Pl) (cs : List Int) (fs : List Fm.R) (w : World) (hm : ms.length ≤ 1048576) (hc : cs.length ≤ 1048576) (hf : fs.length ≤ 1048576) (hs : ∀ i, i < ms.length → Sm (ms.getD i Rm.zero)) (hr : NR w a ms ps) (hr' : NR w a' ms qs) (hi : In.RM w b cs) (hi' : In.RM w b' cs) (hz : Fm.RM w d fs) (hz' : Fm.RM w d' fs) :
    Calls Tryz.prog 15 #[.agg #[.slice a ms.length ca, .slice b cs.length cb, .slice d fs.length cd, .int .i64 t], .agg #[.slice a' ms.length ca', .slice b' cs.length cb', .slice d' fs.length cd', .int .i64 t]] w fun e w' => e = .returned (.bool true) ∧ Below w.heap.size w w' := by
  have b0 : Below w.heap.size w ((w.alloc (.cells #[.slice a ms.length ca, .slice b cs.length cb, .slice d fs.length cd, .int .i64 t] 31)).alloc (.cells #[.slice a' ms.length ca', .slice b' cs.length cb', .slice d' fs.length cd', .int .i64 t] 31)) := ((Below.refl _ _).alloc (Nat.le_refl _) _).alloc (by simp) _
  have HX0 : Hid (NB _ w.heap.size _ _ _ _) := hide ((nb_new w (.slice a ms.length ca) (.slice b cs.length cb) (.slice d fs.length cd) t 31).below (bel_new _ (.cells #[.slice a' ms.length ca', .slice b' cs.length cb', .slice d' fs.length cd', .int .i64 t] 31)))
  have HY0 : Hid (NB _ (w.heap.size + 1) _ _ _ _) := hide (by have := nb_new (w.alloc (.cells #[.slice a ms.length ca, .slice b cs.length cb, .slice d fs.length cd, .int .i64 t] 31)) (.slice a' ms.length ca') (.slice b' cs.length cb') (.slice d' fs.length cd') t 31; simpa using this)
  have HB0 := hide b0
  have HR := hide (hr.below b0)
  have HR' := hide (hr'.below b0)
  have HI := hide (hi.below b0)
  have HI' := hide (hi'.below b0)
  have HZ := hide (hz.below b0)
  have HZ' := hide (hz'.below b0)
  have HS := hide hs
  have hne : (t != t) = false := by simp
  clear hr hr' hi hi' hz hz' hs b0
  go_enter Tryz.func15, Tryz.ntmps15
  go_wp2_with fail
  generalize (w.alloc (.cells #[.slice a ms.length ca, .slice b cs.length cb, .slice d fs.length cd, .int .i64 t] 31)).alloc (.cells #[.slice a' ms.length ca', .slice b' cs.length cb', .slice d' fs.length cd', .int .i64 t] 31) = w0 at *
  refine (eqNS _ _ ms ps qs _ _ _ hm (unhide HS) (unhide HR) (unhide HR')).mono ?_
  rintro e w1 ⟨rfl, b1⟩
  have HX1 := hide ((unhide HX0).below b1)
  have HY1 := hide ((unhide HY0).below b1)
  have HB1 := hide ((unhide HB0).trans (b1.mono (unhide HB0).size))
  have HI1 := hide ((unhide HI).below b1)
  have HI1' := hide ((unhide HI').below b1)
  have HZ1 := hide ((unhide HZ).below b1)
  have HZ1' := hide ((unhide HZ').below b1)
  clear HX0 HY0 HB0 HI HI' HZ HZ' HR HR' b1
  obtain ⟨p0, p1, p2, p3⟩ := unhide HX1
  obtain ⟨q0, q1, q2, q3⟩ := unhide HY1
  go_wp2_with fail
  clear p0 p1 p2 p3 q0 q1 q2 q3
  refine (In.eqS _ _ cs _ _ _ hc (unhide HI1) (unhide HI1')).mono ?_
  rintro e w2 ⟨rfl, b2⟩
  have HX2 := hide ((unhide HX1).below b2)
  have HY2 := hide ((unhide HY1).below b2)
  have HB2 := hide ((unhide HB1).trans (b2.mono (unhide HB1).size))
  have HZ2 := hide ((unhide HZ1).below b2)
  have HZ2' := hide ((unhide HZ1').below b2)
  clear HX1 HY1 HB1 HI1 HI1' HZ1 HZ1' b2
  obtain ⟨p0, p1, p2, p3⟩ := unhide HX2
  obtain ⟨q0, q1, q2, q3⟩ := unhide HY2
  go_wp2_with fail
  clear p0 p1 p2 p3 q0 q1 q2 q3
  refine (Fm.eqS _ _ fs _ _ _ hf (unhide HZ2) (unhide HZ2')).mono ?_
  rintro e w3 ⟨rfl, b3⟩
  have HX3 := hide ((unhide HX2).below b3)
  have HY3 := hide ((unhide HY2).below b3)
  have HB3 := hide ((unhide HB2).trans (b3.mono (unhide HB2).size))
  clear HX2 HY2 HB2 HZ2 HZ2' b3
  obtain ⟨p0, p1, p2, p3⟩ := unhide HX3
  obtain ⟨q0, q1, q2, q3⟩ := unhide HY3
  go_wp2_with fail
  go_ret
  exact ⟨rfl, unhide HB3⟩
end Nt
end Go.Proofs.YtfooahhdikobeaaGreat
namespace Go.Proofs.YtfooahhdikobeaaGreat.fnExactCountMarks
open Go.ChangeShapes Go.WideShapes Go.ChangeAt Go.RowKit
open W1 Rt Nt
set_option linter.unusedVariables false
set_option linter.unusedSimpArgs false
theorem own : ownKnob Tryz.prog.godebug = none := by kernel_rfl
theorem laidOut : laidOutB Tryz.prog = true := by kernel_rfl
set_option maxRecDepth 100000 in
set_option maxHeartbeats 32000000 in
theorem walk (a b d : Option Addr) (ca cb cd : Nat) (t : Int) (ms : List Rm) (ps : List Pl) (cs : List Int) (fs : List Fm.R) (hx1 : ms.length ≤ maxLen) (hx2 : cs.length ≤ maxLen) (hx3 : fs.length ≤ maxLen) (hx4 : ∀ i, i < ms.length → Sx (ms.getD i Rm.zero)) (hx5 : ∀ i, i < fs.length → (fs.getD i Fm.R.zero).bs.size ≤ maxLen) (x : Int) (wx : (Lit.int .i64 x).wf = true) (y : Int) (wy : (Lit.int .i64 y).wf = true) (w : World) (hr : NR w a ms ps) (hi : In.RM w b cs) (hz : Fm.RM w d fs) :
    Calls Tryz.prog 8 #[.agg #[.slice a ms.length ca, .slice b cs.length cb, .slice d fs.length cd, .int .i64 t], .int .i64 x, .int .i64 y] w fun e w' => e = .returned (.bool true) ∧ Below w.heap.size w w' := by
  have Q0 := hide (nb_new w (.slice a ms.length ca) (.slice b cs.length cb) (.slice d fs.length cd) t 26)
  have B0 := bel_new w (.cells #[.slice a ms.length ca, .slice b cs.length cb, .slice d fs.length cd, .int .i64 t] 26)
  have HR0 := hide (hr.below B0)
  have HI0 := hide (hi.below B0)
  have HZ0 := hide (hz.below B0)
  clear hr hi hz
  go_enter Tryz.func8, Tryz.ntmps8
  obtain ⟨k0_0, k0_1, k0_2, k0_3⟩ := unhide Q0
  go_wp2_with fail
  clear k0_0 k0_1 k0_2 k0_3
  generalize hW_ : w.alloc (.cells #[.slice a ms.length ca, .slice b cs.length cb, .slice d fs.length cd, .int .i64 t] 26) = w0 at *
  clear hW_
  refine (szNt a b d ca cb cd t ms ps cs fs 1048576 _ (by omega) (by omega) hx1 hx2 hx3 hx4 hx5 (unhide HR0) (unhide HZ0)).mono ?_
  rintro e w1 ⟨r1, rfl, b1, hs_⟩
  have B1 := B0.trans (b1.mono B0.size)
  have Q1 := hide ((unhide Q0).below b1)
  have HR1 := hide ((unhide HR0).below b1)
  have HI1 := hide ((unhide HI0).below b1)
  have HZ1 := hide ((unhide HZ0).below b1)
  clear Q0 HR0 HI0 HZ0
  rcases hs_ with hs_ | ⟨hs0, hs1⟩
  · go_wp2_with fail
    go_ret
    exact ⟨rfl, B1⟩
  have hnn : ¬ r1 < 0 := by omega
  have t0_ := tot_nonneg ms
  have t1_ := totF_nonneg fs
  have hm1 : ms.length ≤ 1048576 := by omega
  have hm2 : cs.length ≤ 1048576 := by omega
  have hm3 : fs.length ≤ 1048576 := by omega
  have HSM := hide (fun i (hi : i < ms.length) => sm_of (m := ms.getD i Rm.zero) (by have := cnt_le hi; omega))
  have HTB := hide (show (ms.length : Int) + tot ms + cs.length + fs.length + totF fs ≤ 1048576 by omega)
  have HGZ := hide hx5
  clear hs0 hs1 t0_ t1_ hx1 hx2 hx3 hx4 hx5
  obtain ⟨v1, hv1_⟩ : ∃ v1, cmV (netB ms cs fs t) ms x y = v1 := ⟨_, rfl⟩
  have Hv1 := hide hv1_
  clear hv1_
  have nv1 : (v1 != v1) = false := by simp
  obtain ⟨v2, hv2_⟩ : ∃ v2, cmC (netB ms cs fs t) x y = v2 := ⟨_, rfl⟩
  have Hv2 := hide hv2_
  clear hv2_
  have nv2 : (v2 != v2) = false := by simp
  obtain ⟨k0_0, k0_1, k0_2, k0_3⟩ := unhide Q1
  go_wp2_with fail
  clear k0_0 k0_1 k0_2 k0_3
  refine (toNt a b d ca cb cd t ms ps cs fs _ hm1 hm2 hm3 (unhide HSM) (unhide HR1) ((unhide HI1)) (unhide HZ1)).mono ?_
  rintro e w2 ⟨s1, s2, s3, sq, rfl, b2, o_⟩
  have B2 := B1.trans (b2.mono B1.size)
  have Q2 := hide ((unhide Q1).below b2)
  have HR2 := hide ((unhide HR1).below b2)
  have HI2 := hide ((unhide HI1).below b2)
  have HZ2 := hide ((unhide HZ1).below b2)
  clear Q1 HR1 HI1 HZ1
  have S2 := hide o_
  clear o_
  go_wp2_with fail
  refine (specCM _ _ _ _ _ _ t ms _ cs fs x y _ hm1 hm2 hm3 (unhide HSM) (unhide HGZ) (unhide S2).nr (unhide S2).ri (unhide S2).rf (unhide S2).ad).mono ?_
  rintro e w3 ⟨rfl, b3⟩
  have B3 := B2.trans (b3.mono B2.size)
  have Q3 := hide ((unhide Q2).below b3)
  have HR3 := hide ((unhide HR2).below b3)
  have HI3 := hide ((unhide HI2).below b3)
  have HZ3 := hide ((unhide HZ2).below b3)
  have S3 := hide ((unhide S2).below b3)
  clear Q2 HR2 HI2 HZ2 S2
  rw [unhide Hv1, unhide Hv2]
  clear S3
  obtain ⟨k0_0, k0_1, k0_2, k0_3⟩ := unhide Q3
  go_wp2_with fail
  clear k0_0 k0_1 k0_2 k0_3
  refine (toNt a b d ca cb cd t ms ps cs fs _ hm1 hm2 hm3 (unhide HSM) (unhide HR3) ((unhide HI3)) (unhide HZ3)).mono ?_
  rintro e w4 ⟨x1, x2, x3, xq, rfl, b4, o_⟩
  have B4 := B3.trans (b4.mono B3.size)
  have Q4 := hide ((unhide Q3).below b4)
  have HR4 := hide ((unhide HR3).below b4)
  have HI4 := hide ((unhide HI3).below b4)
  have HZ4 := hide ((unhide HZ3).below b4)
  clear Q3 HR3 HI3 HZ3
  have X4 := hide o_
  clear o_
  have b5 := bel_new w4 (.cells #[.slice (some ⟨x1, 0, none⟩) ms.length ms.length, .slice (some ⟨x2, 0, none⟩) cs.length cs.length, .slice (some ⟨x3, 0, none⟩) fs.length fs.length, .int .i64 t] 31)
  have B5 := B4.trans (b5.mono B4.size)
  have Q5 := hide ((unhide Q4).below b5)
  have HR5 := hide ((unhide HR4).below b5)
  have HI5 := hide ((unhide HI4).below b5)
  have HZ5 := hide ((unhide HZ4).below b5)
  have X5 := hide ((unhide X4).below b5)
  clear Q4 HR4 HI4 HZ4 X4
  have V5 := hide (nb_new w4 (.slice (some ⟨x1, 0, none⟩) ms.length ms.length) (.slice (some ⟨x2, 0, none⟩) cs.length cs.length) (.slice (some ⟨x3, 0, none⟩) fs.length fs.length) t 31)
  obtain ⟨k0_0, k0_1, k0_2, k0_3⟩ := unhide V5
  go_wp2_with fail
  clear k0_0 k0_1 k0_2 k0_3
  generalize hW_ : (w4.alloc (.cells #[.slice (some ⟨x1, 0, none⟩) ms.length ms.length, .slice (some ⟨x2, 0, none⟩) cs.length cs.length, .slice (some ⟨x3, 0, none⟩) fs.length fs.length, .int .i64 t] 31)) = w5 at *
  clear hW_
  refine (implCM _ _ _ _ _ _ t ms _ cs fs x y _ hm1 hm2 hm3 (unhide HSM) (unhide HGZ) (unhide X5).nr (unhide X5).ri (unhide X5).rf).mono ?_
  rintro e w6 ⟨rfl, b6⟩
  have B6 := B5.trans (b6.mono B5.size)
  have Q6 := hide ((unhide Q5).below b6)
  have HR6 := hide ((unhide HR5).below b6)
  have HI6 := hide ((unhide HI5).below b6)
  have HZ6 := hide ((unhide HZ5).below b6)
  have X6 := hide ((unhide X5).below b6)
  have V6 := hide ((unhide V5).below b6)
  clear Q5 HR5 HI5 HZ5 X5 V5
  rw [unhide Hv1, unhide Hv2]
  obtain ⟨k0_0, k0_1, k0_2, k0_3⟩ := unhide V6
  obtain ⟨k1_0, k1_1, k1_2, k1_3⟩ := unhide Q6
  go_wp2_with fail
  clear k0_0 k0_1 k0_2 k0_3 k1_0 k1_1 k1_2 k1_3
  refine wp_region_noPanic ?_
  refine wp_region_held_drew (S := fun w' => (w'.cell? ⟨w4.heap.size, 0, none⟩ = some (.slice (some ⟨x1, 0, none⟩) ms.length ms.length) ∧ w'.cell? ⟨w4.heap.size, 1, none⟩ = some (.slice (some ⟨x2, 0, none⟩) cs.length cs.length) ∧ w'.cell? ⟨w4.heap.size, 2, none⟩ = some (.slice (some ⟨x3, 0, none⟩) fs.length fs.length) ∧ w'.cell? ⟨w4.heap.size, 3, none⟩ = some (.int .i64 t)) ∧ (w'.cell? ⟨w.heap.size, 0, none⟩ = some (.slice a ms.length ca) ∧ w'.cell? ⟨w.heap.size, 1, none⟩ = some (.slice b cs.length cb) ∧ w'.cell? ⟨w.heap.size, 2, none⟩ = some (.slice d fs.length cd) ∧ w'.cell? ⟨w.heap.size, 3, none⟩ = some (.int .i64 t))) (by kernel_rfl) (⟨unhide V6, unhide Q6⟩) (fun hHeld => ?_)
  refine Rg.t (v := .agg #[.slice (some ⟨x1, 0, none⟩) ms.length ms.length, .slice (some ⟨x2, 0, none⟩) cs.length cs.length, .slice (some ⟨x3, 0, none⟩) fs.length fs.length, .int .i64 t]) 0 43 ?_ (hv := fun w0 hSw => execNB _ rfl rfl hSw.1)
  refine Rg.t (v := .agg #[.slice a ms.length ca, .slice b cs.length cb, .slice d fs.length cd, .int .i64 t]) 1 44 ?_ (hv := fun w0 hSw => execNW _ rfl rfl hSw.2)
  (refine Rg.o 2 (fun K hK => ?_); go_simp)
  refine (toNt a b d ca cb cd t ms ps cs fs _ hm1 hm2 hm3 (unhide HSM) (unhide HR6).drew (drewI (unhide HI6)) (unhide HZ6).drew).mono ?_
  rintro e w7 ⟨y1, y2, y3, yq, rfl, b7_, o_⟩
  have b7 : Below w6.heap.size w6 w7 := (Below.refl _ _).drew.trans b7_
  have B7 := B6.trans (b7.mono B6.size)
  have Q7 := hide ((unhide Q6).below b7)
  have HR7 := hide ((unhide HR6).below b7)
  have HI7 := hide ((unhide HI6).below b7)
  have HZ7 := hide ((unhide HZ6).below b7)
  have X7 := hide ((unhide X6).below b7)
  have V7 := hide ((unhide V6).below b7)
  clear Q6 HR6 HI6 HZ6 X6 V6
  have Y7 := hide o_
  clear o_
  refine hK.out _ _ (⟨unhide V7, unhide Q7⟩) (fun hHeld => ?_)
  clear hK K
  (try simp only [Act.put, List.setIfInBounds_toArray, List.set_cons_zero, List.set_cons_succ])
  (refine Rg.o 3 (fun K hK => ?_); go_simp)
  refine (eqNt _ _ _ _ _ _ _ _ _ _ _ _ t ms _ _ cs fs _ hm1 hm2 hm3 (unhide HSM) (unhide X7).nr (unhide Y7).nr (unhide X7).ri (unhide Y7).ri (unhide X7).rf (unhide Y7).rf).mono ?_
  rintro e w8 ⟨rfl, b8⟩
  have B8 := B7.trans (b8.mono B7.size)
  have Q8 := hide ((unhide Q7).below b8)
  have HR8 := hide ((unhide HR7).below b8)
  have HI8 := hide ((unhide HI7).below b8)
  have HZ8 := hide ((unhide HZ7).below b8)
  have X8 := hide ((unhide X7).below b8)
  have V8 := hide ((unhide V7).below b8)
  have Y8 := hide ((unhide Y7).below b8)
  clear Q7 HR7 HI7 HZ7 X7 V7 Y7
  clear Y8
  refine hK.out _ _ (⟨unhide V8, unhide Q8⟩) (fun hHeld => ?_)
  clear hK K
  (try simp only [Act.put, List.setIfInBounds_toArray, List.set_cons_zero, List.set_cons_succ])
  refine Rg.t 4 47 ?_
  refine wpAnyH_done (by kernel_rfl) (NoPanic.normal ?_) _
  clear hHeld
  have HF := hide B8
  go_wp2_with fail
  go_ret
  exact ⟨rfl, unhide HF⟩

end Go.Proofs.YtfooahhdikobeaaGreat.fnExactCountMarks
