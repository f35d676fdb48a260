/-
  A topology that is answered: two lists in memory of their own, the sources' behind the edges'; whether what is heard is older, and its code: the program's.
-/
import Derived.Test.YtmelbilepfnmjapTopV
import Derived.Test.YtmelbilepfnmjapTopE
import Derived.Test.YtmelbilepfnmjapTopG
import Derived.Test.YtmelbilepfnmjapAdvC
namespace Go.Proofs.Ytmelbilepfnmjap
open Go.ChangeShapes Go.WideShapes Go.ChangeAt Go.RowKit
set_option linter.unusedVariables false
set_option linter.unusedSimpArgs false
set_option maxRecDepth 100000
attribute [local go_sem ↓] Go.wp_at_zero Go.wp_at_succ
namespace Tp
open W1 Tu St Tw
theorem isNow (n : Int) (w : World) : Calls Try.prog 113 #[.int .i64 n] w fun e w' => e = .returned (.bool (inB n 0 1000000)) ∧ w' = w := by
  go_enter Try.func113, Try.ntmps113
  go_wp2_with (go_at_call 129; refine (within _ _ _ _).mono ?_; rintro e w' ⟨rfl, rfl⟩)
  go_ret
  exact ⟨rfl, rfl⟩
set_option maxHeartbeats 2000000 in
theorem isStale (a : Option Addr) (ss : List So.R) (cap : Nat) (frm an : Int) (w : World) (hs : srcB ss = true) (han : 0 ≤ an ∧ an ≤ 65535) (hr : So.RM w a ss) :
    Calls Try.prog 114 #[.slice a ss.length cap, .int .i64 frm, .int .i64 an] w fun e w' => e = .returned (.bool (staleB ss frm an)) ∧ Below w.heap.size w w' := by
  have h8 := src_len hs
  have HS := hide hs
  have HU := hide (up_src hs)
  have HR := hide hr
  have hht := has_there (up_src hs) frm
  clear hs hr
  cases ht : thereS ss frm
  · have hB : staleB ss frm an = false := by unfold staleB; rw [hht, ht]; rfl
    rw [hB]
    have HT := hide ht
    clear ht hB hht
    go_enter Try.func114, Try.ntmps114
    go_wp2_with fail
    refine (sourcePlace a ss cap frm _ (unhide HR) (unhide HU) (by omega)).mono ?_
    rintro e w1 ⟨rfl, b1⟩
    rw [unhide HT]
    have HB := hide b1
    clear b1
    go_wp2_with fail
    go_ret
    exact ⟨rfl, unhide HB⟩
  · have hB : staleB ss frm an = Mtr.newB (ss.getD (placeS ss frm) So.R.zero).an an := by unfold staleB; rw [hht, ht, Bool.true_and, fS_there (unhide HU) ht]
    rw [hB]
    have hp : placeS ss frm < ss.length := by unfold thereS at ht; rw [Bool.and_eq_true] at ht; exact of_decide_eq_true ht.1
    have HT := hide ht
    clear ht hB hht
    obtain ⟨p, hpe⟩ : ∃ p, placeS ss frm = p := ⟨_, rfl⟩
    rw [hpe] at hp ⊢
    have HP := hide hpe
    clear hpe
    have k0 : (0 : Int) ≤ (p : Int) := by omega
    have k1 : (p : Int) < (ss.length : Int) := by omega
    obtain ⟨g, off, rfl⟩ := (unhide HR).form (by omega)
    have hA := (unhide HR).at hp
    have hok := ok_an (Ri.all_ok (unhide HS) hp)
    generalize ss.getD p So.R.zero = m at *
    obtain ⟨x, y, z⟩ := m
    dsimp only at hok
    have HA := hide hA
    clear hA
    have hiny : inB y 0 65535 = true := by unfold inB; simp; omega
    have hina : inB an 0 65535 = true := by unfold inB; simp; omega
    obtain ⟨nb, hnb⟩ : ∃ nb, Mtr.newB y an = nb := ⟨_, rfl⟩
    have HNB := hide hnb
    dsimp only
    rw [hnb]
    clear hnb
    go_enter Try.func114, Try.ntmps114
    go_wp2_with fail
    refine (sourcePlace (some ⟨g, off, none⟩) ss cap frm _ (unhide HR) (unhide HU) (by omega)).mono ?_
    rintro e w1 ⟨rfl, b1⟩
    rw [unhide HT, unhide HP]
    have HB := hide b1
    obtain ⟨c0, c1, c2⟩ := (unhide HA).below b1
    dsimp only at c0 c1 c2
    clear b1
    go_wp2_with fail
    refine (Mtr.implNewer y an _).mono ?_
    rintro e w2 ⟨rfl, hw2⟩
    rw [hw2]
    rw [hiny, hina, unhide HNB]
    clear hw2
    go_wp2_with fail
    go_ret
    exact ⟨by simp, unhide HB⟩
theorem lstS_set {w : World} {v : Value} {ms : List So.R} {lo hi b i : Nat} {u : Value} (h : So.LstV w v ms lo hi) (hb : b < lo ∨ hi ≤ b) : So.LstV (w.setCell ⟨b, i, none⟩ u) v ms lo hi := by
  obtain ⟨a, c, rfl, h⟩ := h
  exact ⟨a, c, rfl, h.but (p := fun k => k ≠ b) (by simp [World.setCell]) (fun k hk hne => Below.heap_setCell _ _ _ _ hne) (fun k h1 h2 => by omega)⟩
theorem lstT_set {w : World} {v : Value} {ms : List R} {lo hi b i : Nat} {u : Value} (h : LstV w v ms lo hi) (hb : b < lo ∨ hi ≤ b) : LstV (w.setCell ⟨b, i, none⟩ u) v ms lo hi := by
  obtain ⟨a, c, rfl, h⟩ := h
  exact ⟨a, c, rfl, h.but (p := fun k => k ≠ b) (by simp [World.setCell]) (fun k hk hne => Below.heap_setCell _ _ _ _ hne) (fun k h1 h2 => by omega)⟩
/-- A topology in memory of its own. -/
def TLst (w : World) (v : Value) (S : List So.R) (E : List R) (lo hi : Nat) : Prop := ∃ vs ve mid, v = .agg #[vs, ve] ∧ So.LstV w vs S lo mid ∧ LstV w ve E mid hi ∧ lo ≤ mid ∧ mid ≤ hi
theorem TLst.below {w w' : World} {v : Value} {S : List So.R} {E : List R} {lo hi : Nat} (h : TLst w v S E lo hi) (hb : Below w.heap.size w w') : TLst w' v S E lo hi := by
  obtain ⟨vs, ve, mid, rfl, h1, h2, h3⟩ := h
  exact ⟨vs, ve, mid, rfl, h1.below hb, h2.below hb, h3⟩
theorem TLst.mono {w : World} {v : Value} {S : List So.R} {E : List R} {lo hi lo' hi' : Nat} (h : TLst w v S E lo hi) (h1 : lo' ≤ lo) (h2 : hi ≤ hi') : TLst w v S E lo' hi' := by
  obtain ⟨vs, ve, mid, rfl, q1, q2, q3⟩ := h
  exact ⟨vs, ve, mid, rfl, q1.mono h1 (Nat.le_refl _), q2.mono (Nat.le_refl _) h2, by omega⟩
theorem tlst_nil (w : World) (a : Option Addr) (c : Nat) (b : Option Addr) (d : Nat) {lo hi : Nat} (h : lo ≤ hi) : TLst w (.agg #[.slice a 0 c, .slice b 0 d]) [] [] lo hi := ⟨_, _, lo, rfl, So.lstV_nil _ _ _ _ _, lstV_nil _ _ _ _ _, Nat.le_refl _, h⟩
set_option maxHeartbeats 4000000 in
theorem hearTcCode (a : Option Addr) (ss : List So.R) (ca : Nat) (b : Option Addr) (es : List R) (cb : Nat) (frm now an valid : Int) (c : Option Addr) (ns : List Ed.R) (cn : Nat) (w : World) (hm : ss.length ≤ 1048576) (hl : es.length ≤ 1048576) (hn : ns.length ≤ 1048576) (hr : So.RM w a ss) (hr' : RM w b es) (hr2 : Ed.RM w c ns) :
    Calls Try.prog 68 #[.agg #[.slice a ss.length ca, .slice b es.length cb], .int .i64 frm, .int .i64 now, .agg #[.int .i64 an, .int .i64 valid, .slice c ns.length cn]] w fun e w' => e = .returned (.int .i64 (hearC ss es frm now an valid ns)) ∧ Below w.heap.size w w' := by
  have HA0 : Hid (Below w.heap.size w (w.alloc (.cells #[.slice a ss.length ca, .slice b es.length cb] 42))) := hide ((Below.refl _ _).alloc (Nat.le_refl _) _)
  have HA : Hid (Below w.heap.size w ((w.alloc (.cells #[.slice a ss.length ca, .slice b es.length cb] 42)).alloc (.cells #[.int .i64 an, .int .i64 valid, .slice c ns.length cn] 54))) := hide ((unhide HA0).alloc (unhide HA0).size _)
  have HX : Hid (Bx2 ((w.alloc (.cells #[.slice a ss.length ca, .slice b es.length cb] 42)).alloc (.cells #[.int .i64 an, .int .i64 valid, .slice c ns.length cn] 54)) w.heap.size (.slice a ss.length ca) (.slice b es.length cb)) := hide ((bx2_new w _ _ _).below ((Below.refl _ _).alloc (Nat.le_refl _) _))
  have HY : Hid (Bx3 ((w.alloc (.cells #[.slice a ss.length ca, .slice b es.length cb] 42)).alloc (.cells #[.int .i64 an, .int .i64 valid, .slice c ns.length cn] 54)) (w.heap.size + 1) an valid (.slice c ns.length cn)) := hide (by have := bx3_new (w.alloc (.cells #[.slice a ss.length ca, .slice b es.length cb] 42)) an valid (.slice c ns.length cn) 54; rw [show (w.alloc (.cells #[.slice a ss.length ca, .slice b es.length cb] 42)).heap.size = w.heap.size + 1 by simp] at this; exact this)
  have HR := hide (hr.below (unhide HA))
  have HE := hide (hr'.below (unhide HA))
  have HN := hide (hr2.below (unhide HA))
  clear hr hr' hr2 HA0
  cases h1 : topB ss es
  · have HC : Hid (hearC ss es frm now an valid ns = 1) := hide (by unfold hearC; rw [h1]; rfl)
    have H1 := hide h1
    clear h1
    go_enter Try.func68, Try.ntmps68
    go_wp2_with (first | (go_at_call 95; refine (isAddress _ _).mono ?_; rintro e w' ⟨rfl, rfl⟩) | (go_at_call 113; refine (isNow _ _).mono ?_; rintro e w' ⟨rfl, rfl⟩))
    refine (implOK a ss ca b es cb _ hm hl (unhide HR) (unhide HE)).mono ?_
    rintro e w1 ⟨rfl, b1⟩
    rw [unhide H1]
    have HB1 := hide ((unhide HA).trans (b1.mono (unhide HA).size))
    clear b1
    go_wp2_with (first | (go_at_call 95; refine (isAddress _ _).mono ?_; rintro e w' ⟨rfl, rfl⟩) | (go_at_call 113; refine (isNow _ _).mono ?_; rintro e w' ⟨rfl, rfl⟩))
    go_ret
    exact ⟨ret_int (unhide HC).symm, unhide HB1⟩
  have H1 := hide h1
  cases h2 : inB frm 1 8
  · have HC : Hid (hearC ss es frm now an valid ns = 1) := hide (by unfold hearC; rw [h1, h2]; rfl)
    clear h1
    go_enter Try.func68, Try.ntmps68
    go_wp2_with (first | (go_at_call 95; refine (isAddress _ _).mono ?_; rintro e w' ⟨rfl, rfl⟩) | (go_at_call 113; refine (isNow _ _).mono ?_; rintro e w' ⟨rfl, rfl⟩))
    refine (implOK a ss ca b es cb _ hm hl (unhide HR) (unhide HE)).mono ?_
    rintro e w1 ⟨rfl, b1⟩
    rw [unhide H1]
    have HB1 := hide ((unhide HA).trans (b1.mono (unhide HA).size))
    clear b1
    go_wp2_with (first | (go_at_call 95; refine (isAddress _ _).mono ?_; rintro e w' ⟨rfl, rfl⟩) | (go_at_call 113; refine (isNow _ _).mono ?_; rintro e w' ⟨rfl, rfl⟩))
    go_ret
    exact ⟨ret_int (unhide HC).symm, unhide HB1⟩
  cases h3 : Av.tcB an valid ns
  · have HC : Hid (hearC ss es frm now an valid ns = 1) := hide (by unfold hearC; rw [h1, h2, h3]; rfl)
    have H3 := hide h3
    clear h1 h3
    go_enter Try.func68, Try.ntmps68
    go_wp2_with (first | (go_at_call 95; refine (isAddress _ _).mono ?_; rintro e w' ⟨rfl, rfl⟩) | (go_at_call 113; refine (isNow _ _).mono ?_; rintro e w' ⟨rfl, rfl⟩))
    refine (implOK a ss ca b es cb _ hm hl (unhide HR) (unhide HE)).mono ?_
    rintro e w1 ⟨rfl, b1⟩
    rw [unhide H1]
    have HB1 := hide ((unhide HA).trans (b1.mono (unhide HA).size))
    have HN1 := hide ((unhide HN).below b1)
    obtain ⟨y0, y1, y2⟩ := (unhide HY).below b1
    clear b1
    go_wp2_with (first | (go_at_call 95; refine (isAddress _ _).mono ?_; rintro e w' ⟨rfl, rfl⟩) | (go_at_call 113; refine (isNow _ _).mono ?_; rintro e w' ⟨rfl, rfl⟩))
    refine (Av.implOK an valid c ns cn _ hn (unhide HN1)).mono ?_
    rintro e w2 ⟨rfl, b2⟩
    rw [unhide H3]
    have HB2 := hide ((unhide HB1).trans (b2.mono (unhide HB1).size))
    clear b2 y0 y1 y2
    go_wp2_with (first | (go_at_call 95; refine (isAddress _ _).mono ?_; rintro e w' ⟨rfl, rfl⟩) | (go_at_call 113; refine (isNow _ _).mono ?_; rintro e w' ⟨rfl, rfl⟩))
    go_ret
    exact ⟨ret_int (unhide HC).symm, unhide HB2⟩
  have H3 := hide h3
  have han := Av.tc_ansn h3
  cases h4 : inB now 0 1000000
  · have HC : Hid (hearC ss es frm now an valid ns = 4) := hide (by unfold hearC; simp [h1, h2, h3, h4])
    clear h1 h3
    go_enter Try.func68, Try.ntmps68
    go_wp2_with (first | (go_at_call 95; refine (isAddress _ _).mono ?_; rintro e w' ⟨rfl, rfl⟩) | (go_at_call 113; refine (isNow _ _).mono ?_; rintro e w' ⟨rfl, rfl⟩))
    refine (implOK a ss ca b es cb _ hm hl (unhide HR) (unhide HE)).mono ?_
    rintro e w1 ⟨rfl, b1⟩
    rw [unhide H1]
    have HB1 := hide ((unhide HA).trans (b1.mono (unhide HA).size))
    have HN1 := hide ((unhide HN).below b1)
    obtain ⟨y0, y1, y2⟩ := (unhide HY).below b1
    clear b1
    go_wp2_with (first | (go_at_call 95; refine (isAddress _ _).mono ?_; rintro e w' ⟨rfl, rfl⟩) | (go_at_call 113; refine (isNow _ _).mono ?_; rintro e w' ⟨rfl, rfl⟩))
    refine (Av.implOK an valid c ns cn _ hn (unhide HN1)).mono ?_
    rintro e w2 ⟨rfl, b2⟩
    rw [unhide H3]
    have HB2 := hide ((unhide HB1).trans (b2.mono (unhide HB1).size))
    clear b2 y0 y1 y2
    go_wp2_with (first | (go_at_call 95; refine (isAddress _ _).mono ?_; rintro e w' ⟨rfl, rfl⟩) | (go_at_call 113; refine (isNow _ _).mono ?_; rintro e w' ⟨rfl, rfl⟩))
    go_ret
    exact ⟨ret_int (unhide HC).symm, unhide HB2⟩
  obtain ⟨t, ht⟩ : ∃ t, staleB ss frm an = t := ⟨_, rfl⟩
  have HT := hide ht
  have HC : Hid (hearC ss es frm now an valid ns = if t = true then 11 else 0) := hide (by unfold hearC; simp [h1, h2, h3, h4, ht])
  have HS := hide (top_src h1)
  clear h1 h3 ht
  cases t
  all_goals
    go_enter Try.func68, Try.ntmps68
    go_wp2_with (first | (go_at_call 95; refine (isAddress _ _).mono ?_; rintro e w' ⟨rfl, rfl⟩) | (go_at_call 113; refine (isNow _ _).mono ?_; rintro e w' ⟨rfl, rfl⟩))
    refine (implOK a ss ca b es cb _ hm hl (unhide HR) (unhide HE)).mono ?_
    rintro e w1 ⟨rfl, b1⟩
    rw [unhide H1]
    have HB1 := hide ((unhide HA).trans (b1.mono (unhide HA).size))
    have HN1 := hide ((unhide HN).below b1)
    have HX1 := hide ((unhide HX).below b1)
    have HY1 := hide ((unhide HY).below b1)
    have HR1 := hide ((unhide HR).below b1)
    obtain ⟨y0, y1, y2⟩ := unhide HY1
    clear b1
    go_wp2_with (first | (go_at_call 95; refine (isAddress _ _).mono ?_; rintro e w' ⟨rfl, rfl⟩) | (go_at_call 113; refine (isNow _ _).mono ?_; rintro e w' ⟨rfl, rfl⟩))
    refine (Av.implOK an valid c ns cn _ hn (unhide HN1)).mono ?_
    rintro e w2 ⟨rfl, b2⟩
    rw [unhide H3]
    have HB2 := hide ((unhide HB1).trans (b2.mono (unhide HB1).size))
    have HR2 := hide ((unhide HR1).below b2)
    clear y0 y1 y2
    obtain ⟨y0, y1, y2⟩ := (unhide HY1).below b2
    obtain ⟨z0, z1⟩ := (unhide HX1).below b2
    clear b2
    go_wp2_with (first | (go_at_call 95; refine (isAddress _ _).mono ?_; rintro e w' ⟨rfl, rfl⟩) | (go_at_call 113; refine (isNow _ _).mono ?_; rintro e w' ⟨rfl, rfl⟩))
    refine (isStale a ss ca frm an _ (unhide HS) han (unhide HR2)).mono ?_
    rintro e w3 ⟨rfl, b3⟩
    rw [unhide HT]
    have HB3 := hide ((unhide HB2).trans (b3.mono (unhide HB2).size))
    clear b3 y0 y1 y2 z0 z1
    go_wp2_with (first | (go_at_call 95; refine (isAddress _ _).mono ?_; rintro e w' ⟨rfl, rfl⟩) | (go_at_call 113; refine (isNow _ _).mono ?_; rintro e w' ⟨rfl, rfl⟩))
    go_ret
    exact ⟨ret_int (unhide HC).symm, unhide HB3⟩
end Tp
end Go.Proofs.Ytmelbilepfnmjap
