/-
  Whether a router is right: mathematics, and the program's RouterOK. (written by mkrto.py)
-/
import Derived.Test.YtilphgfjgeoiaaaRtrS
import Derived.Test.YtilphgfjgeoiaaaGraS
import Derived.Test.YtilphgfjgeoiaaaLnkI
import Derived.Test.YtilphgfjgeoiaaaTopB
import Derived.Test.YtilphgfjgeoiaaaAdvC
namespace Go.Proofs.Ytilphgfjgeoiaaa
open Go.ChangeShapes Go.WideShapes Go.ChangeAt Go.RowKit
set_option linter.unusedVariables false
set_option linter.unusedSimpArgs false
set_option maxRecDepth 100000
attribute [local go_sem ↓] Go.wp_at_zero Go.wp_at_succ
namespace Rt
open W1
/-- Whether what a router keeps of a link can be advertised. -/
def outB (co sy : Int) : Bool := if (co == 0) = true then sy == 0 else Av.toldB co
def lkB (me : Int) (x : Lk.R) : Bool := !(x.ad == me) && outB x.co x.sy
def twB (me : Int) (m : Tu.R) : Bool := !(Tw.hv m == me) && !(Tw.ha m == me)
def lksB (me : Int) (ls : List Lk.R) : Bool := Ln.linksB ls && ls.all (lkB me)
def twoOf (me : Int) (tw : List Tu.R) : Bool := Tw.twoB tw && tw.all (twB me)
def rtrB (x1 x2 x3 x4 x5 x6 : Int) (ls : List Lk.R) (tw se du : List Tu.R) (ss : List So.R) (es : List Tu.R) (la : List Ed.R) : Bool :=
  inB x1 1 8 && (inB x2 0 7 && (inB x3 0 65535 && (inB x4 0 65535 && (inB x5 0 100000 && (inB x6 0 1000000 && (lksB x1 ls && (twoOf x1 tw && (St.setB se && (St.setB du && (Tp.topB ss es && (!(Tp.hasS ss x1) && Av.allN la la.length)))))))))))
theorem all_no {α : Type} {p : α → Bool} {z : α} {ms : List α} {j : Nat} (h : j < ms.length) (hp : p (ms.getD j z) = false) : ms.all p = false := by
  rw [List.all_eq_false]
  refine ⟨ms.getD j z, ?_, by rw [hp]; simp⟩
  rw [List.getD_eq_getElem?_getD, List.getElem?_eq_getElem h]; exact List.getElem_mem h
theorem all_step {α : Type} {p : α → Bool} {z : α} {ms : List α} {j : Nat} (h : j < ms.length) (ha : (ms.take j).all p = true) (hp : p (ms.getD j z) = true) : (ms.take (j + 1)).all p = true := by
  rw [List.take_add_one, List.getElem?_eq_getElem h, List.all_append, ha]
  rw [List.getD_eq_getElem?_getD, List.getElem?_eq_getElem h] at hp
  simpa using hp
set_option maxHeartbeats 2000000 in
theorem isOutOf (ad hd sy ci co wl : Int) (w : World) :
    Calls Try.prog 104 #[.agg #[.int .i64 ad, .int .i64 hd, .int .i64 sy, .int .i64 ci, .int .i64 co, .int .i64 wl]] w fun e w' => e = .returned (.bool (outB co sy)) ∧ Below w.heap.size w w' := by
  have E : Hid (outB co sy = if (co == 0) = true then sy == 0 else Av.toldB co) := hide rfl
  cases h1 : (co == 0)
  · go_enter Try.func104, Try.ntmps104
    go_wp2_with (go_at_call 117; refine (Av.isTold _ _).mono ?_; rintro e w' ⟨rfl, rfl⟩)
    go_ret
    exact ⟨ret_bool (by rw [unhide E, h1]; simp), (Below.refl _ _).alloc (Nat.le_refl _) _⟩
  · go_enter Try.func104, Try.ntmps104
    go_wp2_with fail
    go_ret
    exact ⟨ret_bool (by rw [unhide E, h1]; simp), (Below.refl _ _).alloc (Nat.le_refl _) _⟩
set_option maxHeartbeats 4000000 in
theorem areLinksOf (me : Int) (a : Option Addr) (ls : List Lk.R) (cap : Nat) (w : World) (hm : ls.length ≤ 1048576) (hr : Lk.RM w a ls) :
    Calls Try.prog 64 #[.int .i64 me, .slice a ls.length cap] w fun e w' => e = .returned (.bool (lksB me ls)) ∧ Below w.heap.size w w' := by
  have HR := hide hr
  clear hr
  have E : Hid (lksB me ls = (Ln.linksB ls && ls.all (lkB me))) := hide rfl
  have KL := hide (fun W => Ln.implOK a ls cap W hm)
  cases hl : Ln.linksB ls
  · have hv : lksB me ls = false := by rw [unhide E, hl]; rfl
    rw [hv]
    rw [hl] at KL
    clear hv hl
    go_enter Try.func64, Try.ntmps64
    go_wp2_with fail
    refine (unhide KL _ (unhide HR)).mono ?_
    rintro e w1 ⟨rfl, b1⟩
    have HB1 := hide b1
    clear b1
    go_wp2_with fail
    go_ret
    exact ⟨rfl, unhide HB1⟩
  have h8 := Ln.links_len hl
  have HE : Hid (lksB me ls = ls.all (lkB me)) := hide (by rw [unhide E, hl]; rfl)
  rw [hl] at KL
  clear hl E
  obtain ⟨A, hA⟩ : ∃ A, lksB me ls = A := ⟨_, rfl⟩
  rw [hA] at HE ⊢
  clear hA
  generalize hN : ls.length = n at *
  have HN := hide hN
  clear hN
  go_enter Try.func64, Try.ntmps64
  go_wp2_with fail
  refine (unhide KL _ (unhide HR)).mono ?_
  rintro e w1 ⟨rfl, b1⟩
  have HB1 := hide b1
  clear b1
  go_wp2_with fail
  go_loopw [12] (fun i wr => ∃ j : Nat, j ≤ n ∧ i = .int .i64 j ∧ Hid ((ls.take j).all (lkB me) = true) ∧ Hid (Below w.heap.size w wr)) (fun i _ => n - (intOf i).toNat)
  case atStart => exact ⟨0, by omega, rfl, hide rfl, HB1⟩
  case round =>
    obtain ⟨j, hj, rfl, hal, hbl⟩ := hrel
    have hbs := (unhide hbl).size
    by_cases hlt : (j : Int) < (n : Int)
    · have k0 : (0 : Int) ≤ (j : Int) := by omega
      have hlen : j < ls.length := by rw [unhide HN]; omega
      obtain ⟨g, off, rfl⟩ := (unhide HR).form (by omega)
      have hA := ((unhide HR).below (unhide hbl)).at hlen
      have HY : Hid (lkB me (ls.getD j Lk.R.zero) = true → (ls.take (j + 1)).all (lkB me) = true) := hide (fun h => all_step hlen (unhide hal) h)
      have HZ : Hid (lkB me (ls.getD j Lk.R.zero) = false → A = false) := hide (fun h => by rw [unhide HE]; exact all_no hlen h)
      generalize ls.getD j Lk.R.zero = m at *
      obtain ⟨ad, hd, sy, ci, co, wl⟩ := m
      obtain ⟨c0, c1, c2, c3, c4, c5⟩ := hA
      dsimp only at c0 c1 c2 c3 c4 c5
      have EK : Hid (lkB me ⟨ad, hd, sy, ci, co, wl⟩ = (!(ad == me) && outB co sy)) := hide rfl
      have HB2 := hide ((unhide hbl).alloc hbs (.cells #[.int .i64 ad, .int .i64 hd, .int .i64 sy, .int .i64 ci, .int .i64 co, .int .i64 wl] 101))
      cases q1 : (ad == me)
      · have KO := hide (isOutOf ad hd sy ci co wl)
        cases q2 : outB co sy
        · have hf := unhide HZ (by rw [unhide EK, q1, q2]; rfl)
          rw [q2] at KO
          clear q2 HY HZ EK
          go_wp2_with fail
          generalize hWW : wr.alloc (.cells #[.int .i64 ad, .int .i64 hd, .int .i64 sy, .int .i64 ci, .int .i64 co, .int .i64 wl] 101) = WW at *
          clear hWW c0 c1 c2 c3 c4 c5
          refine (unhide KO _).mono ?_
          rintro e w3 ⟨rfl, b3⟩
          have HB3 := hide ((unhide HB2).trans (b3.mono (unhide HB2).size))
          clear b3
          go_wp2_with fail
          go_ret
          exact ⟨ret_bool hf.symm, unhide HB3⟩
        · have hy := hide (unhide HY (by rw [unhide EK, q1, q2]; rfl))
          rw [q2] at KO
          clear q2 HY HZ EK
          go_wp2_with fail
          generalize hWW : wr.alloc (.cells #[.int .i64 ad, .int .i64 hd, .int .i64 sy, .int .i64 ci, .int .i64 co, .int .i64 wl] 101) = WW at *
          clear hWW c0 c1 c2 c3 c4 c5
          refine (unhide KO _).mono ?_
          rintro e w3 ⟨rfl, b3⟩
          have HB3 := hide ((unhide HB2).trans (b3.mono (unhide HB2).size))
          clear b3
          go_wp2_with fail
          go_roundw
          case rel => exact ⟨j + 1, by omega, by go_num, hy, HB3⟩
          case measure => simp [intOf]; omega
      · have hf := unhide HZ (by rw [unhide EK, q1]; rfl)
        clear HY HZ EK
        go_wp2_with fail
        go_ret
        exact ⟨ret_bool hf.symm, unhide HB2⟩
    · obtain rfl : j = n := by omega
      have e : ls.take j = ls := List.take_of_length_le (by rw [unhide HN]; exact Nat.le_refl _)
      have ht : A = true := by rw [unhide HE, ← e]; exact unhide hal
      have HT := hide ht
      clear e ht
      go_wp2_with fail
      go_ret
      exact ⟨ret_bool (unhide HT).symm, unhide hbl⟩
set_option maxHeartbeats 4000000 in
theorem areTwoOf (me : Int) (a : Option Addr) (tw : List Tu.R) (cap : Nat) (w : World) (hm : tw.length ≤ 1048576) (hr : Tu.RM w a tw) :
    Calls Try.prog 65 #[.int .i64 me, .slice a tw.length cap] w fun e w' => e = .returned (.bool (twoOf me tw)) ∧ Below w.heap.size w w' := by
  have HR := hide hr
  clear hr
  have E : Hid (twoOf me tw = (Tw.twoB tw && tw.all (twB me))) := hide rfl
  have KL := hide (fun W => Tw.areHops a tw cap W hm)
  cases hl : Tw.twoB tw
  · have hv : twoOf me tw = false := by rw [unhide E, hl]; rfl
    rw [hv]
    rw [hl] at KL
    clear hv hl
    go_enter Try.func65, Try.ntmps65
    go_wp2_with fail
    refine (unhide KL _ (unhide HR)).mono ?_
    rintro e w1 ⟨rfl, b1⟩
    have HB1 := hide b1
    clear b1
    go_wp2_with fail
    go_ret
    exact ⟨rfl, unhide HB1⟩
  have h62 := Tw.two_len hl
  have HTW := hide hl
  have HE : Hid (twoOf me tw = tw.all (twB me)) := hide (by rw [unhide E, hl]; rfl)
  rw [hl] at KL
  clear hl E
  obtain ⟨A, hA⟩ : ∃ A, twoOf me tw = A := ⟨_, rfl⟩
  rw [hA] at HE ⊢
  clear hA
  generalize hN : tw.length = n at *
  have HN := hide hN
  clear hN
  go_enter Try.func65, Try.ntmps65
  go_wp2_with fail
  refine (unhide KL _ (unhide HR)).mono ?_
  rintro e w1 ⟨rfl, b1⟩
  have HB1 := hide b1
  clear b1
  go_wp2_with fail
  go_loopw [13] (fun i wr => ∃ j : Nat, j ≤ n ∧ i = .int .i64 j ∧ Hid ((tw.take j).all (twB me) = true) ∧ Hid (Below w.heap.size w wr)) (fun i _ => n - (intOf i).toNat)
  case atStart => exact ⟨0, by omega, rfl, hide rfl, HB1⟩
  case round =>
    obtain ⟨j, hj, rfl, hal, hbl⟩ := hrel
    have hbs := (unhide hbl).size
    by_cases hlt : (j : Int) < (n : Int)
    · have k0 : (0 : Int) ≤ (j : Int) := by omega
      have hlen : j < tw.length := by rw [unhide HN]; omega
      obtain ⟨g, off, rfl⟩ := (unhide HR).form (by omega)
      have hA := ((unhide HR).below (unhide hbl)).at hlen
      have HY : Hid (twB me (tw.getD j Tu.R.zero) = true → (tw.take (j + 1)).all (twB me) = true) := hide (fun h => all_step hlen (unhide hal) h)
      have HZ : Hid (twB me (tw.getD j Tu.R.zero) = false → A = false) := hide (fun h => by rw [unhide HE]; exact all_no hlen h)
      have hbd := St.ok_bounds (St.setB_ok (Tw.two_set (unhide HTW)) hlen)
      generalize tw.getD j Tu.R.zero = m at *
      obtain ⟨key, til, val⟩ := m
      obtain ⟨c0, c1, c2⟩ := hA
      dsimp only at c0 c1 c2 hbd
      have EK : Hid (twB me ⟨key, til, val⟩ = (!(key.tdiv 100 == me) && !(key.tmod 100 == me))) := hide rfl
      have KH := hide (fun W => Tw.hopOfKey key W (by omega) (by omega))
      obtain ⟨kd, hkd⟩ : ∃ kd, key.tdiv 100 = kd := ⟨_, rfl⟩
      obtain ⟨km, hkm⟩ : ∃ km, key.tmod 100 = km := ⟨_, rfl⟩
      rw [hkd, hkm] at EK KH
      clear hkd hkm hbd
      have HB2 := hide ((unhide hbl).alloc hbs (.cells #[.int .i64 key, .int .i64 til, .int .i64 val] 73))
      go_wp2_with fail
      generalize hWW : wr.alloc (.cells #[.int .i64 key, .int .i64 til, .int .i64 val] 73) = WW at *
      clear hWW c0 c1 c2
      refine (unhide KH _).mono ?_
      rintro e w3 ⟨rfl, b3⟩
      have HB3 := hide (((unhide HB2).trans (b3.mono (unhide HB2).size)).alloc (Nat.le_trans (unhide HB2).size b3.size) (.cells #[.int .i64 kd, .int .i64 km] 121))
      clear b3
      cases q1 : (kd == me)
      · cases q2 : (km == me)
        · have hy := hide (unhide HY (by rw [unhide EK, q1, q2]; rfl))
          clear HY HZ EK
          go_wp2_with fail
          go_roundw
          case rel => exact ⟨j + 1, by omega, by go_num, hy, HB3⟩
          case measure => simp [intOf]; omega
        · have hf := unhide HZ (by rw [unhide EK, q1, q2]; rfl)
          clear HY HZ EK
          go_wp2_with fail
          go_ret
          exact ⟨ret_bool hf.symm, unhide HB3⟩
      · have hf := unhide HZ (by rw [unhide EK, q1]; rfl)
        clear HY HZ EK
        go_wp2_with fail
        go_ret
        exact ⟨ret_bool hf.symm, unhide HB3⟩
    · obtain rfl : j = n := by omega
      have e : tw.take j = tw := List.take_of_length_le (by rw [unhide HN]; exact Nat.le_refl _)
      have ht : A = true := by rw [unhide HE, ← e]; exact unhide hal
      have HT := hide ht
      clear e ht
      go_wp2_with fail
      go_ret
      exact ⟨ret_bool (unhide HT).symm, unhide hbl⟩
end Rt
end Go.Proofs.Ytilphgfjgeoiaaa
