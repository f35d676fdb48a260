/-
  The program's contract of marksInOrder: a map's tuples are collected in whatever order, and sorted by the library.
-/
import Derived.Test.YtlcppgnnlgigmaaDupT
import Derived.Test.YtlcppgnnlgigmaaSrt
import Derived.Sort.OwnSorted
import Derived.OwnWalk
namespace Go.Proofs.Ytlcppgnnlgigmaa
open Go.ChangeShapes Go.WideShapes Go.ChangeAt Go.RowKit
set_option linter.unusedVariables false
set_option linter.unusedSimpArgs false
set_option maxRecDepth 100000
attribute [local go_sem ↓] Go.wp_at_zero Go.wp_at_succ
namespace Du
open W1 Tu St Mm
def cmpD (x y : Int) : Int := if x < y then -1 else if y < x then 1 else 0
def cfD (x y : R) : Int := cmpD x.key y.key
theorem ltD (x y : R) : ltOf cfD x y = decide (x.key < y.key) := by
  unfold ltOf cfD cmpD
  by_cases h1 : x.key < y.key
  · simp [h1]
  · by_cases h2 : y.key < x.key <;> simp [h1, h2]
theorem swoD : Sort.SWO (ltOf cfD) where
  irrefl x := by rw [ltD]; simp
  trans x y z h1 h2 := by rw [ltD] at *; simp at *; omega
  ntrans x y z h1 h2 := by rw [ltD] at *; simp at *; omega
set_option maxHeartbeats 1000000 in
theorem compare (x y : Int) (w : World) : Calls Try.prog 125 #[.int .i64 x, .int .i64 y] w fun e w' => e = .returned (.int .i64 (cmpD x y)) ∧ w' = w := by
  by_cases h1 : x < y
  · rw [show cmpD x y = -1 by unfold cmpD; rw [if_pos h1]]
    go_enter Try.func125, Try.ntmps125
    go_wp2
    go_ret
    exact ⟨rfl, rfl⟩
  by_cases h2 : y < x
  · rw [show cmpD x y = 1 by unfold cmpD; rw [if_neg h1, if_pos h2]]
    go_enter Try.func125, Try.ntmps125
    go_wp2
    go_ret
    exact ⟨rfl, rfl⟩
  · rw [show cmpD x y = 0 by unfold cmpD; rw [if_neg h1, if_neg h2]]
    go_enter Try.func125, Try.ntmps125
    go_wp2
    go_ret
    exact ⟨rfl, rfl⟩
set_option maxHeartbeats 1000000 in
theorem cmpClo (x y : R) (W : World) : Calls Try.prog 124 #[.agg #[.int .i64 x.key, .int .i64 x.til, .int .i64 x.val], .agg #[.int .i64 y.key, .int .i64 y.til, .int .i64 y.val]] W fun e w' => e = .returned (.int .i64 (cfD x y)) ∧ ∃ q os', w' = Sort.grow (W.drewN q) os' := by
  unfold cfD
  have hcon := compare x.key y.key
  generalize cmpD x.key y.key = r at hcon ⊢
  go_enter Try.func124, Try.ntmps124
  go_wp2_with (go_at_call 125; refine (hcon _).mono ?_; rintro e w' ⟨rfl, rfl⟩)
  go_ret
  exact ⟨rfl, 0, _, by rw [Sort.alloc_eq_grow, Sort.alloc_eq_grow, Sort.grow_grow]; rfl⟩
theorem cmpL [Inhabited R] (blk off size : Nat) (w : World) : CmpLays Try.prog 124 #[] R.cells 3 cfD blk off size w := fun _ _ _ _ x y => cmpClo x y _
theorem holds_of [Inhabited R] {w : World} {g : Nat} {ss : List R} (h : Upto w g ss.length ss.length ss) : Sort.HoldsK R.cells 3 w g 0 ss.toArray := by
  intro t ht
  rw [Sort.size_flatK] at ht
  have ht' : t < ss.length * 3 := by simpa using ht
  rw [Sort.get_flatK _ _ _ _ ht, Nat.zero_add]
  refine ⟨?_, (h.2 t ht').2⟩
  have hi : t / 3 < ss.length := by omega
  obtain ⟨c0, c1, c2⟩ := h.1 (t / 3) hi
  have hd : ss.toArray[t / 3]! = ss.getD (t / 3) R.zero := by
    rw [getElem!_pos ss.toArray (t / 3) (by simpa using hi), List.getD_eq_getElem?_getD, List.getElem?_eq_getElem hi]; simp
  rw [hd]
  generalize ss.getD (t / 3) R.zero = m at *
  have hm : t % 3 = 0 ∨ t % 3 = 1 ∨ t % 3 = 2 := by omega
  rcases hm with e | e | e
  · rw [e]; rw [show t / 3 * 3 = t by omega] at c0; exact c0
  · rw [e]; rw [show t / 3 * 3 + 1 = t by omega] at c1; exact c1
  · rw [e]; rw [show t / 3 * 3 + 2 = t by omega] at c2; exact c2
theorem upto_of [Inhabited R] {w : World} {g : Nat} {d : Array R} (h : Sort.HoldsK R.cells 3 w g 0 d) : Upto w g d.size d.size d.toList := by
  refine ⟨fun i hi => ?_, fun i hi => ?_⟩
  · have hd : d[i]! = d.toList.getD i R.zero := by
      rw [getElem!_pos d i hi, List.getD_eq_getElem?_getD, List.getElem?_eq_getElem (by simpa using hi)]; simp
    have c0 := (h.cell hi (c := 0) (by omega)).1
    have c1 := (h.cell hi (c := 1) (by omega)).1
    have c2 := (h.cell hi (c := 2) (by omega)).1
    rw [hd, Nat.zero_add] at c0 c1 c2
    exact ⟨c0, c1, c2⟩
  · obtain ⟨q1, q2⟩ := h.cell (i := i / 3) (c := i % 3) (by omega) (by omega)
    rw [Nat.zero_add, show i / 3 * 3 + i % 3 = i by omega] at q1 q2
    exact ⟨by rw [q1]; rfl, q2⟩
theorem sorted_list [Inhabited R] {d : Array R} (h : Sort.SortedIn (ltOf cfD) 0 d.size d) : d.toList.Pairwise (fun a b => ¬ b.key < a.key) := by
  rw [List.pairwise_iff_getElem]
  intro i j hi hj hij
  have hi' : i < d.size := by simpa using hi
  have hj' : j < d.size := by simpa using hj
  have := h i j (Nat.zero_le _) hij hj'
  rw [ltD, getElem!_pos d i hi', getElem!_pos d j hj'] at this
  simpa using of_decide_eq_false this
theorem grown_sort [Inhabited R] {w : World} {g n : Nat} {os : Array Obj} (d : Array R) : w.grownBy (sortWorldK R.cells 3 w g 0 n d os) (some g) := by
  unfold sortWorldK Sort.putRowK
  refine ⟨rfl, rfl, rfl, by simp, fun k hk hne => ?_⟩
  rw [Sort.heap_grow_old _ _ (by simpa using hk)]
  have : g ≠ k := fun e => hne (by rw [e])
  simp [Sort.putRow, Sort.mapBlock, Sort.ahead, Array.getElem?_modify, this]
/-- slices.SortFunc by keys, at a row of one's own that holds a list L in some order. -/
theorem sortC (g cap : Nat) (ss L : List R) (w : World) (hL : Rise L) (hp : ss.Perm L) (hu : Upto w g ss.length ss.length ss) (hg : g < w.heap.size) (hn : ss.length ≤ 1000) :
    Calls Try.prog 123 #[.slice (some ⟨g, 0, none⟩) ss.length cap, .func (.func 124) #[] #[]] w fun e w' => e = .returned (.tuple #[]) ∧ w.grownBy w' (some g) ∧ Upto w' g L.length L.length L := by
  have hin : Inhabited R := ⟨R.zero⟩
  have eg : ∀ args w, (callFunc 124 args).run Try.prog w = .ok (.enter 124 args) w := enters_of Try.func124 (by kernel_rfl) rfl
  have hH := holds_of hu
  have hcon := AnyQ.slices_SortFunc Try.sortL 3 Try.isAgg57 Try.sizeOf57 R.cells (fun _ => rfl) (fun x v hv => cell_one hv) cfD swoD 124 #[] g 0 cap ss.toArray w eg (cmpL g 0 ss.toArray.size w) hH hg (by simp; omega)
  refine hcon.mono ?_
  rintro e w' ⟨rfl, d, n, os, hpi, hso, rfl⟩
  have hsz : d.size = ss.length := by simpa using hpi.1
  refine ⟨rfl, grown_sort d, ?_⟩
  have hho : Sort.HoldsK R.cells 3 (sortWorldK R.cells 3 w g 0 n d os) g 0 d := by
    unfold sortWorldK
    exact Sort.holdsK_grow _ _ _ _ _ _ _ (by simpa [Sort.putRowK, Sort.putRow, Sort.mapBlock, Sort.ahead] using hg) (Sort.holdsK_putRowK _ _ _ _ _ ss.toArray _ (Sort.holdsK_ahead _ _ _ _ _ _ _ hH) (by simp [hsz]))
  have hpl : d.toList.Perm L := by
    have := hpi.2.2
    rw [show (d.extract 0 ss.toArray.size) = d by rw [← hpi.1]; simp, show (ss.toArray.extract 0 ss.toArray.size) = ss.toArray by simp] at this
    exact List.Perm.trans (by simpa using this) hp
  have hdl : d.toList = L := sort_is hL hpl (sorted_list (by rw [hsz]; simpa using hso))
  have := upto_of hho
  rw [hdl, show d.size = L.length by rw [← hdl]; simp] at this
  exact this
theorem left_grown {w w' : World} {b r : Nat} {row : Option Nat} (hg : w.grownBy w' row) (hb : b < w.heap.size) (hr : r < w.heap.size) (h1 : some b ≠ row) (h2 : some r ≠ row) : w'.rangeLeft b r = w.rangeLeft b r := by
  unfold World.rangeLeft
  rw [hg.block b hb h1, hg.block r hr h2]
theorem coll_ne {w : World} {b r n base : Nat} {L ss : List R} {e : TypeId} {size : Nat} {v : Value} {m : Nat} {xs : List Value} (hc : Coll w b r n L ss) (h : w.ownsRow base e size v m xs) : some r ≠ v.ownBlock := by
  obtain ⟨D, left, cnt, hr, _⟩ := hc
  exact row_ne_iter h hr
set_option maxHeartbeats 1000000 in
theorem marksInOrder (b n : Nat) (L : List R) (w : World) (hL : Mm.Lm L) (hn : L.length = n) (h0 : 0 < n) (h64 : n ≤ 128) (hom : OM w b n (findT L)) :
    Calls Try.prog 69 #[.map (some b)] w fun e w' => ∃ v, e = .returned v ∧ Below w.heap.size w w' ∧ LstV w' v L w.heap.size w'.heap.size := by
  have hlen := hom.len
  have HL := hide hL
  have HN := hide hn
  have hbl0 := hom.lt
  obtain ⟨i0, hi, hz0, hz1, hz2⟩ := infoR
  obtain ⟨wm, hmk, hmown, hmgrow⟩ := run_make_own (P := Try.prog) w w.heap.size 24 57 i0 _ 3 Try.underlying24 hi hz0 hz1 .i64 .i64 n (by rw [hz2]; omega) (by unfold maxLen; omega) (Nat.le_refl _)
  have OW : Hid (wm.ownsRow w.heap.size 57 3 (.slice (some ⟨w.heap.size, 0, none⟩) 0 n) ([] : List R).length (flat [])) := hide hmown
  have DM : Hid (Below w.heap.size w wm) := hide ((Below.refl _ _).grown hmgrow (Nat.le_refl _) (fun k hk => by cases hk))
  have HOM := hide (hom.below (unhide DM))
  clear hi hz0 hz1 hz2 hmown hmgrow hL hn hom
  go_enter Try.func69, Try.ntmps69
  go_wp2_with (at_range; refine wpList_range _ rfl _ rfl b n L rfl (unhide HL) (unhide HOM) ?_; intro w0 hco0 hg0 hs0)
  go_frame
  have OW0 := hide ((unhide OW).kept hg0 (.inr (by simp [Value.ownBlock])))
  have HB0 := hide ((unhide DM).grown hg0 (unhide DM).size (fun k hk => by cases hk))
  have HC0 := hide hco0
  have hbs0 := (unhide DM).size
  clear hco0 hg0 hs0 hlen hmk OW DM HOM
  generalize hR : wm.heap.size = r at *
  clear hR
  go_loopw [3] (fun v wr => ∃ ss : List R, Hid (wr.ownsRow w.heap.size 57 3 v ss.length (flat ss)) ∧ Hid (Coll wr b r n L ss) ∧ Hid (Below w.heap.size w wr)) (fun _ wr => wr.rangeLeft b r)
  case atStart => exact ⟨[], OW0, HC0, HB0⟩
  case round =>
    obtain ⟨ss, how, hco, hbl⟩ := hrel
    have hbs := (unhide hbl).size
    have hssn := (unhide hco).len
    go_wp2_with (at_next; refine wpList_nextM _ rfl _ rfl b r n L ss (unhide HL) rfl (unhide hco) ?_ ?_)
    · intro hnd hmm
      have HP := hide (coll_perm (unhide HL).1 hnd hmm)
      have HSL : Hid (ss.length = n) := hide (by rw [(unhide HP).length_eq, unhide HN])
      clear hnd hmm
      obtain ⟨g, cap, hv, hlo, hgl, hu⟩ : ∃ g cap, u3 = .slice (some ⟨g, 0, none⟩) ss.length cap ∧ w.heap.size ≤ g ∧ g < wr.heap.size ∧ Upto wr g ss.length ss.length ss := by
        have ho := unhide how
        rcases ho.2 with ⟨e, h⟩ | ⟨g, cap, cur, e, hb1, hb2, _⟩
        · exfalso; rw [unhide HSL] at h; omega
        · refine ⟨g, cap, e, hb1, (Array.getElem?_eq_some_iff.1 hb2).1, ?_⟩
          rw [e] at ho
          exact upto_own rfl ho
      subst hv
      have HU := hide hu
      clear hu
      go_wp2_with fail
      refine (sortC g cap ss L _ (unhide HL).1 (unhide HP) (unhide HU) hgl (by omega)).mono ?_
      rintro e w2 ⟨rfl, hg2, hu2⟩
      have HU2 := hide hu2
      have HB2 := hide ((unhide hbl).grown hg2 hbs (fun k hk => by cases hk; exact hlo))
      have hsz2 := hg2.size
      clear hu2 hg2
      go_wp2_with fail
      go_ret
      refine ⟨_, rfl, unhide HB2, some ⟨g, 0, none⟩, cap, by rw [unhide HSL, unhide HN]; rfl, .inr ⟨g, rfl, hlo, by omega, by omega, unhide HU2⟩⟩
    · intro key m w1 hmL hco1 hlt hg1 hs1 hen
      unfold R.value at hen ⊢
      have hrne := coll_ne (unhide hco) (unhide how)
      have HOA := hide (((unhide how).kept hg1 (.inr (Ne.symm hrne))).alloc (.cells #[.int .i64 m.key, .int .i64 m.til, .int .i64 m.val] 57))
      have HB1 := hide ((unhide hbl).grown hg1 hbs (fun k hk => by cases hk; exact hbs0))
      have hw1 : w.heap.size ≤ w1.heap.size := by rw [hs1]; exact hbs
      have HBA := hide ((unhide HB1).alloc hw1 (.cells #[.int .i64 m.key, .int .i64 m.til, .int .i64 m.val] 57))
      have HCA := hide (hco1.below ((Below.refl _ _).alloc (Nat.le_refl _) (.cells #[.int .i64 m.key, .int .i64 m.til, .int .i64 m.val] 57)))
      have HLT := hide hlt
      have hb1 := hco1.lt
      have hs2 : w.heap.size ≤ (w1.alloc (.cells #[.int .i64 m.key, .int .i64 m.til, .int .i64 m.val] 57)).heap.size := by simp; omega
      have hsz1 : (w1.alloc (.cells #[.int .i64 m.key, .int .i64 m.til, .int .i64 m.val] 57)).heap.size = w1.heap.size + 1 := by simp
      clear hco1 hlt hg1 hs1 hrne
      have HAP : Hid (∀ o, Below (w1.alloc (.cells #[.int .i64 m.key, .int .i64 m.til, .int .i64 m.val] 57)).heap.size (w1.alloc (.cells #[.int .i64 m.key, .int .i64 m.til, .int .i64 m.val] 57)) ((w1.alloc (.cells #[.int .i64 m.key, .int .i64 m.til, .int .i64 m.val] 57)).alloc o)) := hide (fun o => (Below.refl _ _).alloc (Nat.le_refl _) _)
      have HLA : Hid ((w1.alloc (.cells #[.int .i64 m.key, .int .i64 m.til, .int .i64 m.val] 57)).rangeLeft b r = w1.rangeLeft b r) := hide (left_grown (World.grownBy_alloc w1 _ none) hb1.1 hb1.2 (by simp) (by simp))
      have HRM : Hid (RM ((w1.alloc (.cells #[.int .i64 m.key, .int .i64 m.til, .int .i64 m.val] 57)).alloc (.cells #[.int .i64 m.key, .int .i64 m.til, .int .i64 m.val] 57)) (some ⟨w1.heap.size + 1, 0, none⟩) [m]) := hide (by have := rm_new (w1.alloc (.cells #[.int .i64 m.key, .int .i64 m.til, .int .i64 m.val] 57)) m; rw [hsz1] at this; exact this)
      clear hsz1
      go_wp2_with (at_builtin; refine wpList_apS ((unhide HOA).alloc _) (w1.heap.size + 1) 0 1 1 [m] rfl (unhide HRM) (by simp only [List.length_cons, List.length_nil]; omega) (by simp; omega) rfl _ _ rfl rfl rfl ?_; intro v' w' ho hg; have HO : Hid (w'.ownsRow w.heap.size 57 3 v' (ss ++ [m]).length (flat (ss ++ [m]))) := hide ho; have HB := hide (below_own ((unhide HBA).alloc hs2 _) ((unhide HOA).alloc _) hg (Nat.le_refl _) (by simp; omega)); have HCB := hide ((unhide HCA).below (unhide HAP (.cells #[.int .i64 m.key, .int .i64 m.til, .int .i64 m.val] 57))); have hn1 := coll_ne (unhide HCB) ((unhide HOA).alloc (.cells #[.int .i64 m.key, .int .i64 m.til, .int .i64 m.val] 57)); have hn2 := row_ne_low ((unhide HOA).alloc (.cells #[.int .i64 m.key, .int .i64 m.til, .int .i64 m.val] 57)) hbl0; have HC := hide ((unhide HCB).kept hg hn2 hn1); have HLF := hide ((left_grown hg (unhide HCB).lt.1 (unhide HCB).lt.2 hn2 hn1).trans ((left_grown (World.grownBy_alloc (w1.alloc (.cells #[.int .i64 m.key, .int .i64 m.til, .int .i64 m.val] 57)) (.cells #[.int .i64 m.key, .int .i64 m.til, .int .i64 m.val] 57) none) (unhide HCA).lt.1 (unhide HCA).lt.2 (by simp) (by simp)).trans (unhide HLA))); clear ho hg hn1 hn2)
      go_roundw
      case rel => exact ⟨ss ++ [m], HO, HC, HB⟩
      case measure => rw [unhide HLF]; exact unhide HLT
end Du
end Go.Proofs.Ytlcppgnnlgigmaa
