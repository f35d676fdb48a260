/-
  Mathematics of relays for floods: who is chosen. The model's contract: relays for floods. The model's contracts: Degree and FloodMprs. The model's contracts: how many relays there may be; Covers.
-/
import Derived.Test.YtpknahhdapmcoacMg1
namespace Go.Proofs.Ytpknahhdapmcoac
set_option linter.unusedVariables false
namespace Mr
open W1
/-- Those that are always willing. -/
def alwB (now : Int) (m : Lk.R) : Bool := (Ln.statusV m now == 2) && (m.wl == 7)
def alwV (ls : List Lk.R) (now : Int) (j : Nat) : List Int := ((ls.take j).filter (alwB now)).map (·.ad)
theorem alw_yes {ls : List Lk.R} {now : Int} {j : Nat} (h : j < ls.length) (hs : alwB now (ls.getD j Lk.R.zero) = true) : alwV ls now (j + 1) = alwV ls now j ++ [(ls.getD j Lk.R.zero).ad] := by
  unfold alwV; rw [Tw.ls_take h, List.filter_append, List.filter_cons_of_pos hs, List.map_append]; rfl
theorem alw_no {ls : List Lk.R} {now : Int} {j : Nat} (h : j < ls.length) (hs : alwB now (ls.getD j Lk.R.zero) = false) : alwV ls now (j + 1) = alwV ls now j := by
  unfold alwV; rw [Tw.ls_take h, List.filter_append, List.filter_cons_of_neg (by rw [hs]; simp)]; simp
theorem alw_len (ls : List Lk.R) (now : Int) (j : Nat) : (alwV ls now j).length ≤ j := by
  unfold alwV
  have := List.length_filter_le (alwB now) (ls.take j)
  have := List.length_take_le j ls
  rw [List.length_map]; omega
/-- Those that alone reach one. -/
def oneB (via : Int → List Int) (out : List Int) (z : Int) : Bool := ((via z).length == 1) && !out.contains ((via z).getD 0 0)
def oneS (via : Int → List Int) (out : List Int) (z : Int) : List Int := if oneB via out z = true then out ++ [(via z).getD 0 0] else out
def onesV (via : Int → List Int) (S out : List Int) : List Int := S.foldl (oneS via) out
theorem ones_step {via : Int → List Int} {S out : List Int} {j : Nat} (h : j < S.length) : onesV via (S.take (j + 1)) out = oneS via (onesV via (S.take j) out) (S.getD j 0) := by
  unfold onesV; rw [zs_take h, List.foldl_append]; rfl
theorem ones_len (via : Int → List Int) (S out : List Int) : ∀ j, j ≤ S.length → (onesV via (S.take j) out).length ≤ out.length + j
  | 0, _ => by simp [onesV]
  | j + 1, h => by
    rw [ones_step (by omega)]
    have := ones_len via S out j (by omega)
    unfold oneS; split
    · rw [List.length_append, List.length_singleton]; omega
    · omega
/-- The best of the first links. -/
def pickV (via : Int → List Int) (S L : List Int) (ls : List Lk.R) : Nat → Option Nat
  | 0 => none
  | j + 1 => if (decide (0 < cntV via L (ls.getD j Lk.R.zero).ad) && (match pickV via S L ls j with | none => true | some b => betV via S L (ls.getD j Lk.R.zero) (ls.getD b Lk.R.zero))) = true then some j else pickV via S L ls j
def idxV (o : Option Nat) : Int := match o with | none => -1 | some b => b
theorem pick_first {via : Int → List Int} {S L : List Int} {ls : List Lk.R} {j : Nat} (h : pickV via S L ls j = none) : pickV via S L ls (j + 1) = if decide (0 < cntV via L (ls.getD j Lk.R.zero).ad) = true then some j else none := by
  rw [pickV, h]; simp
theorem pick_next {via : Int → List Int} {S L : List Int} {ls : List Lk.R} {j b : Nat} (h : pickV via S L ls j = some b) : pickV via S L ls (j + 1) = if (decide (0 < cntV via L (ls.getD j Lk.R.zero).ad) && betV via S L (ls.getD j Lk.R.zero) (ls.getD b Lk.R.zero)) = true then some j else some b := by
  rw [pickV, h]
theorem pick_lt {via : Int → List Int} {S L : List Int} {ls : List Lk.R} : ∀ {j b : Nat}, pickV via S L ls j = some b → b < j ∧ 0 < cntV via L (ls.getD b Lk.R.zero).ad
  | 0, b, h => by cases h
  | j + 1, b, h => by
    cases hp : pickV via S L ls j with
    | none =>
      rw [pick_first hp] at h
      by_cases hc : 0 < cntV via L (ls.getD j Lk.R.zero).ad
      · rw [if_pos (by simpa using hc)] at h; cases h; exact ⟨by omega, hc⟩
      · rw [if_neg (by simpa using hc)] at h; cases h
    | some b' =>
      rw [pick_next hp] at h
      split at h
      · rename_i hc
        cases h
        rw [Bool.and_eq_true] at hc
        exact ⟨by omega, by simpa using hc.1⟩
      · cases h
        have := pick_lt hp
        exact ⟨by omega, this.2⟩
theorem pick_none {via : Int → List Int} {S L : List Int} {ls : List Lk.R} : ∀ {j : Nat}, pickV via S L ls j = none → ∀ i, i < j → cntV via L (ls.getD i Lk.R.zero).ad = 0
  | 0, _, i, hi => by omega
  | j + 1, h, i, hi => by
    cases hp : pickV via S L ls j with
    | none =>
      rw [pick_first hp] at h
      by_cases hc : 0 < cntV via L (ls.getD j Lk.R.zero).ad
      · rw [if_pos (by simpa using hc)] at h; cases h
      · by_cases e : i = j
        · subst e; omega
        · exact pick_none hp i (by omega)
    | some b' =>
      rw [pick_next hp] at h
      split at h <;> cases h
/-- Chosen one after another, as long as one is left. -/
def grdV (via : Int → List Int) (S : List Int) (ls : List Lk.R) : Nat → List Int → List Int
  | 0, out => out
  | f + 1, out => match pickV via S (leftV via S out) ls ls.length with | none => out | some b => grdV via S ls f (out ++ [(ls.getD b Lk.R.zero).ad])
def fldV (via : Int → List Int) (S : List Int) (ls : List Lk.R) (now : Int) : List Int := sortV (grdV via S ls 8 (onesV via S (alwV ls now ls.length)))
theorem hit_app {via : Int → List Int} {rs : List Int} {a z : Int} : hitV via (rs ++ [a]) z = (hitV via rs z || (via z).contains a) := by
  unfold hitV; rw [List.any_append]; simp
theorem left_app (via : Int → List Int) (S rs : List Int) (a : Int) : leftV via S (rs ++ [a]) = (leftV via S rs).filter (fun z => !(via z).contains a) := by
  unfold leftV
  rw [List.filter_filter]
  congr 1
  funext z
  rw [hit_app]
  cases hitV via rs z <;> cases (via z).contains a <;> rfl
theorem cnt_not (via : Int → List Int) (L : List Int) (a : Int) : (L.filter (fun z => !(via z).contains a)).length + cntV via L a = L.length := by
  unfold cntV
  induction L with
  | nil => rfl
  | cons z t ih =>
    cases h : (via z).contains a
    · rw [List.filter_cons_of_pos (by rw [h]; rfl), List.filter_cons_of_neg (by rw [h]; simp), List.length_cons, List.length_cons]; omega
    · rw [List.filter_cons_of_neg (by rw [h]; simp), List.filter_cons_of_pos (by rw [h]), List.length_cons, List.length_cons]; omega
theorem left_less {via : Int → List Int} {S rs : List Int} {a : Int} (h : 0 < cntV via (leftV via S rs) a) : (leftV via S (rs ++ [a])).length < (leftV via S rs).length := by
  rw [left_app]
  have := cnt_not via (leftV via S rs) a
  omega
theorem grd_end {via : Int → List Int} {S : List Int} {ls : List Lk.R} {r : List Int} : ∀ {f : Nat}, (leftV via S r).length = 0 → grdV via S ls f r = r
  | 0, _ => rfl
  | f + 1, h => by
    unfold grdV
    cases hp : pickV via S (leftV via S r) ls ls.length with
    | none => rfl
    | some b =>
      have := (pick_lt hp).2
      have := cnt_len via (leftV via S r) (ls.getD b Lk.R.zero).ad
      omega
theorem grd_step {via : Int → List Int} {S : List Int} {ls : List Lk.R} {r : List Int} {f b : Nat} (hp : pickV via S (leftV via S r) ls ls.length = some b) : grdV via S ls (f + 1) r = grdV via S ls f (r ++ [(ls.getD b Lk.R.zero).ad]) := by
  rw [grdV, hp]
/-- One who is left is reached by a neighbor. -/
theorem pick_some {via : Int → List Int} {S L : List Int} {ls : List Lk.R} (hv : ∀ z ∈ L, ∃ i, i < ls.length ∧ (via z).contains (ls.getD i Lk.R.zero).ad = true) (hL : 0 < L.length) : ∃ b, pickV via S L ls ls.length = some b := by
  cases hp : pickV via S L ls ls.length with
  | some b => exact ⟨b, rfl⟩
  | none =>
    exfalso
    cases L with
    | nil => simp at hL
    | cons z t =>
      obtain ⟨i, hi, hc⟩ := hv z (by simp)
      have := pick_none hp i hi
      unfold cntV at this
      rw [List.filter_cons_of_pos (by exact hc), List.length_cons] at this
      omega
theorem via_link {ms : List Tu.R} {ls : List Lk.R} {now z : Int} (h : 0 < (viaF ms ls now z).length) : ∃ i, i < ls.length ∧ (viaF ms ls now z).contains (ls.getD i Lk.R.zero).ad = true := by
  obtain ⟨a, ha⟩ : ∃ a, a ∈ viaF ms ls now z := List.exists_mem_of_length_pos h
  have ha' := ha
  unfold viaF Tw.viaL at ha
  rw [List.take_length, List.mem_map] at ha
  obtain ⟨m, hm, rfl⟩ := ha
  obtain ⟨i, hi, e⟩ := List.getElem_of_mem (List.mem_filter.1 hm).1
  refine ⟨i, hi, ?_⟩
  rw [List.getD_eq_getElem?_getD, List.getElem?_eq_getElem hi, e]
  exact List.contains_iff_mem.2 ha'
theorem str_via {ms : List Tu.R} {ls : List Lk.R} {me now : Int} : ∀ z ∈ strF ms ls me now, 0 < (viaF ms ls now z).length := by
  intro z hz
  unfold strF Tw.strN at hz
  simp only [List.mem_map, List.mem_filter, List.mem_range] at hz
  obtain ⟨t, ⟨_, h2⟩, rfl⟩ := hz
  unfold Tw.condS at h2
  simp only [Bool.and_eq_true, decide_eq_true_eq] at h2
  exact h2.2.2
theorem left_mem {via : Int → List Int} {S rs : List Int} {z : Int} (h : z ∈ leftV via S rs) : z ∈ S := (List.mem_filter.1 h).1
theorem left_nil {via : Int → List Int} {S rs : List Int} (h : (leftV via S rs).length = 0) : ∀ z ∈ S, hitV via rs z = true := by
  intro z hz
  have := List.eq_nil_of_length_eq_zero h
  unfold leftV at this
  have := (List.filter_eq_nil_iff.1 this) z hz
  simpa using this
end Mr
end Go.Proofs.Ytpknahhdapmcoac
namespace Go.Proofs.Ytpknahhdapmcoac
open Go.ChangeShapes Go.WideShapes Go.ChangeAt Go.RowKit
set_option linter.unusedVariables false
set_option linter.unusedSimpArgs false
attribute [local go_sem ↓] Go.wp_at_zero Go.wp_at_succ
namespace Mr
open W1 Tu St Tw
def lenS : Value → Nat
  | .slice _ n _ => n
  | _ => 0
theorem own_list {w : World} {base : Nat} {v : Value} {zs : List Int} (h : w.ownsRow base 3 1 v zs.length (In.flat zs)) : ∃ a c, v = .slice a zs.length c ∧ In.RM w a zs := by
  obtain ⟨a, c, e, l⟩ := In.lst_own rfl h
  exact ⟨a, c, e, l.rm⟩
theorem own_lt {w : World} {base n : Nat} {v : Value} {xs : List Value} (h : w.ownsRow base 3 1 v n xs) : ∀ g, v.ownBlock = some g → g < w.heap.size := fun g e => (h.lt g e).2
set_option maxRecDepth 100000 in
set_option maxHeartbeats 16000000 in
theorem l08Flood (g0 o0 : Nat) (ms : List R) (cap : Nat) (a : Option Addr) (ls : List Lk.R) (capl : Nat) (me now : Int) (w : World) (hok : twoB ms = true ∧ Ln.linksB ls = true) (hr0 : RM w (some ⟨g0, o0, none⟩) ms) (hr : Lk.RM w a ls) :
    Calls Try.prog 66 #[.slice (some ⟨g0, o0, none⟩) ms.length cap, .slice a ls.length capl, .int .i64 me, .int .i64 now] w fun e w' => ∃ v, e = .returned v ∧ Below w.heap.size w w' ∧ In.LstV w' v (fldV (viaF ms ls now) (strF ms ls me now) ls now) w.heap.size w'.heap.size := by
  have HR0 := hide hr
  have HM0 := hide hr0
  have HOK := hide hok
  have h8 := Ln.links_len hok.2
  clear hr hr0 hok
  have HSV : Hid (∀ z ∈ strF ms ls me now, ∃ i, i < ls.length ∧ (viaF ms ls now z).contains (ls.getD i Lk.R.zero).ad = true) := hide (fun z hz => via_link (str_via z hz))
  obtain ⟨via, hv⟩ : ∃ via, viaF ms ls now = via := ⟨_, rfl⟩
  have HVL : Hid (∀ z, (via z).length ≤ ls.length) := hide (fun z => by rw [← hv]; exact via_len ms ls now z)
  have HV := hide hv
  rw [hv] at HSV ⊢
  clear hv
  have hzl := str_len ms ls me now
  have HG := hide (str_rng (ms := ms) (ls := ls) (me := me) (now := now))
  obtain ⟨zs, hzs⟩ : ∃ zs, strF ms ls me now = zs := ⟨_, rfl⟩
  rw [hzs] at hzl HG HSV ⊢
  have HZS := hide hzs
  clear hzs
  obtain ⟨A, hA⟩ : ∃ A, alwV ls now ls.length = A := ⟨_, rfl⟩
  obtain ⟨G, hG⟩ : ∃ G, grdV via zs ls 8 (onesV via zs A) = G := ⟨_, rfl⟩
  have hF : fldV via zs ls now = sortV G := by unfold fldV; rw [hA, hG]
  rw [hF]
  have HA := hide hA
  have HGG := hide hG
  have hAl : A.length ≤ 8 := by rw [← hA]; exact Nat.le_trans (alw_len ls now ls.length) h8
  clear hA hG hF
  have P0 := hide ((Below.refl w.heap.size w).alloc (Nat.le_refl _) (.cells #[] 3))
  have O1 : Hid ((w.alloc (.cells #[] 3)).ownsRow w.heap.size 3 1 (.slice (some ⟨w.heap.size, 0, none⟩) 0 0) (alwV ls now 0).length (In.flat (alwV ls now 0))) := hide (In.own_empty w w.heap.size (Nat.le_refl _))
  go_enter Try.func66, Try.ntmps66
  go_wp2_with fail
  go_loopw [9, 10] (fun v i wr => ∃ j : Nat, j ≤ ls.length ∧ i = .int .i64 j ∧ Hid (wr.ownsRow w.heap.size 3 1 v (alwV ls now j).length (In.flat (alwV ls now j))) ∧ Hid (Below w.heap.size w wr)) (fun _ i _ => ls.length - (intOf i).toNat)
  case atStart => exact ⟨0, by omega, rfl, O1, P0⟩
  case round =>
    obtain ⟨j, hj, rfl, how, hbl⟩ := hrel
    have hbs := (unhide hbl).size
    by_cases hlt : (j : Int) < (ls.length : Int)
    · have k0 : (0 : Int) ≤ (j : Int) := by omega
      have hlen : j < ls.length := by omega
      obtain ⟨gl, ol, rfl⟩ := (unhide HR0).form (by omega)
      obtain ⟨c0, c1, c2, c3, c4, c5⟩ := ((unhide HR0).below (unhide hbl)).at hlen
      have HY := hide (fun (h : alwB now (ls.getD j Lk.R.zero) = true) => alw_yes hlen h)
      have HZ := hide (fun (h : alwB now (ls.getD j Lk.R.zero) = false) => alw_no hlen h)
      have HBQ : Hid (alwB now (ls.getD j Lk.R.zero) = ((Ln.statusV (ls.getD j Lk.R.zero) now == 2) && ((ls.getD j Lk.R.zero).wl == 7))) := hide rfl
      generalize ls.getD j Lk.R.zero = m at *
      have hfl := alw_len ls now j
      have HBA := hide ((unhide hbl).alloc hbs (.cells #[.int .i64 m.ad, .int .i64 m.hd, .int .i64 m.sy, .int .i64 m.ci, .int .i64 m.co, .int .i64 m.wl] 30))
      have HOA := hide ((unhide how).alloc (.cells #[.int .i64 m.ad, .int .i64 m.hd, .int .i64 m.sy, .int .i64 m.ci, .int .i64 m.co, .int .i64 m.wl] 30))
      have HX := hide (Ln.bx_new wr m 30)
      obtain ⟨d0, d1, d2, d3, d4, d5⟩ := unhide HX
      go_wp2_with fail
      generalize hW : wr.alloc (.cells #[.int .i64 m.ad, .int .i64 m.hd, .int .i64 m.sy, .int .i64 m.ci, .int .i64 m.co, .int .i64 m.wl] 30) = W0 at *
      clear hW
      refine (Ln.l06Status _ _ _ _ _ _ now _).mono ?_
      rintro e w3 ⟨rfl, b3⟩
      have HB3 := hide ((unhide HBA).trans (b3.mono (unhide HBA).size))
      have HO3 := hide (Ln.own_belowI (unhide HOA) b3)
      clear d0 d1 d2 d3 d4 d5 c0 c1 c2 c3 c4 c5
      obtain ⟨d0, d1, d2, d3, d4, d5⟩ := (unhide HX).below b3
      have hs3 := (unhide HB3).size
      clear b3
      have e2 : Ln.statusV ⟨m.ad, m.hd, m.sy, m.ci, m.co, m.wl⟩ now = Ln.statusV m now := rfl
      rw [e2]
      clear e2
      have hno : alwB now m = false → Hid (w3.ownsRow w.heap.size 3 1 u9 (alwV ls now (j + 1)).length (In.flat (alwV ls now (j + 1)))) := fun h => hide (by rw [unhide HZ h]; exact unhide HO3)
      have HNO3 := hide hno
      clear hno
      cases hsy : (Ln.statusV m now == 2)
      · have HO := unhide HNO3 (by rw [unhide HBQ, hsy]; rfl)
        clear HBQ HY HZ HNO3
        generalize Ln.statusV m now = sv at *
        go_wp2_with fail
        go_roundw
        case rel => exact ⟨j + 1, by omega, by go_num, HO, HB3⟩
        case measure => simp [intOf]; omega
      cases hwl : (m.wl == 7)
      · have HO := unhide HNO3 (by rw [unhide HBQ, hsy, hwl]; rfl)
        clear HBQ HY HZ HNO3
        generalize Ln.statusV m now = sv at *
        go_wp2_with fail
        go_roundw
        case rel => exact ⟨j + 1, by omega, by go_num, HO, HB3⟩
        case measure => simp [intOf]; omega
      · have HTF := hide (unhide HY (by rw [unhide HBQ, hsy, hwl]; rfl))
        clear HBQ HY HZ HNO3
        generalize Ln.statusV m now = sv at *
        go_wp2_with (at_builtin; refine In.wpList_apS ((unhide HO3).alloc _) w3.heap.size 0 1 1 [m.ad] rfl (In.rm_new w3 m.ad) (by simp only [List.length_cons, List.length_nil]; omega) (by simp; omega) rfl _ _ rfl rfl rfl ?_; intro v' w' ho hg; have HO : Hid (w'.ownsRow w.heap.size 3 1 v' (alwV ls now (j + 1)).length (In.flat (alwV ls now (j + 1)))) := hide (by rw [unhide HTF]; exact ho); have HB := hide (In.below_own ((unhide HB3).alloc hs3 _) ((unhide HO3).alloc _) hg (Nat.le_refl _) (by simp; omega)); clear ho hg)
        go_roundw
        case rel => exact ⟨j + 1, by omega, by go_num, HO, HB⟩
        case measure => simp [intOf]; omega
    · obtain rfl : j = ls.length := by omega
      have O2 : Hid (wr.ownsRow w.heap.size 3 1 u9 (onesV via (zs.take 0) A).length (In.flat (onesV via (zs.take 0) A))) := hide (by have := unhide how; rw [unhide HA] at this; exact this)
      have HM1 := hide ((unhide HM0).below (unhide hbl))
      have HL1 := hide ((unhide HR0).below (unhide hbl))
      have HOL := hide (own_lt (unhide how))
      clear how
      go_wp2_with fail
      refine (l07Strict g0 o0 ms cap _ ls capl me now _ (unhide HOK) (unhide HM1) (unhide HL1)).mono ?_
      rintro e w2 ⟨v2, rfl, b2, hl2⟩
      obtain ⟨a2, c2, rfl, l2⟩ := hl2
      have hzz : strN (condS ms ls me now) 8 = zs := unhide HZS
      rw [hzz] at l2 ⊢
      have HN2 : Hid (NearOk w2 u9 a2 zs) := hide (near_of l2 (unhide HOL))
      have HB2 := hide ((unhide hbl).trans (b2.mono (unhide hbl).size))
      have O3 := hide (Ln.own_belowI (unhide O2) b2)
      clear b2 l2 HM1 HL1 O2 hzz hbl HOL
      generalize hQ : zs.length = m at *
      have HQ := hide hQ
      clear hQ
      go_wp2_with fail
      go_loopw [9, 13] (fun v i wr => ∃ j : Nat, j ≤ m ∧ i = .int .i64 j ∧ Hid (wr.ownsRow w.heap.size 3 1 v (onesV via (zs.take j) A).length (In.flat (onesV via (zs.take j) A))) ∧ Hid (Below w.heap.size w wr) ∧ Hid (NearOk wr v a2 zs)) (fun _ i _ => m - (intOf i).toNat)
      case atStart => exact ⟨0, by omega, rfl, O3, HB2, HN2⟩
      case round =>
        obtain ⟨j, hj, rfl, how, hbl, hnr⟩ := hrel
        have hbs := (unhide hbl).size
        have hfl := ones_len via zs A j (by rw [unhide HQ]; exact hj)
        by_cases hlt : (j : Int) < (m : Int)
        · have k0 : (0 : Int) ≤ (j : Int) := by omega
          have hlen : j < zs.length := by rw [unhide HQ]; omega
          have hzr := unhide HG _ (getD_mem hlen)
          have HST := hide (ones_step (via := via) (out := A) hlen)
          have HMr := hide ((unhide HM0).below (unhide hbl))
          have HLr := hide ((unhide HR0).below (unhide hbl))
          rcases unhide hnr with e0 | ⟨g, off, rfl, hne, hgl, hrm⟩
          · exfalso; rw [e0] at hlen; simp at hlen
          have c0 := hrm.at hlen
          clear hrm hne hgl
          generalize zs.getD j 0 = z at *
          generalize onesV via (zs.take j) A = r at *
          go_wp2_with fail
          refine (l07Via g0 o0 ms cap _ ls capl z now _ hzr.1 hzr.2 (two_set (unhide HOK).1) (unhide HOK).2 (unhide HMr) (unhide HLr)).mono ?_
          rintro e w5 ⟨v5, rfl, b5, hl5⟩
          obtain ⟨a5, c5, rfl, l5⟩ := hl5
          have hvz : viaL (findT ms) ls z now ls.length = via z := by rw [← unhide HV]; rfl
          rw [hvz] at l5 ⊢
          have HB5 := hide ((unhide hbl).trans (b5.mono (unhide hbl).size))
          have HO5 := hide (Ln.own_belowI (unhide how) b5)
          have HN5 := hide ((unhide hnr).below b5)
          have HV5 := hide l5.rm
          have hs5 := (unhide HB5).size
          clear b5 l5 hvz c0 how hbl hnr
          have hvl := unhide HVL z
          have HOB : Hid (oneB via r z = (((via z).length == 1) && !r.contains ((via z).getD 0 0))) := hide rfl
          have HOS : Hid (oneS via r z = if oneB via r z = true then r ++ [(via z).getD 0 0] else r) := hide rfl
          rw [unhide HOB] at HOS
          rw [unhide HOS] at HST
          clear HOB HOS
          generalize via z = vz at *
          by_cases hv1 : vz.length = 1
          rotate_left
          · have HT : Hid (onesV via (zs.take (j + 1)) A = r) := hide (by rw [unhide HST, if_neg (by rw [show (vz.length == 1) = false by simpa using hv1]; simp)])
            have HO : Hid (w5.ownsRow w.heap.size 3 1 u9 (onesV via (zs.take (j + 1)) A).length (In.flat (onesV via (zs.take (j + 1)) A))) := hide (by rw [unhide HT]; exact unhide HO5)
            have f1 : ((vz.length : Int) == 1) = false := by simp; omega
            clear HST
            go_wp2_with fail
            go_roundw
            case rel => exact ⟨j + 1, by omega, by go_num, HO, HB5, HN5⟩
            case measure => simp [intOf]; omega
          obtain ⟨y, rfl⟩ : ∃ y, vz = [y] := List.length_eq_one_iff.1 hv1
          rcases unhide HV5 with e0 | ⟨g5, o5, rfl, hc5⟩
          · cases e0
          have cy : w5.cell? ⟨g5, o5, none⟩ = some (.int .i64 y) := hc5 0 (by simp)
          clear hc5
          have HST2 : Hid (onesV via (zs.take (j + 1)) A = if r.contains y = true then r else r ++ [y]) := hide (by
            have e : (List.getD [y] 0 0 : Int) = y := rfl
            rw [unhide HST, e]
            cases r.contains y <;> rfl)
          obtain ⟨ao, co, rfl, hro⟩ := own_list (unhide HO5)
          have HRO := hide hro
          clear hro HST
          go_wp2_with fail
          refine (l07Has ao r co y _ (by omega) (unhide HRO)).mono ?_
          rintro e w7 ⟨rfl, hw7⟩
          rw [hw7]
          clear hw7
          obtain ⟨q, hq⟩ : ∃ q, r.contains y = q := ⟨_, rfl⟩
          rw [hq] at HST2 ⊢
          clear hq
          cases q
          · have HTF : Hid (onesV via (zs.take (j + 1)) A = r ++ [y]) := hide (by rw [unhide HST2]; rfl)
            go_wp2_with (at_builtin; refine wpList_apL ((unhide HO5).alloc _) w5.heap.size 0 1 1 [y] rfl (by omega) (In.rm_new w5 y) (by simp only [List.length_cons, List.length_nil]; omega) (by simp; omega) rfl _ _ rfl rfl rfl ?_; intro v' w' ho hg hv; have HO : Hid (w'.ownsRow w.heap.size 3 1 v' (onesV via (zs.take (j + 1)) A).length (In.flat (onesV via (zs.take (j + 1)) A))) := hide (by rw [unhide HTF]; exact ho); have HB := hide (In.below_own ((unhide HB5).alloc hs5 _) ((unhide HO5).alloc _) hg (Nat.le_refl _) (by simp; omega)); have HN := hide (((unhide HN5).below ((Below.refl _ _).alloc (Nat.le_refl _) _)).grown hg hv); clear ho hg hv)
            go_roundw
            case rel => exact ⟨j + 1, by omega, by go_num, HO, HB, HN⟩
            case measure => simp [intOf]; omega
          · have HTF : Hid (onesV via (zs.take (j + 1)) A = r) := hide (by rw [unhide HST2]; rfl)
            have HO : Hid (w5.ownsRow w.heap.size 3 1 (.slice ao r.length co) (onesV via (zs.take (j + 1)) A).length (In.flat (onesV via (zs.take (j + 1)) A))) := hide (by rw [unhide HTF]; exact unhide HO5)
            go_wp2_with fail
            go_roundw
            case rel => exact ⟨j + 1, by omega, by go_num, HO, HB5, HN5⟩
            case measure => simp [intOf]; omega
        · obtain rfl : j = m := by omega
          have hr1 : (onesV via zs A).length ≤ 16 := by
            have := hfl
            rw [← unhide HQ, List.take_length] at this
            have := unhide HQ
            omega
          have how2 := unhide how
          rw [← unhide HQ, List.take_length] at how2
          have HGR : Hid (grdV via zs ls 8 (onesV via zs A) = G) := HGG
          have HFL : Hid ((leftV via zs (onesV via zs A)).length ≤ 8) := hide (Nat.le_trans (left_len via zs _) (by rw [unhide HQ]; exact hzl))
          generalize onesV via zs A = r at *
          obtain ⟨ao, co, rfl, hro⟩ := own_list how2
          have O4 := hide how2
          have HRO := hide hro
          clear hro how2 how hnr hfl
          have HMr := hide ((unhide HM0).below (unhide hbl))
          have HLr := hide ((unhide HR0).below (unhide hbl))
          have hzs' : strF ms ls me now = zs := unhide HZS
          go_wp2_with fail
          refine (by have := l08Left g0 o0 ms cap _ ls capl me now ao r co _ (by omega) (unhide HOK) (unhide HMr) (unhide HLr) (unhide HRO); rw [unhide HV, unhide HZS] at this; exact this : Calls Try.prog 120 _ _ _).mono ?_
          rintro e w6 ⟨v6, rfl, b6, hl6⟩
          obtain ⟨al, cl, rfl, l6⟩ := hl6
          have HB6 := hide ((unhide hbl).trans (b6.mono (unhide hbl).size))
          have O6 := hide (Ln.own_belowI (unhide O4) b6)
          have HL6 := hide l6.rm
          clear b6 l6 hbl O4 HRO HMr HLr hzs'
          go_wp2_with fail
          go_loopw [9, 15] (fun v l wr => ∃ (r : List Int) (f : Nat), Hid (wr.ownsRow w.heap.size 3 1 v r.length (In.flat r)) ∧ Hid (Below w.heap.size w wr) ∧ (∃ al cl, l = .slice al (leftV via zs r).length cl ∧ Hid (In.RM wr al (leftV via zs r))) ∧ Hid (grdV via zs ls f r = G) ∧ Hid ((leftV via zs r).length ≤ f) ∧ r.length + f ≤ 24) (fun _ l _ => lenS l)
          case atStart => exact ⟨r, 8, O6, HB6, ⟨al, cl, rfl, HL6⟩, HGR, HFL, by omega⟩
          case round =>
            rename World => wo
            obtain ⟨r, f, how, hbl, ⟨al, cl, rfl, hrl⟩, hgr, hff, hrf⟩ := hrel
            have hbs := (unhide hbl).size
            have HLM : Hid (∀ z ∈ leftV via zs r, z ∈ zs) := hide (fun z hz => left_mem hz)
            have HLS : Hid (∀ a, 0 < cntV via (leftV via zs r) a → (leftV via zs (r ++ [a])).length < (leftV via zs r).length) := hide (fun a h => left_less h)
            have HGS : Hid (∀ b, pickV via zs (leftV via zs r) ls ls.length = some b → ∀ f, grdV via zs ls (f + 1) r = grdV via zs ls f (r ++ [(ls.getD b Lk.R.zero).ad])) := hide (fun b h f => grd_step h)
            have HGE : Hid ((leftV via zs r).length = 0 → G = r) := hide (fun h => by rw [← unhide hgr]; exact grd_end h)
            have hLl : (leftV via zs r).length ≤ 8 := Nat.le_trans (left_len via zs r) (by rw [unhide HQ]; exact hzl)
            generalize leftV via zs r = Lf at *
            rcases hL0 : Lf.length with _ | nn
            · have HE := hide (unhide HGE hL0)
              obtain ⟨ao, co, rfl, hro⟩ := own_list (unhide how)
              have HRO := hide hro
              clear hro HLM HLS HGS HGE
              go_wp2_with fail
              refine (l08Sorted ao r co _ (by omega) (unhide HRO)).mono ?_
              rintro e w7 ⟨v7, rfl, b7, l7⟩
              have HB7 := hide ((unhide hbl).trans (b7.mono hbs))
              have HL7 := hide (l7.mono (lo' := w.heap.size) hbs (Nat.le_refl _))
              rw [← unhide HE] at HL7
              clear b7 l7
              go_wp2_with fail
              go_ret
              exact ⟨_, rfl, unhide HB7, unhide HL7⟩
            · have hL1 : 0 < Lf.length := by omega
              rcases f with _ | f
              · exfalso; have := unhide hff; omega
              obtain ⟨gl, ol, rfl⟩ := (unhide HR0).form (by
                cases hz : Lf with
                | nil => rw [hz] at hL0; simp at hL0
                | cons z t => obtain ⟨i, hi, _⟩ := unhide HSV z (unhide HLM z (by rw [hz]; simp)); omega)
              have HP := hide (pick_some (S := zs) (fun z hz => unhide HSV z (unhide HLM z hz)) (by omega : 0 < Lf.length))
              have HGL : Hid (∀ z ∈ Lf, 1 ≤ z ∧ z ≤ 8) := hide (fun z hz => unhide HG z (unhide HLM z hz))
              clear HGE
              rw [← hL0]
              clear hL0
              go_wp2_with fail
              go_loopw [16, 17] (fun q i w7 => ∃ t : Nat, t ≤ ls.length ∧ i = .int .i64 t ∧ (∃ o, q = .int .i64 (idxV o) ∧ Hid (pickV via zs Lf ls t = o)) ∧ Hid (Below wo.heap.size wo w7)) (fun _ i _ => ls.length - (intOf i).toNat)
              case atStart => exact ⟨0, by omega, rfl, ⟨none, rfl, hide rfl⟩, hide (Below.refl _ _)⟩
              case round =>
                rename World => w7
                obtain ⟨t, ht, rfl, ⟨o, rfl, hpo⟩, hb7⟩ := hrel
                have HBL := hide ((unhide hbl).trans ((unhide hb7).mono hbs))
                have HM7 := hide ((unhide HM0).below (unhide HBL))
                have HR7 := hide ((unhide HR0).below (unhide HBL))
                have HLf := hide ((unhide hrl).below (unhide hb7))
                have hs7 := (unhide hb7).size
                by_cases hlt2 : (t : Int) < (ls.length : Int)
                · have k1 : (0 : Int) ≤ (t : Int) := by omega
                  have hlen2 : t < ls.length := by omega
                  obtain ⟨d0, d1, d2, d3, d4, d5⟩ := (unhide HR7).at hlen2
                  have HPF := hide (fun (h : pickV via zs Lf ls t = none) => pick_first h)
                  have HPN := hide (fun b (h : pickV via zs Lf ls t = some b) => pick_next h)
                  have HBT : Hid (∀ b capz w', b < ls.length → RM w' (some ⟨g0, o0, none⟩) ms → Lk.RM w' (some ⟨gl, ol, none⟩) ls → In.RM w' al Lf → Calls Try.prog 122 #[.slice (some ⟨g0, o0, none⟩) ms.length cap, .slice (some ⟨gl, ol, none⟩) ls.length capl, .int .i64 me, .int .i64 now, .slice al Lf.length capz, .int .i64 t, .int .i64 (b : Nat)] w' fun e w'' => e = .returned (.bool (betV via zs Lf (ls.getD t Lk.R.zero) (ls.getD b Lk.R.zero))) ∧ Below w'.heap.size w' w'') := hide (fun b capz w' hb h1 h2 h3 => by
                    have := l08Better g0 o0 ms cap gl ol ls capl me now al Lf capz t b w' (unhide HGL) (by omega) (unhide HOK) hlen2 hb h1 h2 h3
                    rw [unhide HV, unhide HZS] at this
                    exact this)
                  generalize ls.getD t Lk.R.zero = X at *
                  go_wp2_with fail
                  refine (by have := l08Gain g0 o0 ms cap _ ls capl now X.ad al Lf cl _ (unhide HGL) (by omega) (two_set (unhide HOK).1) (unhide HOK).2 (unhide HM7) (unhide HR7) (unhide HLf); rw [unhide HV] at this; exact this : Calls Try.prog 121 _ _ _).mono ?_
                  rintro e w8 ⟨rfl, b8⟩
                  have hb8 := hide ((unhide hb7).trans (b8.mono (unhide hb7).size))
                  have HM8 := hide ((unhide HM7).below b8)
                  have HR8 := hide ((unhide HR7).below b8)
                  have HLf8 := hide ((unhide HLf).below b8)
                  clear b8 d0 d1 d2 d3 d4 d5
                  have hcl := cnt_len via Lf X.ad
                  generalize cntV via Lf X.ad = cx at *
                  rcases cx with _ | cx
                  · have HP1 : Hid (pickV via zs Lf ls (t + 1) = o) := hide (by
                      cases o with
                      | none => rw [unhide HPF (unhide hpo)]; rfl
                      | some b => rw [unhide HPN b (unhide hpo)]; rfl)
                    clear HPF HPN HBT
                    go_wp2_with fail
                    go_roundw
                    case rel => exact ⟨t + 1, by omega, by go_num, ⟨o, rfl, HP1⟩, hb8⟩
                    case measure => simp [intOf]; omega
                  have hcx : (0 : Int) < ((cx + 1 : Nat) : Int) := by omega
                  rcases o with _ | b
                  · have HP1 : Hid (pickV via zs Lf ls (t + 1) = some t) := hide (by rw [unhide HPF (unhide hpo)]; simp)
                    clear HPF HPN HBT
                    unfold idxV
                    dsimp only
                    go_wp2_with fail
                    go_roundw
                    case rel => exact ⟨t + 1, by omega, by go_num, ⟨some t, rfl, HP1⟩, hb8⟩
                    case measure => simp [intOf]; omega
                  have hbt := (pick_lt (unhide hpo)).1
                  have HB2 := hide (fun capz w' => unhide HBT b capz w' (by omega))
                  have HP1 := hide (unhide HPN b (unhide hpo))
                  clear HPF HPN HBT
                  have hbn : ¬ ((b : Int) < 0) := by omega
                  generalize betV via zs Lf X (ls.getD b Lk.R.zero) = bq at *
                  unfold idxV
                  dsimp only
                  go_wp2_with fail
                  refine (unhide HB2 cl _ (unhide HM8) (unhide HR8) (unhide HLf8)).mono ?_
                  rintro e w9 ⟨rfl, b9⟩
                  have hb9 := hide ((unhide hb8).trans (b9.mono (unhide hb8).size))
                  clear b9
                  cases bq
                  · have HP2 : Hid (pickV via zs Lf ls (t + 1) = some b) := hide (by rw [unhide HP1]; simp)
                    clear HP1
                    go_wp2_with fail
                    go_roundw
                    case rel => exact ⟨t + 1, by omega, by go_num, ⟨some b, rfl, HP2⟩, hb9⟩
                    case measure => simp [intOf]; omega
                  · have HP2 : Hid (pickV via zs Lf ls (t + 1) = some t) := hide (by rw [unhide HP1]; simp)
                    clear HP1
                    go_wp2_with fail
                    go_roundw
                    case rel => exact ⟨t + 1, by omega, by go_num, ⟨some t, rfl, HP2⟩, hb9⟩
                    case measure => simp [intOf]; omega
                · obtain rfl : t = ls.length := by omega
                  obtain ⟨b, hb⟩ := unhide HP
                  obtain rfl : o = some b := (unhide hpo).symm.trans hb
                  have hbl2 := (pick_lt hb).1
                  have hgp := (pick_lt hb).2
                  have HGN := hide (unhide HGS b hb f)
                  have HLN := hide (unhide HLS _ hgp)
                  have kb : (0 : Int) ≤ (b : Int) := by omega
                  have kn : (b : Int) < (ls.length : Int) := by omega
                  obtain ⟨d0, d1, d2, d3, d4, d5⟩ := (unhide HR7).at hbl2
                  clear hb hgp HP HGS HLS hpo
                  generalize ls.getD b Lk.R.zero = X at *
                  have HO7 := hide (Ln.own_belowI (unhide how) (unhide hb7))
                  have hsw := (unhide HBL).size
                  unfold idxV
                  dsimp only
                  go_wp2_with (at_builtin; refine In.wpList_apS ((unhide HO7).alloc _) w7.heap.size 0 1 1 [X.ad] rfl (In.rm_new w7 X.ad) (by simp only [List.length_cons, List.length_nil]; omega) (by simp; omega) rfl _ _ rfl rfl rfl ?_; intro v' w' ho hg; have HO : Hid (w'.ownsRow w.heap.size 3 1 v' (r ++ [X.ad]).length (In.flat (r ++ [X.ad]))) := hide ho; have HB := hide (In.below_own ((unhide HBL).alloc hsw _) ((unhide HO7).alloc _) hg (Nat.le_refl _) (by simp; omega)); clear ho hg)
                  obtain ⟨ao, co, rfl, hro⟩ := own_list (unhide HO)
                  have HRO := hide hro
                  clear hro
                  have HMr := hide ((unhide HM0).below (unhide HB))
                  have HLr := hide ((unhide HR0).below (unhide HB))
                  have hrl2 : (r ++ [X.ad]).length ≤ 64 := by simp only [List.length_append, List.length_cons, List.length_nil]; omega
                  have HGF : Hid (grdV via zs ls f (r ++ [X.ad]) = G) := hide (by rw [← unhide HGN]; exact unhide hgr)
                  have HFF : Hid ((leftV via zs (r ++ [X.ad])).length ≤ f) := hide (by have h1 := unhide HLN; have h2 := unhide hff; omega)
                  have hrf2 : (r ++ [X.ad]).length + f ≤ 24 := by simp only [List.length_append, List.length_cons, List.length_nil]; omega
                  generalize r ++ [X.ad] = r2 at *
                  refine (by have := l08Left g0 o0 ms cap _ ls capl me now ao r2 co _ hrl2 (unhide HOK) (unhide HMr) (unhide HLr) (unhide HRO); rw [unhide HV, unhide HZS] at this; exact this : Calls Try.prog 120 _ _ _).mono ?_
                  rintro e w9 ⟨v9, rfl, b9, hl9⟩
                  obtain ⟨al9, cl9, rfl, l9⟩ := hl9
                  have HB9 := hide ((unhide HB).trans (b9.mono (unhide HB).size))
                  have O9 := hide (Ln.own_belowI (unhide HO) b9)
                  have HL9 := hide l9.rm
                  clear b9 l9
                  go_wp2_with fail
                  go_roundw
                  case rel => exact ⟨r2, f, O9, HB9, ⟨al9, cl9, rfl, HL9⟩, HGF, HFF, hrf2⟩
                  case measure => simp only [lenS]; exact unhide HLN
end Mr
end Go.Proofs.Ytpknahhdapmcoac
namespace Go.Proofs.Ytpknahhdapmcoac
open Go.ChangeShapes Go.WideShapes Go.ChangeAt Go.RowKit
set_option linter.unusedVariables false
set_option linter.unusedSimpArgs false
attribute [local go_sem ↓] Go.wp_at_zero Go.wp_at_succ
namespace Mr
open W1 Tu St Tw
def degA (ms : List R) (ls : List Lk.R) (me now addr : Int) : Int := if codeTL ms ls = 0 then (cntV (viaF ms ls now) (strF ms ls me now) addr : Int) else 0
def fldA (ms : List R) (ls : List Lk.R) (me now : Int) : List Int := if codeTL ms ls = 0 then fldV (viaF ms ls now) (strF ms ls me now) ls now else []
set_option maxRecDepth 100000 in
set_option maxHeartbeats 2000000 in
theorem specDegree (g off : Nat) (ms : List R) (cap : Nat) (b : Option Addr) (ls : List Lk.R) (capl : Nat) (me now addr : Int) (w : World) (hm : ms.length ≤ 1048576) (hl : ls.length ≤ 1048576) (hr : RM w (some ⟨g, off, none⟩) ms) (hr' : Lk.RM w b ls) :
    Calls Try.prog 23 #[.slice (some ⟨g, off, none⟩) ms.length cap, .slice b ls.length capl, .int .i64 me, .int .i64 now, .int .i64 addr] w fun e w' => e = .returned (.tuple #[.int .i64 (degA ms ls me now addr), .int .i64 (codeTL ms ls)]) ∧ Below w.heap.size w w' := by
  have HR := hide hr
  have HL := hide hr'
  clear hr hr'
  by_cases hb1 : (4096 : Int) < ms.length
  · have hc := codeTL_long (ms := ms) (ls := ls) (.inl (by omega))
    have ha : degA ms ls me now addr = 0 := by unfold degA; rw [hc]; simp
    rw [hc, ha]
    clear hc ha
    go_enter Try.func23, Try.ntmps23
    go_wp2_with fail
    go_ret2
    exact ⟨rfl, Below.refl _ _⟩
  by_cases hb2 : (4096 : Int) < ls.length
  · have hc := codeTL_long (ms := ms) (ls := ls) (.inr (by omega))
    have ha : degA ms ls me now addr = 0 := by unfold degA; rw [hc]; simp
    rw [hc, ha]
    clear hc ha
    go_enter Try.func23, Try.ntmps23
    go_wp2_with fail
    go_ret2
    exact ⟨rfl, Below.refl _ _⟩
  by_cases hc : codeTL ms ls = 0
  rotate_left
  · have h1 : degA ms ls me now addr = 0 := by unfold degA; rw [if_neg hc]
    rw [h1]
    clear h1
    generalize hcd : codeTL ms ls = cd at *
    have HC := hide hcd
    clear hcd
    have q1 : (cd != 0) = true := by simpa using hc
    go_enter Try.func23, Try.ntmps23
    go_wp2_with fail
    refine (l07Ask _ ms cap _ ls capl _ (by omega) (by omega) (unhide HR) (unhide HL)).mono ?_
    rintro e w1 ⟨rfl, b1⟩
    rw [unhide HC]
    have HB1 := hide b1
    clear b1
    go_wp2_with fail
    go_ret2
    exact ⟨rfl, unhide HB1⟩
  have h1 : degA ms ls me now addr = (cntV (viaF ms ls now) (strF ms ls me now) addr : Int) := by unfold degA; rw [if_pos hc]
  have HOK := hide (codeTL_ok hc)
  rw [h1, hc]
  have HC := hide hc
  clear h1 hc
  go_enter Try.func23, Try.ntmps23
  go_wp2_with fail
  refine (l07Ask _ ms cap _ ls capl _ (by omega) (by omega) (unhide HR) (unhide HL)).mono ?_
  rintro e w1 ⟨rfl, b1⟩
  rw [unhide HC]
  have HB1 := hide b1
  have HR1 := hide ((unhide HR).below b1)
  have HL1 := hide ((unhide HL).below b1)
  clear b1
  go_wp2_with fail
  refine (l08Degree g off ms cap _ ls capl me now addr _ (unhide HOK) (unhide HR1) (unhide HL1)).mono ?_
  rintro e w2 ⟨rfl, b2⟩
  have HB2 := hide ((unhide HB1).trans (b2.mono (unhide HB1).size))
  clear b2
  go_wp2_with fail
  go_ret2
  exact ⟨rfl, unhide HB2⟩
set_option maxRecDepth 100000 in
set_option maxHeartbeats 2000000 in
theorem specFlood (g off : Nat) (ms : List R) (cap : Nat) (b : Option Addr) (ls : List Lk.R) (capl : Nat) (me now : Int) (w : World) (hm : ms.length ≤ 1048576) (hl : ls.length ≤ 1048576) (hr : RM w (some ⟨g, off, none⟩) ms) (hr' : Lk.RM w b ls) :
    Calls Try.prog 19 #[.slice (some ⟨g, off, none⟩) ms.length cap, .slice b ls.length capl, .int .i64 me, .int .i64 now] w fun e w' => ∃ v, e = .returned (.tuple #[v, .int .i64 (codeTL ms ls)]) ∧ Below w.heap.size w w' ∧ In.LstV w' v (fldA ms ls me now) w.heap.size w'.heap.size := by
  have HR := hide hr
  have HL := hide hr'
  clear hr hr'
  by_cases hb1 : (4096 : Int) < ms.length
  · have hc := codeTL_long (ms := ms) (ls := ls) (.inl (by omega))
    have ha : fldA ms ls me now = [] := by unfold fldA; rw [hc]; simp
    rw [hc, ha]
    clear hc ha
    go_enter Try.func19, Try.ntmps19
    go_wp2_with fail
    go_ret2
    exact ⟨_, rfl, (Below.refl _ _).alloc (Nat.le_refl _) _, In.lstV_nil _ _ _ _ _⟩
  by_cases hb2 : (4096 : Int) < ls.length
  · have hc := codeTL_long (ms := ms) (ls := ls) (.inr (by omega))
    have ha : fldA ms ls me now = [] := by unfold fldA; rw [hc]; simp
    rw [hc, ha]
    clear hc ha
    go_enter Try.func19, Try.ntmps19
    go_wp2_with fail
    go_ret2
    exact ⟨_, rfl, (Below.refl _ _).alloc (Nat.le_refl _) _, In.lstV_nil _ _ _ _ _⟩
  by_cases hc : codeTL ms ls = 0
  rotate_left
  · have h1 : fldA ms ls me now = [] := by unfold fldA; rw [if_neg hc]
    rw [h1]
    clear h1
    generalize hcd : codeTL ms ls = cd at *
    have HC := hide hcd
    clear hcd
    have q1 : (cd != 0) = true := by simpa using hc
    go_enter Try.func19, Try.ntmps19
    go_wp2_with fail
    refine (l07Ask _ ms cap _ ls capl _ (by omega) (by omega) (unhide HR) (unhide HL)).mono ?_
    rintro e w1 ⟨rfl, b1⟩
    rw [unhide HC]
    have HB1 := hide b1
    clear b1
    go_wp2_with fail
    go_ret2
    exact ⟨_, rfl, (unhide HB1).alloc (unhide HB1).size _, In.lstV_nil _ _ _ _ _⟩
  have h1 : fldA ms ls me now = fldV (viaF ms ls now) (strF ms ls me now) ls now := by unfold fldA; rw [if_pos hc]
  have HOK := hide (codeTL_ok hc)
  rw [h1, hc]
  have HC := hide hc
  clear h1 hc
  go_enter Try.func19, Try.ntmps19
  go_wp2_with fail
  refine (l07Ask _ ms cap _ ls capl _ (by omega) (by omega) (unhide HR) (unhide HL)).mono ?_
  rintro e w1 ⟨rfl, b1⟩
  rw [unhide HC]
  have HB1 := hide b1
  have HR1 := hide ((unhide HR).below b1)
  have HL1 := hide ((unhide HL).below b1)
  clear b1
  go_wp2_with fail
  refine (l08Flood g off ms cap _ ls capl me now _ (unhide HOK) (unhide HR1) (unhide HL1)).mono ?_
  rintro e w2 ⟨v, rfl, b2, hl2⟩
  have HB2 := hide ((unhide HB1).trans (b2.mono (unhide HB1).size))
  have HV2 := hide (hl2.mono (lo' := w.heap.size) (unhide HB1).size (Nat.le_refl _))
  clear b2 hl2
  go_wp2_with fail
  go_ret2
  exact ⟨_, rfl, unhide HB2, unhide HV2⟩
end Mr
end Go.Proofs.Ytpknahhdapmcoac
namespace Go.Proofs.Ytpknahhdapmcoac
open Go.ChangeShapes Go.WideShapes Go.ChangeAt Go.RowKit
set_option linter.unusedVariables false
set_option linter.unusedSimpArgs false
attribute [local go_sem ↓] Go.wp_at_zero Go.wp_at_succ
namespace Mr
open W1 Tu St Tw
/-- The code of a call with relays. -/
def codeM (ms : List R) (ls : List Lk.R) (rs : List Int) : Int := if 4096 < rs.length then 2 else if codeTL ms ls = 0 then (if 8 < rs.length then 6 else 0) else codeTL ms ls
theorem codeM_zero {ms : List R} {ls : List Lk.R} {rs : List Int} (h : codeM ms ls rs = 0) : codeTL ms ls = 0 ∧ rs.length ≤ 8 := by
  unfold codeM at h
  split at h
  · cases h
  · split at h
    · split at h
      · cases h
      · exact ⟨by assumption, by omega⟩
    · exact absurd h (by assumption)
theorem l08Mprs (b : Option Addr) (n capr : Nat) (w : World) (hn : n ≤ 1048576) : Calls Try.prog 75 #[.slice b n capr] w fun e w' => e = .returned (.int .i64 (if 4096 < n then 2 else if 8 < n then 6 else 0)) ∧ w' = w := by
  by_cases h1 : 4096 < n
  · have k1 : (4096 : Int) < (n : Int) := by omega
    rw [if_pos h1]
    clear h1
    go_enter Try.func75, Try.ntmps75
    go_wp2
    go_ret
    exact ⟨rfl, rfl⟩
  rw [if_neg h1]
  have k1 : ¬ (4096 : Int) < (n : Int) := by omega
  by_cases h2 : 8 < n
  · have k2 : (8 : Int) < (n : Int) := by omega
    rw [if_pos h2]
    clear h1 h2
    go_enter Try.func75, Try.ntmps75
    go_wp2
    go_ret
    exact ⟨rfl, rfl⟩
  · have k2 : ¬ (8 : Int) < (n : Int) := by omega
    rw [if_neg h2]
    clear h1 h2
    go_enter Try.func75, Try.ntmps75
    go_wp2
    go_ret
    exact ⟨rfl, rfl⟩
def covA (ms : List R) (ls : List Lk.R) (me now : Int) (rs : List Int) : Bool := decide (codeM ms ls rs = 0) && ((leftV (viaF ms ls now) (strF ms ls me now) rs).length == 0)
end Mr
end Go.Proofs.Ytpknahhdapmcoac
