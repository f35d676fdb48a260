/-
  The least cost is the model's; the program's Keeps.
-/
import Derived.Test.YtpknahhdapmcoaoWayB
namespace Go.Proofs.Ytpknahhdapmcoao
open Go.ChangeShapes Go.WideShapes Go.ChangeAt Go.RowKit
set_option linter.unusedVariables false
set_option linter.unusedSimpArgs false
attribute [local go_sem ↓] Go.wp_at_zero Go.wp_at_succ
namespace Wa
open W1 Tu St Tw Mr Mt Gp
/-- The least of several, by a fold. -/
def stpG (nn : Int → Bool) (b c : Int) : Int := if (nn b || decide (c < b)) = true then c else b
theorem fold_min {nn : Int → Bool} (hn : ∀ c, 1 ≤ c → nn c = false) : ∀ (L : List Int) (b : Int), (∀ c ∈ L, 1 ≤ c) → (nn b = true ∨ 1 ≤ b) →
    (L = [] → L.foldl (stpG nn) b = b) ∧ (nn b = true → L ≠ [] → L.foldl (stpG nn) b ∈ L ∧ ∀ c ∈ L, L.foldl (stpG nn) b ≤ c) ∧ (nn b = false → (L.foldl (stpG nn) b = b ∨ L.foldl (stpG nn) b ∈ L) ∧ L.foldl (stpG nn) b ≤ b ∧ ∀ c ∈ L, L.foldl (stpG nn) b ≤ c)
  | [], b, _, _ => ⟨fun _ => rfl, fun _ h => absurd rfl h, fun _ => ⟨.inl rfl, Int.le_refl _, fun c hc => by cases hc⟩⟩
  | x :: t, b, h1, h2 => by
    have hx := h1 x (by simp)
    have ht : ∀ c ∈ t, 1 ≤ c := fun c hc => h1 c (by simp [hc])
    have e : (x :: t).foldl (stpG nn) b = t.foldl (stpG nn) (stpG nn b x) := rfl
    rw [e]
    refine ⟨fun h => (by cases h), fun hb _ => ?_, fun hb => ?_⟩
    · have es : stpG nn b x = x := by unfold stpG; rw [hb]; rfl
      rw [es]
      have := (fold_min hn t x ht (.inr hx)).2.2 (hn x hx)
      refine ⟨?_, fun c hc => ?_⟩
      · rcases this.1 with h | h
        · rw [h]; simp
        · exact List.mem_cons_of_mem _ h
      · rcases List.mem_cons.1 hc with rfl | hc
        · exact this.2.1
        · exact this.2.2 c hc
    · by_cases hlt : x < b
      · have es : stpG nn b x = x := by unfold stpG; rw [hb, decide_eq_true hlt]; rfl
        rw [es]
        have := (fold_min hn t x ht (.inr hx)).2.2 (hn x hx)
        refine ⟨?_, by omega, fun c hc => ?_⟩
        · rcases this.1 with h | h
          · exact .inr (by rw [h]; simp)
          · exact .inr (List.mem_cons_of_mem _ h)
        · rcases List.mem_cons.1 hc with rfl | hc
          · exact this.2.1
          · exact this.2.2 c hc
      · have es : stpG nn b x = b := by unfold stpG; rw [hb, decide_eq_false hlt]; rfl
        have hb1 : 1 ≤ b := h2.elim (fun h => by rw [hb] at h; cases h) id
        rw [es]
        have := (fold_min hn t b ht (.inr hb1)).2.2 hb
        refine ⟨?_, this.2.1, fun c hc => ?_⟩
        · rcases this.1 with h | h
          · exact .inl h
          · exact .inr (List.mem_cons_of_mem _ h)
        · rcases List.mem_cons.1 hc with rfl | hc
          · have := this.2.1; omega
          · exact this.2.2 c hc
theorem min_same {L M : List Int} (hL : ∀ c ∈ L, 1 ≤ c) (h : ∀ c, c ∈ L ↔ c ∈ M) : (L.foldl (stpG (fun b => decide (b < 0))) (-1) = -1 ∧ M.foldl (stpG (fun b => b == 0)) 0 = 0) ∨ (1 ≤ L.foldl (stpG (fun b => decide (b < 0))) (-1) ∧ L.foldl (stpG (fun b => decide (b < 0))) (-1) = M.foldl (stpG (fun b => b == 0)) 0) := by
  have hM : ∀ c ∈ M, 1 ≤ c := fun c hc => hL c ((h c).2 hc)
  have a1 := fold_min (nn := fun b => decide (b < 0)) (fun c hc => decide_eq_false (by omega)) L (-1) hL (.inl rfl)
  have a2 := fold_min (nn := fun b => b == 0) (fun c hc => by simp; omega) M 0 hM (.inl rfl)
  cases L with
  | nil =>
    have : M = [] := by
      cases M with
      | nil => rfl
      | cons y t => have := (h y).2 (by simp); cases this
    subst this
    exact .inl ⟨rfl, rfl⟩
  | cons x t =>
    have hMn : M ≠ [] := fun e => by have := (h x).1 (by simp); rw [e] at this; cases this
    have b1 := a1.2.1 rfl (by simp)
    have b2 := a2.2.1 rfl hMn
    refine .inr ⟨hL _ b1.1, Int.le_antisymm (b1.2 _ ((h _).2 b2.1)) (b2.2 _ ((h _).1 b1.1))⟩
/-- What one link offers. -/
def valT (f : Int → Int → Option R) (addr : Int) (m : Lk.R) : Int := ((f m.ad addr).getD R.zero).val
def cand (f : Int → Int → Option R) (addr now : Int) (so : List Int) (m : Lk.R) : List Int := (if ownB addr now m = true then [m.ci] else []) ++ (if (viaOk f addr now m && so.contains m.ad) = true then [m.ci + valT f addr m] else [])
theorem cost_cand (f : Int → Int → Option R) (addr now : Int) (so : List Int) (best : Int) (m : Lk.R) : costS f addr now so best m = (cand f addr now so m).foldl (stpG (fun b => decide (b < 0))) best := by
  unfold costS cand ownB viaOk
  cases hs : (Ln.statusV m now == 2)
  · simp
  · rw [if_pos rfl, Bool.and_true, Bool.true_and]
    have hk : keptB (f m.ad addr) now = ((f m.ad addr).isSome && decide (now < ((f m.ad addr).getD R.zero).til)) := by
      cases f m.ad addr <;> rfl
    rw [hk]
    unfold Mr.stepT Mr.stepD
    rw [List.foldl_append]
    have e1 : (if ((m.ad == addr) && (decide (best < 0) || decide (m.ci < best))) = true then m.ci else best) = (if (m.ad == addr) = true then [m.ci] else []).foldl (stpG (fun b => decide (b < 0))) best := by
      cases (m.ad == addr)
      · rfl
      · rfl
    rw [e1]
    generalize (if (m.ad == addr) = true then [m.ci] else []).foldl (stpG (fun b => decide (b < 0))) best = b1
    have e2 : ((((f m.ad addr).isSome && decide (now < ((f m.ad addr).getD R.zero).til)) && decide (0 < m.wl)) && so.contains m.ad) = ((decide (0 < m.wl) && ((f m.ad addr).isSome && decide (now < ((f m.ad addr).getD R.zero).til))) && so.contains m.ad) := by
      cases (f m.ad addr).isSome <;> cases decide (0 < m.wl) <;> simp
    rw [e2]
    cases ((decide (0 < m.wl) && ((f m.ad addr).isSome && decide (now < ((f m.ad addr).getD R.zero).til))) && so.contains m.ad)
    · simp
    · rfl
theorem cost_all (f : Int → Int → Option R) (addr now : Int) (so : List Int) : ∀ (ls : List Lk.R) (b : Int), ls.foldl (costS f addr now so) b = (ls.flatMap (cand f addr now so)).foldl (stpG (fun b => decide (b < 0))) b
  | [], b => rfl
  | m :: t, b => by rw [List.foldl_cons, List.flatMap_cons, List.foldl_append, cost_all f addr now so t, cost_cand]
theorem lst_all (s : Nat) : ∀ (ws : List Wy.R) (l : Int), ws.foldl (lstS s) l = ((ws.filter (fun x => hasB s x.ad)).map (·.cs)).foldl (stpG (fun b => b == 0)) l
  | [], l => rfl
  | x :: t, l => by
    rw [List.foldl_cons, lst_all s t]
    cases h : hasB s x.ad
    · rw [List.filter_cons_of_neg (by rw [h]; simp)]
      have : lstS s l x = l := by unfold lstS; rw [h]; rfl
      rw [this]
    · rw [List.filter_cons_of_pos (by rw [h])]
      have : lstS s l x = stpG (fun b => b == 0) l x.cs := by unfold lstS stpG; rw [h]; rfl
      rw [this]; rfl
def ownL (ls : List Lk.R) (addr now : Int) : List Int := match ls.find? (ownB addr now) with | some m => [m.ci] | none => []
theorem own_fold (ls : List Lk.R) (addr now : Int) : (ownL ls addr now).foldl (stpG (fun b => b == 0)) 0 = ownV ls addr now := by
  unfold ownL ownV
  cases ls.find? (ownB addr now) <;> rfl
/-- The program's least cost and the model's. -/
theorem cost_same {f : Int → Int → Option R} {ls : List Lk.R} {addr now : Int} {s : Nat} {so : List Int} (hok : Ln.linksB ls = true) (hval : ∀ v, 0 ≤ ((f v addr).getD R.zero).val) (hso : ∀ m ∈ ls, hasB s m.ad = so.contains m.ad) :
    (costV f ls addr now so ls.length = -1 ∧ lstV s (ownV ls addr now) (wayV f ls addr now ls.length) = 0) ∨ (1 ≤ costV f ls addr now so ls.length ∧ costV f ls addr now so ls.length = lstV s (ownV ls addr now) (wayV f ls addr now ls.length)) := by
  unfold costV lstV wayV
  rw [List.take_length, cost_all, lst_all, ← own_fold, ← List.foldl_append]
  have hci : ∀ m ∈ ls, 1 ≤ m.ci := fun m hm => by
    obtain ⟨i, hi, rfl⟩ := List.getElem_of_mem hm
    have := (Ln.ok_ci (Ri.all_ok hok hi)).1
    rw [List.getD_eq_getElem?_getD, List.getElem?_eq_getElem hi] at this; exact this
  refine min_same (fun c hc => ?_) (fun c => ?_)
  · obtain ⟨m, hm, hc⟩ := List.mem_flatMap.1 hc
    have h1 := hci m hm
    have h2 := hval m.ad
    unfold cand at hc
    rcases List.mem_append.1 hc with h | h
    · split at h
      · rw [List.mem_singleton] at h; omega
      · cases h
    · split at h
      · rw [List.mem_singleton] at h; unfold valT at h; omega
      · cases h
  · rw [List.mem_flatMap, List.mem_append, List.mem_map]
    constructor
    · rintro ⟨m, hm, hc⟩
      unfold cand at hc
      rcases List.mem_append.1 hc with h | h
      · split at h
        · rename_i ho
          rw [List.mem_singleton] at h
          refine .inl ?_
          unfold ownL
          cases hf : ls.find? (ownB addr now) with
          | none => exact absurd ho (by have := List.find?_eq_none.1 hf m hm; exact this)
          | some m' =>
            have h1 := List.find?_some hf
            have h2 := List.mem_of_find?_eq_some hf
            have e : m' = m := by
              unfold ownB at h1 ho
              rw [Bool.and_eq_true] at h1 ho
              have ea : m'.ad = m.ad := (eq_of_beq h1.1).trans (eq_of_beq ho.1).symm
              obtain ⟨i, hi, rfl⟩ := List.getElem_of_mem h2
              obtain ⟨j, hj, rfl⟩ := List.getElem_of_mem hm
              have ei : ls.getD i Lk.R.zero = ls[i] := by rw [List.getD_eq_getElem?_getD, List.getElem?_eq_getElem hi]; rfl
              have ej : ls.getD j Lk.R.zero = ls[j] := by rw [List.getD_eq_getElem?_getD, List.getElem?_eq_getElem hj]; rfl
              have : i = j := by
                rcases Nat.lt_trichotomy i j with hij | hij | hij
                · have := links_up hok j i hij hj; rw [ei, ej] at this; omega
                · exact hij
                · have := links_up hok i j hij hi; rw [ei, ej] at this; omega
              subst this; rfl
            rw [e, h]; simp
        · cases h
      · split at h
        · rename_i ho
          rw [List.mem_singleton] at h
          rw [Bool.and_eq_true] at ho
          refine .inr ⟨wayR f addr m, ?_, h.symm⟩
          rw [List.mem_filter]
          refine ⟨List.mem_map.2 ⟨m, List.mem_filter.2 ⟨hm, ho.1⟩, rfl⟩, ?_⟩
          show hasB s m.ad = true
          rw [hso m hm]; exact ho.2
        · cases h
    · rintro (h | ⟨x, hx, rfl⟩)
      · unfold ownL at h
        cases hf : ls.find? (ownB addr now) with
        | none => rw [hf] at h; cases h
        | some m =>
          rw [hf, List.mem_singleton] at h
          refine ⟨m, List.mem_of_find?_eq_some hf, ?_⟩
          unfold cand
          rw [if_pos (List.find?_some hf), h]; simp
      · rw [List.mem_filter] at hx
        obtain ⟨m, hm, rfl⟩ := List.mem_map.1 hx.1
        rw [List.mem_filter] at hm
        refine ⟨m, hm.1, ?_⟩
        have h2 : hasB s m.ad = true := hx.2
        unfold cand
        rw [hm.2, ← hso m hm.1, h2]
        exact List.mem_append.2 (.inr (by simp [wayR, valT]))
theorem links_mem {ls : List Lk.R} (hok : Ln.linksB ls = true) : ∀ m ∈ ls, 1 ≤ m.ad ∧ m.ad ≤ 8 := fun m hm => by
  obtain ⟨i, hi, rfl⟩ := List.getElem_of_mem hm
  have := Ln.ok_ad (Ri.all_ok hok hi)
  rw [List.getD_eq_getElem?_getD, List.getElem?_eq_getElem hi] at this; exact this
theorem has_every {ls : List Lk.R} (hok : Ln.linksB ls = true) : ∀ m ∈ ls, hasB 65535 m.ad = (allL ls ls.length).contains m.ad := fun m hm => by
  have h := links_mem hok m hm
  rw [has_all]
  unfold inB
  rw [decide_eq_true h.1, decide_eq_true h.2]
  symm
  rw [Bool.and_self, List.contains_iff_mem]
  unfold allL
  rw [List.take_length]
  exact List.mem_map.2 ⟨m, hm, rfl⟩
theorem has_some {ls : List Lk.R} {rs : List Int} (hok : Ln.linksB ls = true) : ∀ m ∈ ls, hasB (gL rs) m.ad = rs.contains m.ad := fun m hm => gL_has (links_mem hok m hm)
/-- The costs differ where the model's do. -/
theorem diff_same {x y a b : Int} (h1 : (x = -1 ∧ a = 0) ∨ (1 ≤ x ∧ x = a)) (h2 : (y = -1 ∧ b = 0) ∨ (1 ≤ y ∧ y = b)) : (a != b) = (x != y) := by
  rw [Bool.eq_iff_iff]
  simp only [bne_iff_ne, ne_eq]
  omega
theorem vals_ok {ms : List R} (h : twoB ms = true) (addr : Int) : ∀ v, 0 ≤ ((findT ms v addr).getD R.zero).val ∧ ((findT ms v addr).getD R.zero).val ≤ 1073741824 := fun v => find_val (two_set h) v addr
set_option maxRecDepth 100000 in
set_option maxHeartbeats 8000000 in
theorem implKeeps (a : Option Addr) (ms : List R) (cap : Nat) (b : Option Addr) (ls : List Lk.R) (capl : Nat) (me now : Int) (b2 : Option Addr) (rs : List Int) (capr : Nat) (w : World) (hm : ms.length ≤ 1048576) (hl : ls.length ≤ 1048576) (hrl : rs.length ≤ 1048576) (hr : RM w a ms) (hr' : Lk.RM w b ls) (hrr : In.RM w b2 rs) :
    Calls Try.prog 32 #[.slice a ms.length cap, .slice b ls.length capl, .int .i64 me, .int .i64 now, .slice b2 rs.length capr] w fun e w' => e = .returned (.tuple #[.bool (keepA ms ls me now rs), .int .i64 (codeM ms ls rs)]) ∧ Below w.heap.size w w' := by
  have HRC := hide (fun W h1 h2 => relaysCode a ms cap b ls capl b2 rs capr W hm hl hrl h1 h2)
  have HR := hide hr
  have HL := hide hr'
  have HRR := hide hrr
  clear hr hr' hrr
  by_cases hc : codeM ms ls rs = 0
  rotate_left
  · have h1 : keepA ms ls me now rs = false := by unfold keepA; rw [decide_eq_false hc]; rfl
    rw [h1]
    clear h1
    generalize hcd : codeM ms ls rs = cd at *
    clear hcd
    have q1 : (cd != 0) = true := by simpa using hc
    go_enter Try.func32, Try.ntmps32
    go_wp2_with fail
    refine (unhide HRC _ (unhide HR) (unhide HL)).mono ?_
    rintro e w1 ⟨rfl, b1⟩
    have HB1 := hide b1
    clear b1
    go_wp2_with fail
    go_ret2
    exact ⟨rfl, unhide HB1⟩
  have hr8 := (codeM_zero hc).2
  have HOK := hide (codeTL_ok (codeM_zero hc).1)
  have h1 : keepA ms ls me now rs = keepN (findT ms) ls me now rs 8 := by unfold keepA; rw [decide_eq_true hc]; rfl
  rw [h1]
  rw [hc] at HRC ⊢
  clear hc h1
  have HKS := hide (fun n => keep_succ (f := findT ms) (ls := ls) (me := me) (now := now) (rs := rs) (n := n))
  have HKN := hide (fun n (hn : n < 8) h => keep_no (f := findT ms) (ls := ls) (me := me) (now := now) (rs := rs) (n := n) hn h)
  have HDS : Hid (∀ x : Int, (lstV (gL rs) (ownV ls x now) (wayV (findT ms) ls x now ls.length) != lstV 65535 (ownV ls x now) (wayV (findT ms) ls x now ls.length)) = (costV (findT ms) ls x now rs ls.length != costV (findT ms) ls x now (allL ls ls.length) ls.length)) := hide (fun x => diff_same (cost_same (unhide HOK).2 (fun v => (vals_ok (unhide HOK).1 x v).1) (has_some (unhide HOK).2)) (cost_same (unhide HOK).2 (fun v => (vals_ok (unhide HOK).1 x v).1) (has_every (unhide HOK).2)))
  have hgl := gL_lt rs
  go_enter Try.func32, Try.ntmps32
  go_wp2_with fail
  refine (unhide HRC _ (unhide HR) (unhide HL)).mono ?_
  rintro e w1 ⟨rfl, b1⟩
  have HB1 := hide b1
  have HR1 := hide ((unhide HR).below b1)
  have HL1 := hide ((unhide HL).below b1)
  have HRR1 := hide ((unhide HRR).below b1)
  clear b1
  go_wp2_with fail
  refine (tuplesByHop _ ms cap _ (unhide HOK).1 (unhide HR1)).mono ?_
  rintro e w2 ⟨bm, rfl, hbm, om2, b2'⟩
  have HB2 := hide ((unhide HB1).trans (b2'.mono (unhide HB1).size))
  have HM2 := hide om2
  have HL2 := hide ((unhide HL1).below b2')
  have HRR2 := hide ((unhide HRR1).below b2')
  clear b2' om2
  go_wp2_with fail
  refine (groupOf b2 rs capr _ (by omega) (unhide HRR2)).mono ?_
  rintro e w3 ⟨rfl, hw3⟩
  rw [hw3]
  clear hw3
  go_wp2_with fail
  go_loopw [15] (fun i wr => ∃ j : Nat, j ≤ 8 ∧ i = .int .i64 ((j : Int) + 1) ∧ Hid (keepN (findT ms) ls me now rs j = true) ∧ Hid (Below w2.heap.size w2 wr)) (fun i _ => 9 - (intOf i).toNat)
  case atStart => exact ⟨0, by omega, rfl, hide rfl, hide (Below.refl _ _)⟩
  case round =>
    obtain ⟨j, hj, rfl, hkp, hbl⟩ := hrel
    by_cases hlt : (j : Int) + 1 ≤ 8
    · have HKJ := hide (unhide HKS j)
      rw [unhide hkp] at HKJ
      have HKF := hide (unhide HKN j (by omega))
      have HKB : Hid (keepB (findT ms) ls me now rs ((j : Int) + 1) = (!((j : Int) + 1 != me) || !(costV (findT ms) ls ((j : Int) + 1) now rs ls.length != costV (findT ms) ls ((j : Int) + 1) now (allL ls ls.length) ls.length))) := hide rfl
      have HDJ := hide (unhide HDS ((j : Int) + 1))
      cases hme : ((j : Int) + 1 != me)
      · have HE : Hid (keepN (findT ms) ls me now rs (j + 1) = true) := hide (by rw [unhide HKJ, unhide HKB, hme]; rfl)
        clear HKJ HKF HKB HDJ
        go_wp2_with fail
        go_roundw
        case rel => exact ⟨j + 1, by omega, by go_num, HE, hbl⟩
        case measure => simp [intOf]; omega
      have HWK : Hid ((Lit.int .i64 ((j : Int) + 1)).wf = true) := hide (WalkArith.wf_i64 ⟨by omega, by omega⟩)
      have HMr := hide ((unhide HM2).below (unhide hbl))
      have HLr := hide ((unhide HL2).below (unhide hbl))
      go_wp2_with fail
      refine (leastCost bm ms.length (findT ms) _ ls capl ((j : Int) + 1) now (gL rs) _ (by omega) (unhide HWK) (unhide HOK).2 (vals_ok (unhide HOK).1 _) (unhide HMr) (unhide HLr)).mono ?_
      rintro e w4 ⟨rfl, b4⟩
      have HB4 := hide ((unhide hbl).trans (b4.mono (unhide hbl).size))
      have HM4 := hide ((unhide HMr).below b4)
      have HL4 := hide ((unhide HLr).below b4)
      clear b4
      generalize lstV (gL rs) (ownV ls ((j : Int) + 1) now) (wayV (findT ms) ls ((j : Int) + 1) now ls.length) = l1 at *
      go_wp2_with fail
      refine (leastCost bm ms.length (findT ms) _ ls capl ((j : Int) + 1) now 65535 _ (by omega) (unhide HWK) (unhide HOK).2 (vals_ok (unhide HOK).1 _) (unhide HM4) (unhide HL4)).mono ?_
      rintro e w5 ⟨rfl, b5⟩
      have HB5 := hide ((unhide HB4).trans (b5.mono (unhide HB4).size))
      clear b5
      generalize lstV 65535 (ownV ls ((j : Int) + 1) now) (wayV (findT ms) ls ((j : Int) + 1) now ls.length) = l2 at *
      cases hd : (l1 != l2)
      · have HE : Hid (keepN (findT ms) ls me now rs (j + 1) = true) := hide (by rw [unhide HKJ, unhide HKB, ← unhide HDJ, hd]; simp)
        clear HKJ HKF HKB HDJ
        go_wp2_with fail
        go_roundw
        case rel => exact ⟨j + 1, by omega, by go_num, HE, HB5⟩
        case measure => simp [intOf]; omega
      · have HE : Hid (false = keepN (findT ms) ls me now rs 8) := hide (unhide HKF (by rw [unhide HKB, ← unhide HDJ, hd, hme]; rfl)).symm
        have HBf := hide ((unhide HB2).trans ((unhide HB5).mono (unhide HB2).size))
        clear HKJ HKF HKB HDJ
        go_wp2_with fail
        go_ret2
        exact ⟨by rw [← unhide HE]; rfl, unhide HBf⟩
    · obtain rfl : j = 8 := by omega
      have HBf := hide ((unhide HB2).trans ((unhide hbl).mono (unhide HB2).size))
      go_wp2_with fail
      go_ret2
      exact ⟨by rw [unhide hkp]; rfl, unhide HBf⟩
end Wa
end Go.Proofs.Ytpknahhdapmcoao
