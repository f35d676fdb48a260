/-
  Of the texts RouN, RouS, NetWm, NetZ, NetF, Dig, Strs, NetB, NetHa, TopG, RtrC, RtrCo, NetRw, NetOf, NetWk: what this claim needs of them. (put together by mkprune.py)
-/
import Derived.Test.YtfooahhdikobeaaGreatQw10
import Derived.Deep.QuietTactic
import Derived.BigQuiet
import Derived.Deep.MidRow
import Derived.Deep.Cut
import Derived.Lib.ItoaMem
import Derived.Laws.BytesArg
import Derived.Deep.RegionHeld3
import Derived.Deep.DrawnRows
import Derived.Deep.Slices
import Derived.Laws.AppendOwn
import Derived.Lib.AppendZeros
import Derived.Deep.DeepHandedRow
import Derived.Deep.AppendLies
namespace Go.Proofs.YtfooahhdikobeaaGreat
set_option linter.unusedVariables false
set_option linter.unusedSimpArgs false
namespace Wd
open W1 Ro Rw Tw
theorem ed_one {g : List Tu.R} (hs : St.setB g = true) {u v c c' : Int} (h : Ed g u v c) (h' : Ed g u v c') : c = c' := by
  obtain ⟨m, hm, e1, e2, e3⟩ := h
  obtain ⟨m', hm', e1', e2', e3'⟩ := h'
  obtain ⟨i, hi, rfl⟩ := List.getElem_of_mem hm
  obtain ⟨j, hj, rfl⟩ := List.getElem_of_mem hm'
  have hk : g[i].key = g[j].key := by rw [key_eq g[i], key_eq g[j], e1, e2, e1', e2']
  have gi : g.getD i Tu.R.zero = g[i] := by rw [List.getD_eq_getElem?_getD, List.getElem?_eq_getElem hi]; rfl
  have gj : g.getD j Tu.R.zero = g[j] := by rw [List.getD_eq_getElem?_getD, List.getElem?_eq_getElem hj]; rfl
  rcases Nat.lt_trichotomy i j with h | h | h
  · have := St.rises hs j i h hj; rw [gi, gj] at this; omega
  · subst h; rw [← e3, ← e3']
  · have := St.rises hs i j h hi; rw [gi, gj] at this; omega
theorem nx_edge {g : List Tu.R} {f : Int} {L : Int → Option R} (hp : Pos g) (hG : Good g f L) : ∀ n : Nat, ∀ v x, L v = some x → v ≠ f → x.co < n → ∃ c, Ed g f x.nx c := by
  intro n
  induction n with
  | zero => intro v x h hv hn; have := (hG.too v x h).2.1; omega
  | succ n ih =>
    intro v x h hv hn
    obtain ⟨u, y, c, hu, he, rfl⟩ := hG.from' v x h hv
    have hc := ed_pos hp he
    by_cases e : u = f
    · subst e
      rw [hG.own] at hu
      cases hu
      exact ⟨c, he⟩
    · have h1 := hp_one hG hu e
      have h2 := ih u y hu e (by unfold ext at hn; dsimp only at hn; omega)
      unfold ext; dsimp only; rw [if_neg (by omega)]; exact h2
theorem low {g : List Tu.R} (hs : St.setB g = true) {f : Int} {L : Int → Option R} (hp : Pos g) (hG : Good g f L) {k c : Int} (hk : Ed g f k c) {M : Int → Option R} (hM : Good g k M) :
    ∀ n : Nat, ∀ v x, L v = some x → v ≠ f → x.nx = k → x.co < n → ∃ z, M v = some z ∧ c + z.co ≤ x.co := by
  intro n
  induction n with
  | zero => intro v x h hv hx hn; have := (hG.too v x h).2.1; omega
  | succ n ih =>
    intro v x h hv hx hn
    obtain ⟨u, y, d, hu, he, rfl⟩ := hG.from' v x h hv
    have hd := ed_pos hp he
    by_cases e : u = f
    · subst e
      rw [hG.own] at hu
      cases hu
      have ev : v = k := hx
      subst ev
      refine ⟨_, hM.own, ?_⟩
      have := ed_one hs hk he
      unfold ext; dsimp only; omega
    · have h1 := hp_one hG hu e
      have hy : y.nx = k := by unfold ext at hx; dsimp only at hx; rw [if_neg (by omega)] at hx; exact hx
      obtain ⟨z, hz, hle⟩ := ih u y hu e hy (by unfold ext at hn; dsimp only at hn; omega)
      obtain ⟨z', hz', hb⟩ := hM.least u z v d hz he
      refine ⟨z', hz', ?_⟩
      unfold Bt ext at hb
      dsimp only at hb
      unfold ext; dsimp only; omega
theorem high {g : List Tu.R} {f : Int} {L : Int → Option R} (hp : Pos g) (hG : Good g f L) {k c : Int} (hk : Ed g f k c) {M : Int → Option R} (hM : Good g k M) :
    ∀ n : Nat, ∀ v z, M v = some z → z.co < n → ∃ x, L v = some x ∧ x.co ≤ c + z.co := by
  intro n
  induction n with
  | zero => intro v z h hn; have := (hM.too v z h).2.1; omega
  | succ n ih =>
    intro v z h hn
    by_cases e : v = k
    · subst e
      rw [hM.own] at h
      cases h
      obtain ⟨x, hx, hb⟩ := hG.least f _ v c hG.own hk
      refine ⟨x, hx, ?_⟩
      unfold Bt ext at hb
      dsimp only at hb ⊢
      omega
    · obtain ⟨u, y, d, hu, he, rfl⟩ := hM.from' v z h e
      have hd := ed_pos hp he
      obtain ⟨x, hx, hle⟩ := ih u y hu (by unfold ext at hn; dsimp only at hn; omega)
      obtain ⟨x', hx', hb⟩ := hG.least u x v d hx he
      refine ⟨x', hx', ?_⟩
      unfold Bt ext at hb
      dsimp only at hb
      unfold ext; dsimp only; omega
/-- A way is the edge to its next hop and the best way from there on. -/
theorem rou_sum {g : List Tu.R} (hg : graphB g = true) {f : Nat} (hf : 1 ≤ f ∧ f ≤ 8) {v : Int} {x : R} (h : best g (f : Int) v = some x) (hv : v ≠ (f : Int)) :
    (1 ≤ x.nx ∧ x.nx ≤ 8) ∧ x.nx ≠ (f : Int) ∧ ∃ c, Ed g (f : Int) x.nx c ∧ ∃ z, best g x.nx v = some z ∧ c + z.co = x.co := by
  obtain ⟨hG, _⟩ := fin_good hg hf
  have hp := graph_pos hg
  have h0 := (hG.too v x h).2.1
  obtain ⟨c, hc⟩ := nx_edge hp hG (x.co.toNat + 1) v x h hv (by omega)
  have hr := ed_rng (graph_two hg) hc
  obtain ⟨k, hk⟩ : ∃ k : Nat, x.nx = (k : Int) := ⟨x.nx.toNat, by omega⟩
  have hM : Good g x.nx (best g x.nx) := by rw [hk]; exact (fin_good hg (f := k) (by omega)).1
  obtain ⟨z, hz, hle⟩ := low (two_set (graph_two hg)) hp hG hc hM (x.co.toNat + 1) v x h hv rfl (by omega)
  have hz0 := (hM.too v z hz).2.1
  obtain ⟨x', hx', hle'⟩ := high hp hG hc hM (z.co.toNat + 1) v z hz (by omega)
  rw [h] at hx'
  cases hx'
  exact ⟨hr.2.1, fun e => hr.2.2.1 e.symm, c, hc, z, hz, by omega⟩
theorem mem_rou {g : List Tu.R} {f : Int} (hG : Good g f (best g f)) {y : R} : y ∈ rouL g f ↔ ∃ i : Nat, i < 8 ∧ best g f ((i : Int) + 1) = some y ∧ (i : Int) + 1 ≠ f := by
  unfold rouL waysL keptB
  rw [List.mem_filter, List.mem_map]
  constructor
  · rintro ⟨⟨i, hi, e⟩, hk⟩
    rw [List.mem_range] at hi
    simp only [Bool.and_eq_true, bne_iff_ne, ne_eq] at hk
    cases hb : best g f ((i : Int) + 1) with
    | none => rw [hb] at e; rw [← e] at hk; exact absurd rfl hk.1
    | some x =>
      rw [hb] at e
      have e' : x = y := e
      subst e'
      have hd := (hG.too _ x hb).1
      exact ⟨i, hi, hb, by rw [← hd]; exact hk.2⟩
  · rintro ⟨i, hi, hb, hne⟩
    have hd := (hG.too _ y hb).1
    refine ⟨⟨i, List.mem_range.2 hi, by rw [hb]; rfl⟩, ?_⟩
    simp only [Bool.and_eq_true, bne_iff_ne, ne_eq]
    exact ⟨by omega, by rw [hd]; exact hne⟩
theorem rou_up {g : List Tu.R} {f : Int} (hG : Good g f (best g f)) : UpT (rouL g f) := by
  unfold rouL waysL
  rw [UpT, List.pairwise_filter, List.pairwise_map]
  refine List.pairwise_lt_range.imp ?_
  intro i j hij h1 h2
  unfold keptB at h1 h2
  simp only [Bool.and_eq_true, bne_iff_ne, ne_eq] at h1 h2
  have key : ∀ i : Nat, (((best g f ((i : Int) + 1)).getD R.zero).ds ≠ 0) → ((best g f ((i : Int) + 1)).getD R.zero).ds = (i : Int) + 1 := by
    intro i h
    cases hb : best g f ((i : Int) + 1) with
    | none => rw [hb] at h; exact absurd rfl h
    | some x => exact (hG.too _ x hb).1
  rw [key i h1.1, key j h2.1]
  omega
theorem rou_of {ss : List R} (hu : UpT ss) (ho : ∀ s ∈ ss, okT s = true) : rouB ss = true := by
  unfold rouB allT Ri.all
  rw [List.all_eq_true]
  intro i hi
  rw [List.mem_range] at hi
  unfold Ri.step
  rw [getD_get hi, ho _ (List.getElem_mem hi), Bool.true_and]
  by_cases h0 : i = 0
  · rw [decide_eq_true h0, Bool.true_or]
  · have hp : i - 1 < ss.length := by omega
    rw [getD_get hp, decide_eq_true (List.pairwise_iff_getElem.1 hu (i - 1) i hp hi (by omega)), Bool.or_true]
theorem rou_right {g : List Tu.R} (hg : graphB g = true) {f : Nat} (hf : 1 ≤ f ∧ f ≤ 8) : rouB (rouL g (f : Int)) = true := by
  obtain ⟨hG, hok⟩ := fin_good hg hf
  refine rou_of (rou_up hG) (fun s hs => ?_)
  obtain ⟨i, hi, hb, hne⟩ := (mem_rou hG).1 hs
  have h1 := hok (i + 1) (by omega) (by omega) s (by rw [← hb]; congr 1)
  obtain ⟨hn, _, c, hc, z, hz, hsum⟩ := rou_sum hg hf hb hne
  have hp := ed_pos (graph_pos hg) hc
  have hh := hp_one hG hb hne
  obtain ⟨k, hk⟩ : ∃ k : Nat, s.nx = (k : Int) := ⟨s.nx.toNat, by omega⟩
  have hM : Good g s.nx (best g s.nx) := by rw [hk]; exact (fin_good hg (f := k) (by omega)).1
  have hz0 := (hM.too _ z hz).2.1
  unfold okN at h1
  unfold okT inB
  simp
  omega
end Wd
end Go.Proofs.YtfooahhdikobeaaGreat
namespace Go.Proofs.YtfooahhdikobeaaGreat
open Go.ChangeShapes Go.WideShapes Go.ChangeAt Go.RowKit
set_option linter.unusedVariables false
set_option linter.unusedSimpArgs false
set_option maxRecDepth 100000
attribute [local go_sem ↓] Go.wp_at_zero Go.wp_at_succ
namespace Rw
open W1 Ro
theorem below_drewN {B : Nat} {w w' : World} (h : Below B w w') (n : Nat) : Below B w (w'.drewN n) := ⟨h.os, h.tape, h.output, h.size, h.block⟩
set_option maxHeartbeats 4000000 in
theorem l11Find (a : Option Addr) (ss : List R) (ca : Nat) (k : Int) (w : World) (hm : ss.length ≤ 1048576) (hr : RM w a ss) :
    Calls Tryz.prog 128 #[.slice a ss.length ca, .int .i64 k] w fun e w' => e = .returned (.tuple #[(fT ss k).value, .bool (hasT ss k)]) ∧ Below w.heap.size w w' := by
  have HT : Hid (∀ j, j < ss.length → (∀ i, i < j → isT k (ss.getD i R.zero) = false) → isT k (ss.getD j R.zero) = true → fT ss k = ss.getD j R.zero ∧ hasT ss k = true) := hide (fun j hj h1 h2 => by
    have hf := Ri.find_at (z := R.zero) (isT k) ss j hj h1 h2
    unfold fT hasT; rw [hf]; exact ⟨rfl, rfl⟩)
  have HN : Hid ((∀ i, i < ss.length → isT k (ss.getD i R.zero) = false) → fT ss k = R.zero ∧ hasT ss k = false) := hide (fun h1 => by
    have hf := Ri.find_no (z := R.zero) (isT k) ss h1
    unfold fT hasT; rw [hf]; exact ⟨rfl, rfl⟩)
  obtain ⟨A, hA⟩ : ∃ A, fT ss k = A := ⟨_, rfl⟩
  obtain ⟨E, hE⟩ : ∃ E, hasT ss k = E := ⟨_, rfl⟩
  rw [hA, hE] at HT HN ⊢
  clear hA hE
  have HR0 := hide hr
  clear hr
  obtain ⟨n, hN⟩ : ∃ n, ss.length = n := ⟨_, rfl⟩
  have HL := hide hN
  rw [hN] at hm HT HN ⊢
  clear hN
  have HA : Hid (Below w.heap.size w (w.alloc (.cells #[.int .i64 0, .int .i64 0, .int .i64 0, .int .i64 0] 87))) := hide ((Below.refl _ _).alloc (Nat.le_refl _) _)
  have HV : Hid (RV (w.alloc (.cells #[.int .i64 0, .int .i64 0, .int .i64 0, .int .i64 0] 87)) w.heap.size R.zero) := hide (rv_new w R.zero)
  have HR := hide ((unhide HR0).below (unhide HA))
  clear HR0
  go_enter Tryz.func128, Tryz.ntmps128
  go_wp2_with fail
  generalize hW : w.alloc (.cells #[.int .i64 0, .int .i64 0, .int .i64 0, .int .i64 0] 87) = W0 at *
  clear hW
  go_loopw [6] (fun i wr => ∃ j : Nat, j ≤ n ∧ i = .int .i64 j ∧ Hid (∀ i, i < j → isT k (ss.getD i R.zero) = false) ∧ W0 = wr) (fun i _ => n - (intOf i).toNat)
  case atStart => exact ⟨0, by omega, rfl, hide (fun i hi => by omega), rfl⟩
  case round =>
    obtain ⟨j, hj, rfl, hrl, rfl⟩ := hrel
    obtain ⟨x0, x1, x2, x3⟩ := (unhide HV).cells
    have y0 := (unhide HV).free 0
    have y1 := (unhide HV).free 1
    have y2 := (unhide HV).free 2
    have y3 := (unhide HV).free 3
    unfold R.zero at x0 x1 x2 x3
    dsimp only at x0 x1 x2 x3
    by_cases hlt : (j : Int) < (n : Int)
    · have k0 : (0 : Int) ≤ (j : Int) := by omega
      have hlen : j < ss.length := by rw [unhide HL]; omega
      obtain ⟨g, off, rfl⟩ := (unhide HR).form (by omega)
      have hA := (unhide HR).at hlen
      cases hk : isT k (ss.getD j R.zero)
      · have HST : Hid (∀ i, i < j + 1 → isT k (ss.getD i R.zero) = false) := hide (fun i hi => by
          by_cases e : i = j
          · subst e; exact hk
          · exact unhide hrl i (by omega))
        have hne : ((ss.getD j R.zero).ds == k) = false := hk
        clear hk
        generalize ss.getD j R.zero = m at *
        obtain ⟨ds, nx, co, hp⟩ := m
        obtain ⟨c0, c1, c2, c3⟩ := hA
        dsimp only at c0 c1 c2 c3 hne
        go_wp2_with fail
        go_roundw
        case rel => exact ⟨j + 1, by omega, by go_num, HST, trivial⟩
        case measure => simp [intOf]; omega
      · have HAE := hide (unhide HT j (by omega) (unhide hrl) hk)
        have hne : ((ss.getD j R.zero).ds == k) = true := hk
        clear hk
        generalize ss.getD j R.zero = m at *
        obtain ⟨ds, nx, co, hp⟩ := m
        obtain ⟨c0, c1, c2, c3⟩ := hA
        dsimp only at c0 c1 c2 c3 hne
        go_wp2_with fail
        refine bodyPost_ret (v := .tuple #[.agg #[.int .i64 ds, .int .i64 nx, .int .i64 co, .int .i64 hp], .bool true]) (by simp [results, Tryz.results128, go_sem, x0, x1, x2, x3]) rfl ⟨by rw [(unhide HAE).1, (unhide HAE).2]; rfl, ?_⟩
        have hB := unhide HA
        (repeat (first | (with_reducible exact hB) | (with_reducible refine Below.drew ?_) | (with_reducible refine Below.setCell ?_ ?_ _; rotate_left; (first | exact Nat.le_refl _ | (simp; done) | (dsimp only; omega))) | (with_reducible refine Below.alloc ?_ ?_ _; rotate_left; (first | exact Nat.le_refl _ | omega | (simp [World.setCell]; omega)))))
    · obtain rfl : j = n := by omega
      have HAE := hide (unhide HN (unhide hrl))
      go_wp2_with fail
      refine bodyPost_ret (v := .tuple #[.agg #[.int .i64 0, .int .i64 0, .int .i64 0, .int .i64 0], .bool false]) (by simp [results, Tryz.results128, go_sem, x0, x1, x2, x3]) rfl ⟨by rw [(unhide HAE).1, (unhide HAE).2]; rfl, ?_⟩
      have hB := unhide HA
      (repeat (first | (with_reducible exact hB) | (with_reducible refine Below.drew ?_) | (with_reducible refine Below.setCell ?_ ?_ _; rotate_left; (first | exact Nat.le_refl _ | (simp; done) | (dsimp only; omega))) | (with_reducible refine Below.alloc ?_ ?_ _; rotate_left; (first | exact Nat.le_refl _ | omega | (simp [World.setCell]; omega)))))
end Rw
end Go.Proofs.YtfooahhdikobeaaGreat
namespace Go.Proofs.YtfooahhdikobeaaGreat
open Go.ChangeShapes Go.WideShapes Go.ChangeAt Go.RowKit
set_option linter.unusedVariables false
set_option linter.unusedSimpArgs false
set_option maxRecDepth 100000
attribute [local go_sem ↓] Go.wp_at_zero Go.wp_at_succ
namespace Nt
open W1 Rt
theorem pig : ∀ (n : Nat) (f : Nat → Nat), (∀ i, i ≤ n → f i < n) → ∃ i j, i < j ∧ j ≤ n ∧ f i = f j
  | 0, f, h => absurd (h 0 (Nat.le_refl _)) (Nat.not_lt_zero _)
  | n + 1, f, h => by
    by_cases e : ∃ i, i ≤ n ∧ f i = f (n + 1)
    · obtain ⟨i, hi, e⟩ := e; exact ⟨i, n + 1, by omega, Nat.le_refl _, e⟩
    · obtain ⟨i, j, h1, h2, h3⟩ := pig n (fun i => if f i = n then f (n + 1) else f i) (fun i hi => by
        have a := h i (by omega)
        have b := h (n + 1) (Nat.le_refl _)
        have c : f i ≠ f (n + 1) := fun h => e ⟨i, hi, h⟩
        try dsimp only
        split <;> omega)
      try dsimp only at h3
      have ci : f i ≠ f (n + 1) := fun h => e ⟨i, by omega, h⟩
      have cj : f j ≠ f (n + 1) := fun h => e ⟨j, h2, h⟩
      refine ⟨i, j, h1, by omega, ?_⟩
      split at h3 <;> split at h3 <;> omega
/-- The walk: on while the way is known, as long as it may be. -/
def wk (ok : Int → Bool) (nx : Int → Int) (b : Int) : Nat → Int → List Int → List Int × Int
  | 0, a, l => if a = b then (l, 0) else (l, 13)
  | f + 1, a, l => if a = b then (l, 0) else if ok a = true then wk ok nx b f (nx a) (l ++ [nx a]) else (l, 5)
theorem wk_here (ok : Int → Bool) (nx : Int → Int) (b : Int) (f : Nat) (l : List Int) : wk ok nx b f b l = (l, 0) := by cases f <;> simp [wk]
theorem wk_end {ok : Int → Bool} {nx : Int → Int} {b a : Int} {l : List Int} (h : a ≠ b) : wk ok nx b 0 a l = (l, 13) := by simp [wk, h]
theorem wk_no {ok : Int → Bool} {nx : Int → Int} {b a : Int} {f : Nat} {l : List Int} (h : a ≠ b) (ho : ok a = false) : wk ok nx b (f + 1) a l = (l, 5) := by simp [wk, h, ho]
theorem wk_on {ok : Int → Bool} {nx : Int → Int} {b a : Int} {f : Nat} {l : List Int} (h : a ≠ b) (ho : ok a = true) : wk ok nx b (f + 1) a l = wk ok nx b f (nx a) (l ++ [nx a]) := by simp [wk, h, ho]
theorem wk_len (ok : Int → Bool) (nx : Int → Int) (b : Int) : ∀ (f : Nat) (a : Int) (l : List Int), (wk ok nx b f a l).1.length ≤ l.length + f
  | 0, a, l => by unfold wk; split <;> simp
  | f + 1, a, l => by
    unfold wk
    split
    · simp
    · split
      · have := wk_len ok nx b f (nx a) (l ++ [nx a]); rw [List.length_append] at this; simp at this ⊢; omega
      · simp
def it (nx : Int → Int) (x : Int) : Nat → Int
  | 0 => x
  | k + 1 => nx (it nx x k)
theorem it_per {nx : Int → Int} {x : Int} {i j : Nat} (h : it nx x i = it nx x j) : ∀ k, it nx x (i + k) = it nx x (j + k)
  | 0 => h
  | k + 1 => by show nx (it nx x (i + k)) = nx (it nx x (j + k)); rw [it_per h k]
/-- Who has passed as many routers as there are is on a round, so the way on is known. -/
theorem ok_round {ok : Int → Bool} {nx : Int → Int} {x : Int} {n : Nat} (hr : ∀ i, i ≤ n → 1 ≤ it nx x i ∧ it nx x i ≤ (n : Int)) (ho : ∀ i, i < n → ok (it nx x i) = true) : ok (it nx x n) = true := by
  obtain ⟨i, j, h1, h2, h3⟩ := pig n (fun i => (it nx x i - 1).toNat) (fun i hi => by have := hr i hi; omega)
  try dsimp only at h3
  have e : it nx x i = it nx x j := by have := hr i (by omega); have := hr j h2; omega
  have p := it_per e (n - j)
  rw [show j + (n - j) = n by omega] at p
  rw [← p]
  exact ho _ (by omega)
/-- Where a router's way to b goes next, and whether it is known, and to one of the net's. -/
noncomputable def nxW (ms : List Rm) (b a : Int) : Int := (Rw.fT (hasR (ms.getD (a - 1).toNat Rm.zero)) b).nx
noncomputable def okW (ms : List Rm) (b a : Int) : Bool := Rw.hasT (hasR (ms.getD (a - 1).toNat Rm.zero)) b && inB (nxW ms b a) 1 ms.length
theorem has_code {m : Rm} (hok : okM m = true) (b : Int) : Rw.rtE (hasR m) b = (if Rw.hasT (hasR m) b = true then 0 else 5) ∧ Rw.rtA (hasR m) b = Rw.fT (hasR m) b := by
  unfold okM at hok
  obtain ⟨r1, r2, r3⟩ := rtr_parts hok
  have hx : 1 ≤ m.x1 ∧ m.x1 ≤ 8 := inB_out r1
  have hr : Rw.rouB (hasR m) = true := by
    have := Wd.rou_right (g := Gr.graph m.x1 m.ls m.es m.x5) (graph_right r1 r2 r3) (f := m.x1.toNat) (by omega)
    rw [show (m.x1.toNat : Int) = m.x1 by omega] at this
    exact this
  have hc : Rw.codeR (hasR m) = 0 := by
    unfold Rw.codeR
    have : (hasR m).length ≤ 8 := by unfold hasR; exact Wd.rouL_len _ _
    rw [if_neg (by omega), if_pos hr]
  unfold Rw.rtE Rw.rtA
  rw [if_pos hc, if_pos hc]
  exact ⟨rfl, rfl⟩
noncomputable def wlA (ok bx bz : Bool) (ms : List Rm) (x y : Int) : List Int := if pcC ok bx bz = 0 then (wk (okW ms y) (nxW ms y) y ms.length x [x]).1 else []
noncomputable def wlE (ok bx bz : Bool) (ms : List Rm) (x y : Int) : Int := if pcC ok bx bz = 0 then (wk (okW ms y) (nxW ms y) y ms.length x [x]).2 else pcC ok bx bz
end Nt
end Go.Proofs.YtfooahhdikobeaaGreat
namespace Go.Proofs.YtfooahhdikobeaaGreat
open Go.ChangeShapes Go.WideShapes Go.ChangeAt Go.RowKit
set_option linter.unusedVariables false
set_option linter.unusedSimpArgs false
set_option maxRecDepth 100000
attribute [local go_sem ↓] Go.wp_at_zero Go.wp_at_succ
namespace Nt
open W1 Rt
/-- How many bytes the frames have. -/
def totF : List Fm.R → Int
  | [] => 0
  | m :: r => (m.bs.size : Int) + totF r
theorem totF_nonneg : ∀ fs : List Fm.R, 0 ≤ totF fs
  | [] => Int.le_refl _
  | m :: r => by have := totF_nonneg r; unfold totF; omega
theorem totF_append (a b : List Fm.R) : totF (a ++ b) = totF a + totF b := by
  induction a with
  | nil => simp [totF]
  | cons m r ih => simp only [List.cons_append, totF, ih]; omega
theorem totF_take {fs : List Fm.R} {j : Nat} (h : j < fs.length) : totF (fs.take (j + 1)) = totF (fs.take j) + ((fs.getD j Fm.R.zero).bs.size : Int) := by
  rw [take_snoc Fm.R.zero h, totF_append]; simp [totF]
set_option maxHeartbeats 8000000 in
theorem szNS (a : Option Addr) (ms : List Rm) (ps : List Pl) (cap : Nat) (L : Int) (w : World) (hL : 0 ≤ L) (hL1 : L ≤ 1048576) (hm : ms.length ≤ maxLen) (hs : ∀ i, i < ms.length → Sx (ms.getD i Rm.zero)) (hr : NR w a ms ps) :
    Calls Tryz.prog 38 #[.slice a ms.length cap, .int .i64 L] w fun e w' => ∃ r : Int, e = .returned (.int .i64 r) ∧ Below w.heap.size w w' ∧ (r < 0 ∨ (0 ≤ r ∧ r = L - ms.length - tot ms)) := by
  unfold maxLen at hm
  have HR := hide hr
  have HS := hide hs
  clear hr hs
  obtain ⟨n, hN⟩ : ∃ n, ms.length = n := ⟨_, rfl⟩
  rw [hN] at hm ⊢
  have HN := hide hN
  have HTT := hide (show tot (ms.take ms.length) = tot ms by rw [List.take_length])
  rw [hN] at HTT
  clear hN
  obtain ⟨T, hT⟩ : ∃ T, tot ms = T := ⟨_, rfl⟩
  rw [hT] at HTT ⊢
  have HT := hide hT
  clear hT
  by_cases h0 : L - n < 0
  · go_enter Tryz.func38, Tryz.ntmps38
    go_wp2
    go_ret
    exact ⟨_, rfl, Below.refl _ _, .inl (by omega)⟩
  obtain ⟨M, hM⟩ : ∃ M, L - (n : Int) = M := ⟨_, rfl⟩
  have HM := hide hM
  have hM0 : 0 ≤ M := by omega
  have hM1 : M ≤ 1048576 := by omega
  have h0' : ¬ M < 0 := by omega
  clear h0
  go_enter Tryz.func38, Tryz.ntmps38
  go_wp2_with fail
  try rw [hM]
  go_wp2_with fail
  clear hM h0'
  go_loopw [1, 5] (fun r i wr => ∃ j : Nat, j ≤ n ∧ i = .int .i64 j ∧ ∃ q : Int, r = .int .i64 q ∧ 0 ≤ q ∧ q ≤ 1048576 ∧ Hid (q = M - tot (ms.take j)) ∧ Hid (Below w.heap.size w wr)) (fun _ i _ => n - (intOf i).toNat)
  case atStart => exact ⟨0, by omega, rfl, M, rfl, hM0, hM1, hide (by simp [tot]), hide (Below.refl _ _)⟩
  case round =>
    obtain ⟨j, hj, rfl, q, rfl, hq0, hq1, hq, hbl⟩ := hrel
    by_cases hlt : (j : Int) < (n : Int)
    · have k0 : (0 : Int) ≤ (j : Int) := by omega
      have hlen : j < ms.length := by rw [unhide HN]; omega
      obtain ⟨g, off, rfl, hA, hD⟩ := ((unhide HR).below (unhide hbl)).at hlen
      have HA := hide hA
      have HX := hide ((unhide HS) j hlen)
      have HTK := hide (tot_take hlen)
      clear hlen hA hD
      generalize ms.getD j Rm.zero = m at *
      generalize ps.getD j Pl.zero = p at *
      go_wp2_with (refine loadW _ rfl rfl (unhide HA) rfl ?_)
      refine (szN m p q _ hq0 hq1 (unhide HX)).mono ?_
      rintro e w1 ⟨r, rfl, b1, hr⟩
      have HB1 := hide ((unhide hbl).trans (b1.mono (unhide hbl).size))
      have hc := cnt_nonneg m
      rcases hr with hr | ⟨hr0, hr1⟩
      · clear b1 HA HX HTK hc
        go_wp2_with fail
        go_ret
        exact ⟨_, rfl, unhide HB1, .inl (by omega)⟩
      · have HQ : Hid (r = M - tot (ms.take (j + 1))) := hide (by have := unhide hq; have := unhide HTK; omega)
        have hrn : ¬ r < 0 := by omega
        have hrm : r ≤ 1048576 := by omega
        clear b1 HA HX HTK hc hr1 hq
        go_wp2_with fail
        go_roundw
        case rel => exact ⟨j + 1, by omega, by go_num, r, rfl, hr0, hrm, HQ, HB1⟩
        case measure => simp [intOf]; omega
    · obtain rfl : j = n := by omega
      go_wp2_with fail
      go_ret
      exact ⟨_, rfl, unhide hbl, .inr ⟨hq0, by have := unhide hq; have := unhide HTT; have := unhide HM; omega⟩⟩
set_option maxHeartbeats 1000000 in
theorem szF (fr tt ti : Int) (bs : ByteArray) (L : Int) (w : World) (hL : 0 ≤ L) (hL1 : L ≤ 1048576) (hz : bs.size ≤ maxLen) :
    Calls Tryz.prog 82 #[.agg #[.int .i64 fr, .int .i64 tt, .int .i64 ti, .string bs], .int .i64 L] w fun e w' => ∃ r : Int, e = .returned (.int .i64 r) ∧ Below w.heap.size w w' ∧ (r < 0 ∨ (0 ≤ r ∧ r = L - bs.size)) := by
  unfold maxLen at hz
  by_cases h0 : L - bs.size < 0
  all_goals
    go_enter Tryz.func82, Tryz.ntmps82
    go_wp2
    go_ret
  · exact ⟨_, rfl, (Below.refl _ _).alloc (Nat.le_refl _) _, .inl (by omega)⟩
  · exact ⟨_, rfl, (Below.refl _ _).alloc (Nat.le_refl _) _, .inr ⟨by omega, rfl⟩⟩
set_option maxHeartbeats 8000000 in
theorem szFS (a : Option Addr) (fs : List Fm.R) (cap : Nat) (L : Int) (w : World) (hL : 0 ≤ L) (hL1 : L ≤ 1048576) (hm : fs.length ≤ maxLen) (hs : ∀ i, i < fs.length → (fs.getD i Fm.R.zero).bs.size ≤ maxLen) (hr : Fm.RM w a fs) :
    Calls Tryz.prog 40 #[.slice a fs.length cap, .int .i64 L] w fun e w' => ∃ r : Int, e = .returned (.int .i64 r) ∧ Below w.heap.size w w' ∧ (r < 0 ∨ (0 ≤ r ∧ r = L - fs.length - totF fs)) := by
  unfold maxLen at hm
  have HR := hide hr
  have HS := hide hs
  clear hr hs
  obtain ⟨n, hN⟩ : ∃ n, fs.length = n := ⟨_, rfl⟩
  rw [hN] at hm ⊢
  have HN := hide hN
  have HTT := hide (show totF (fs.take fs.length) = totF fs by rw [List.take_length])
  rw [hN] at HTT
  clear hN
  obtain ⟨T, hT⟩ : ∃ T, totF fs = T := ⟨_, rfl⟩
  rw [hT] at HTT ⊢
  have HT := hide hT
  clear hT
  by_cases h0 : L - n < 0
  · go_enter Tryz.func40, Tryz.ntmps40
    go_wp2
    go_ret
    exact ⟨_, rfl, Below.refl _ _, .inl (by omega)⟩
  obtain ⟨M, hM⟩ : ∃ M, L - (n : Int) = M := ⟨_, rfl⟩
  have HM := hide hM
  have hM0 : 0 ≤ M := by omega
  have hM1 : M ≤ 1048576 := by omega
  have h0' : ¬ M < 0 := by omega
  clear h0
  go_enter Tryz.func40, Tryz.ntmps40
  go_wp2_with fail
  try rw [hM]
  go_wp2_with fail
  clear hM h0'
  go_loopw [1, 5] (fun r i wr => ∃ j : Nat, j ≤ n ∧ i = .int .i64 j ∧ ∃ q : Int, r = .int .i64 q ∧ 0 ≤ q ∧ q ≤ 1048576 ∧ Hid (q = M - totF (fs.take j)) ∧ Hid (Below w.heap.size w wr)) (fun _ i _ => n - (intOf i).toNat)
  case atStart => exact ⟨0, by omega, rfl, M, rfl, hM0, hM1, hide (by simp [totF]), hide (Below.refl _ _)⟩
  case round =>
    obtain ⟨j, hj, rfl, q, rfl, hq0, hq1, hq, hbl⟩ := hrel
    by_cases hlt : (j : Int) < (n : Int)
    · have k0 : (0 : Int) ≤ (j : Int) := by omega
      have hlen : j < fs.length := by rw [unhide HN]; omega
      rcases (unhide HR).below (by exact (unhide hbl)) with e0 | ⟨g, off, rfl, hc⟩
      · exfalso; rw [e0] at hlen; simp at hlen
      have hA := hc j hlen
      have HX := hide ((unhide HS) j hlen)
      have HTK := hide (totF_take hlen)
      clear hlen hc
      generalize fs.getD j Fm.R.zero = m at *
      obtain ⟨fr, tt, ti, bs⟩ := m
      obtain ⟨c0, c1, c2, c3⟩ := hA
      dsimp only at c0 c1 c2 c3 HX HTK
      go_wp2_with fail
      refine (szF fr tt ti bs q _ hq0 hq1 (unhide HX)).mono ?_
      rintro e w1 ⟨r, rfl, b1, hr⟩
      clear c0 c1 c2 c3
      have HB1 := hide ((unhide hbl).trans (b1.mono (unhide hbl).size))
      rcases hr with hr | ⟨hr0, hr1⟩
      · clear b1 HX HTK
        go_wp2_with fail
        go_ret
        exact ⟨_, rfl, unhide HB1, .inl (by omega)⟩
      · have HQ : Hid (r = M - totF (fs.take (j + 1))) := hide (by have := unhide hq; have := unhide HTK; omega)
        have hrn : ¬ r < 0 := by omega
        have hrm : r ≤ 1048576 := by omega
        clear b1 HX HTK hr1 hq
        go_wp2_with fail
        go_roundw
        case rel => exact ⟨j + 1, by omega, by go_num, r, rfl, hr0, hrm, HQ, HB1⟩
        case measure => simp [intOf]; omega
    · obtain rfl : j = n := by omega
      go_wp2_with fail
      go_ret
      exact ⟨_, rfl, unhide hbl, .inr ⟨hq0, by have := unhide hq; have := unhide HTT; have := unhide HM; omega⟩⟩
set_option maxHeartbeats 1000000 in
theorem szI (a : Option Addr) (n cap : Nat) (L : Int) (w : World) (hL : 0 ≤ L) (hL1 : L ≤ 1048576) (hm : n ≤ maxLen) :
    Calls Tryz.prog 39 #[.slice a n cap, .int .i64 L] w fun e w' => ∃ r : Int, e = .returned (.int .i64 r) ∧ w' = w ∧ (r < 0 ∨ (0 ≤ r ∧ r = L - n)) := by
  unfold maxLen at hm
  by_cases h0 : L - n < 0
  all_goals
    go_enter Tryz.func39, Tryz.ntmps39
    go_wp2
    go_ret
  · exact ⟨_, rfl, rfl, .inl (by omega)⟩
  · exact ⟨_, rfl, rfl, .inr ⟨by omega, rfl⟩⟩
set_option maxHeartbeats 8000000 in
theorem szNt (a b d : Option Addr) (ca cb cd : Nat) (t : Int) (ms : List Rm) (ps : List Pl) (cs : List Int) (fs : List Fm.R) (L : Int) (w : World) (hL : 0 ≤ L) (hL1 : L ≤ 1048576) (hm : ms.length ≤ maxLen) (hc : cs.length ≤ maxLen) (hf : fs.length ≤ maxLen) (hs : ∀ i, i < ms.length → Sx (ms.getD i Rm.zero)) (hg : ∀ i, i < fs.length → (fs.getD i Fm.R.zero).bs.size ≤ maxLen) (hr : NR w a ms ps) (hz : Fm.RM w d fs) :
    Calls Tryz.prog 11 #[.agg #[.slice a ms.length ca, .slice b cs.length cb, .slice d fs.length cd, .int .i64 t], .int .i64 L] w fun e w' => ∃ r : Int, e = .returned (.int .i64 r) ∧ Below w.heap.size w w' ∧ (r < 0 ∨ (0 ≤ r ∧ r = L - ms.length - tot ms - cs.length - fs.length - totF fs)) := by
  have b0 := bel_new w (.cells #[.slice a ms.length ca, .slice b cs.length cb, .slice d fs.length cd, .int .i64 t] 26)
  have HX0 := hide (nb_new w (.slice a ms.length ca) (.slice b cs.length cb) (.slice d fs.length cd) t 26)
  have HR := hide (hr.below b0)
  have HZ := hide (hz.below b0)
  have HB0 := hide b0
  have HS := hide hs
  have HG := hide hg
  have t0 := tot_nonneg ms
  clear b0 hr hz hs hg
  go_enter Tryz.func11, Tryz.ntmps11
  go_wp2_with fail
  generalize w.alloc (.cells #[.slice a ms.length ca, .slice b cs.length cb, .slice d fs.length cd, .int .i64 t] 26) = w0 at *
  refine (szNS _ ms ps _ L _ hL hL1 hm (unhide HS) (unhide HR)).mono ?_
  rintro e w1 ⟨r1, rfl, b1, h1⟩
  have HB1 := hide ((unhide HB0).trans (b1.mono (unhide HB0).size))
  have HX1 := hide ((unhide HX0).below b1)
  have HZ1 := hide ((unhide HZ).below b1)
  clear HB0 HX0 HZ HR b1
  rcases h1 with h1 | ⟨h1, h1'⟩
  · go_wp2_with fail
    go_ret
    exact ⟨_, rfl, unhide HB1, .inl (by omega)⟩
  have hn1 : ¬ r1 < 0 := by omega
  have hu1 : r1 ≤ 1048576 := by omega
  have HE1 := hide h1'
  clear h1'
  obtain ⟨p0, p1, p2, p3⟩ := unhide HX1
  go_wp2_with fail
  clear p0 p1 p2 p3
  refine (szI _ _ _ r1 _ h1 hu1 hc).mono ?_
  rintro e w2 ⟨r2, rfl, hw2, h2⟩
  subst hw2
  rcases h2 with h2 | ⟨h2, h2'⟩
  · go_wp2_with fail
    go_ret
    exact ⟨_, rfl, unhide HB1, .inl (by omega)⟩
  have hn2 : ¬ r2 < 0 := by omega
  have hu2 : r2 ≤ 1048576 := by omega
  have HE2 := hide h2'
  clear h2'
  obtain ⟨p0, p1, p2, p3⟩ := unhide HX1
  go_wp2_with fail
  clear p0 p1 p2 p3
  refine (szFS _ fs _ r2 _ h2 hu2 hf (unhide HG) (unhide HZ1)).mono ?_
  rintro e w3 ⟨r3, rfl, b3, h3⟩
  have HB3 := hide ((unhide HB1).trans (b3.mono (unhide HB1).size))
  clear HB1 HX1 HZ1 b3
  rcases h3 with h3 | ⟨h3, h3'⟩
  · go_wp2_with fail
    go_ret
    exact ⟨_, rfl, unhide HB3, .inl (by omega)⟩
  have hn3 : ¬ r3 < 0 := by omega
  have HE3 := hide h3'
  clear h3'
  go_wp2_with fail
  go_ret
  exact ⟨_, rfl, unhide HB3, .inr ⟨h3, by have := unhide HE1; have := unhide HE2; have := unhide HE3; omega⟩⟩
end Nt
end Go.Proofs.YtfooahhdikobeaaGreat
namespace Go.Proofs.YtfooahhdikobeaaGreat
open Go.ChangeShapes Go.WideShapes Go.ChangeAt Go.RowKit
set_option linter.unusedVariables false
set_option linter.unusedSimpArgs false
set_option maxRecDepth 100000
attribute [local go_sem ↓] Go.wp_at_zero Go.wp_at_succ
namespace Nt
open W1 Rt
def mkK (m : Rm) : Int := 6 + (6 * (m.ls.length : Int) + 3 * (m.tw.length : Int) + 3 * (m.se.length : Int) + 3 * (m.du.length : Int) + 3 * (m.ss.length : Int) + 3 * (m.es.length : Int) + 2 * (m.la.length : Int))
/-- A router's marks: its first number is q, its lists' marks begin at r0 to r6, its last number is r7. -/
def mkR (m : Rm) (q r0 r1 r2 r3 r4 r5 r6 r7 : Int) : Rm := ⟨q, q + 1, q + 1 + 1, q + 1 + 1 + 1, q + 1 + 1 + 1 + 1, r7, Lk.marks r0 m.ls.length, Tu.marks r1 m.tw.length, Tu.marks r2 m.se.length, Tu.marks r3 m.du.length, So.marks r4 m.ss.length, Tu.marks r5 m.es.length, Ed.marks r6 m.la.length⟩
def mk5 (m : Rm) (q : Int) : Rm := ⟨q, q + 1, q + 1 + 1, q + 1 + 1 + 1, q + 1 + 1 + 1 + 1, m.x6, m.ls, m.tw, m.se, m.du, m.ss, m.es, m.la⟩
def mkM (m : Rm) (q : Int) : Rm := mkR m q (q + 1 + 1 + 1 + 1 + 1) ((q + 1 + 1 + 1 + 1 + 1) + 6 * (m.ls.length : Int)) (((q + 1 + 1 + 1 + 1 + 1) + 6 * (m.ls.length : Int)) + 3 * (m.tw.length : Int)) ((((q + 1 + 1 + 1 + 1 + 1) + 6 * (m.ls.length : Int)) + 3 * (m.tw.length : Int)) + 3 * (m.se.length : Int)) (((((q + 1 + 1 + 1 + 1 + 1) + 6 * (m.ls.length : Int)) + 3 * (m.tw.length : Int)) + 3 * (m.se.length : Int)) + 3 * (m.du.length : Int)) ((((((q + 1 + 1 + 1 + 1 + 1) + 6 * (m.ls.length : Int)) + 3 * (m.tw.length : Int)) + 3 * (m.se.length : Int)) + 3 * (m.du.length : Int)) + 3 * (m.ss.length : Int)) (((((((q + 1 + 1 + 1 + 1 + 1) + 6 * (m.ls.length : Int)) + 3 * (m.tw.length : Int)) + 3 * (m.se.length : Int)) + 3 * (m.du.length : Int)) + 3 * (m.ss.length : Int)) + 3 * (m.es.length : Int)) ((((((((q + 1 + 1 + 1 + 1 + 1) + 6 * (m.ls.length : Int)) + 3 * (m.tw.length : Int)) + 3 * (m.se.length : Int)) + 3 * (m.du.length : Int)) + 3 * (m.ss.length : Int)) + 3 * (m.es.length : Int)) + 2 * (m.la.length : Int))
theorem rA_end (m : Rm) (q : Int) : ((((((((q + 1 + 1 + 1 + 1 + 1) + 6 * (m.ls.length : Int)) + 3 * (m.tw.length : Int)) + 3 * (m.se.length : Int)) + 3 * (m.du.length : Int)) + 3 * (m.ss.length : Int)) + 3 * (m.es.length : Int)) + 2 * (m.la.length : Int)) + 1 = q + mkK m := by unfold mkK; omega
theorem mkK_pos (m : Rm) : 6 ≤ mkK m := by unfold mkK; omega
def sumK (ms : List Rm) : Nat → Int
  | 0 => 0
  | j + 1 => sumK ms j + mkK (ms.getD j Rm.zero)
theorem sumK_pos (ms : List Rm) : ∀ j, 0 ≤ sumK ms j
  | 0 => Int.le_refl _
  | j + 1 => by have := sumK_pos ms j; have := mkK_pos (ms.getD j Rm.zero); simp only [sumK]; omega
theorem sumK_le (ms : List Rm) (j : Nat) : ∀ k, sumK ms j ≤ sumK ms (j + k)
  | 0 => Int.le_refl _
  | k + 1 => by have := sumK_le ms j k; have := mkK_pos (ms.getD (j + k) Rm.zero); rw [show j + (k + 1) = (j + k) + 1 by omega]; simp only [sumK]; omega
/-- The heap but an interval is as it was. -/
def Kp (v w : World) (p q : Nat) : Prop := v.heap.size ≤ w.heap.size ∧ ∀ k, k < v.heap.size → (k < p ∨ q ≤ k) → w.heap[k]? = v.heap[k]?
/-- The routers when j of them are marked. -/
def mkA (ms : List Rm) (K : Int) (j i : Nat) : Rm := if i < j then mkM (ms.getD i Rm.zero) (K + sumK ms i) else ms.getD i Rm.zero
theorem mkA_here (ms : List Rm) (K : Int) (j : Nat) : mkA ms K j j = ms.getD j Rm.zero := by unfold mkA; rw [if_neg (by omega)]
theorem mkA_else (ms : List Rm) (K : Int) {j i : Nat} (h : i ≠ j) : mkA ms K (j + 1) i = mkA ms K j i := by
  unfold mkA
  by_cases e : i < j
  · rw [if_pos e, if_pos (by omega)]
  · rw [if_neg e, if_neg (by omega)]
theorem mkA_next (ms : List Rm) (K : Int) (j : Nat) : mkA ms K (j + 1) j = mkM (ms.getD j Rm.zero) (K + sumK ms j) := by unfold mkA; rw [if_pos (by omega)]
/-- Routers in a row at block g, their lists between f i and f (i + 1). -/
def MkS (w : World) (g n : Nat) (f : Nat → Nat) (M : Nat → Rm) (Q : Nat → Pl) : Prop := (∀ i, i < n → w.rangeAt g (i * 13) (cl (M i) (Q i))) ∧ w.there g 0 (n * 13) ∧ ∀ i, i < n → Ow w (f i) (f (i + 1)) (M i) (Q i)
theorem rng_set {w : World} {g o c : Nat} {cs : List Value} {v : Value} (h : w.rangeAt g o cs) (hc : c < cs.length) : (w.setCell ⟨g, o + c, none⟩ v).rangeAt g o (cs.set c v) := fun j u hu => by
  by_cases e : j = c
  · subst e
    have h1 : (cs.set j v)[j]? = some v := by simp [hc]
    rw [h1] at hu; cases hu
    have := h j (cs[j]) (by simp [hc])
    exact World.cell?_setCell_same _ _ _ this
  · rw [World.cell?_setCell_other _ _ _ _ (by intro h; injection h with _ h2 _; omega)]
    exact h j u (by rw [List.getElem?_set_ne (fun h => e h.symm)] at hu; exact hu)
theorem rng_off {w : World} {g o p : Nat} {cs : List Value} {v : Value} (h : w.rangeAt g o cs) (hp : p < o ∨ o + cs.length ≤ p) : (w.setCell ⟨g, p, none⟩ v).rangeAt g o cs := fun j u hu => by
  have hj : j < cs.length := (List.getElem?_eq_some_iff.1 hu).1
  rw [World.cell?_setCell_other _ _ _ _ (by intro h; injection h with _ h2 _; omega)]
  exact h j u hu
theorem ow_same {w : World} {lo hi : Nat} {m m' : Rm} {p : Pl} (h : Ow w lo hi m p) (e : m'.ls = m.ls ∧ m'.tw = m.tw ∧ m'.se = m.se ∧ m'.du = m.du ∧ m'.ss = m.ss ∧ m'.es = m.es ∧ m'.la = m.la) : Ow w lo hi m' p := by
  obtain ⟨e1, e2, e3, e4, e5, e6, e7⟩ := e
  unfold Ow at h ⊢
  rw [e1, e2, e3, e4, e5, e6, e7]; exact h
/-- A cell of one router's row is written that isn't a list's. -/
theorem MkS.put {w : World} {g n j c : Nat} {f : Nat → Nat} {M : Nat → Rm} {Q : Nat → Pl} (h : MkS w g n f M Q) (hj : j < n) (hc : c < 13) {v : Value} {m' : Rm} (e : (cl (M j) (Q j)).set c v = cl m' (Q j)) (el : m'.ls = (M j).ls ∧ m'.tw = (M j).tw ∧ m'.se = (M j).se ∧ m'.du = (M j).du ∧ m'.ss = (M j).ss ∧ m'.es = (M j).es ∧ m'.la = (M j).la) (hg : ∀ i, i < n → g < f i ∨ f (i + 1) ≤ g) : MkS (w.setCell ⟨g, j * 13 + c, none⟩ v) g n f (fun i => if i = j then m' else M i) Q := by
  refine ⟨fun i hi => ?_, there_at h.2.1, fun i hi => ?_⟩
  · by_cases ei : i = j
    · subst ei
      simp only [if_true]
      rw [← e]
      exact rng_set (h.1 i hi) (by rw [cl_len]; exact hc)
    · simp only [if_neg ei]
      exact rng_off (h.1 i hi) (by rw [cl_len]; omega)
  · have ho : Ow (w.setCell ⟨g, j * 13 + c, none⟩ v) (f i) (f (i + 1)) (M i) (Q i) := (h.2.2 i hi).but (Lo := g) (Hi := g + 1) (by simp [World.setCell]) (fun k _ hk => Below.heap_setCell _ _ _ _ (by show k ≠ g; omega)) (by have := hg i hi; omega)
    by_cases ei : i = j
    · subst ei
      simp only [if_true]
      exact ow_same ho el
    · simp only [if_neg ei]; exact ho
theorem MkS.ext {w : World} {g n : Nat} {f : Nat → Nat} {M M' : Nat → Rm} {Q : Nat → Pl} (h : MkS w g n f M Q) (e : ∀ i, i < n → M' i = M i) : MkS w g n f M' Q :=
  ⟨fun i hi => by rw [e i hi]; exact h.1 i hi, h.2.1, fun i hi => by rw [e i hi]; exact h.2.2 i hi⟩
/-- One router's lists were marked, and nothing else happened. -/
theorem MkS.lists {w w' : World} {g n j : Nat} {f : Nat → Nat} {M : Nat → Rm} {Q : Nat → Pl} {m' : Rm} (h : MkS w g n f M Q) (hj : j < n) (hf : ∀ i, i < n → f i ≤ f (i + 1)) (hg : ∀ i, i < n → g < f i ∨ f (i + 1) ≤ g) (hgs : g < w.heap.size) (hs : w.heap.size ≤ w'.heap.size) (hk : ∀ k, k < w.heap.size → (k < f j ∨ f (j + 1) ≤ k) → w'.heap[k]? = w.heap[k]?) (ho : Ow w' (f j) (f (j + 1)) m' (Q j)) (e : cl m' (Q j) = cl (M j) (Q j)) : MkS w' g n f (fun i => if i = j then m' else M i) Q := by
  have hb : w'.heap[g]? = w.heap[g]? := hk g hgs (by have := hg j hj; omega)
  have cb : ∀ q, w'.cell? ⟨g, q, none⟩ = w.cell? ⟨g, q, none⟩ := fun q => World.cell?_of_block (a := ⟨g, q, none⟩) hb
  have fb : ∀ q, w'.frozen? ⟨g, q, none⟩ = w.frozen? ⟨g, q, none⟩ := fun q => World.frozen?_of_block (a := ⟨g, q, none⟩) hb
  refine ⟨fun i hi => ?_, fun k hk => by rw [cb, fb]; exact h.2.1 k hk, fun i hi => ?_⟩
  · have h1 : w'.rangeAt g (i * 13) (cl (M i) (Q i)) := fun k u hu => (cb _).trans (h.1 i hi k u hu)
    by_cases ei : i = j
    · subst ei; simp only [if_true]; rw [e]; exact h1
    · simp only [if_neg ei]; exact h1
  · by_cases ei : i = j
    · subst ei; simp only [if_true]; exact ho
    · simp only [if_neg ei]
      have up : ∀ i k, i + k ≤ n → f i ≤ f (i + k) := fun i k => by
        induction k with
        | zero => intro _; exact Nat.le_refl _
        | succ k ih => intro hk; exact Nat.le_trans (ih (by omega)) (hf (i + k) (by omega))
      refine (h.2.2 i hi).but hs hk ?_
      rcases Nat.lt_or_gt_of_ne ei with h1 | h1
      · have := up (i + 1) (j - (i + 1)) (by omega)
        rw [show i + 1 + (j - (i + 1)) = j by omega] at this
        exact .inl this
      · have := up (j + 1) (i - (j + 1)) (by omega)
        rw [show j + 1 + (i - (j + 1)) = i by omega] at this
        exact .inr this
set_option maxHeartbeats 32000000 in
theorem markNS (g n c lo hi : Nat) (f : Nat → Nat) (K : Int) (ms : List Rm) (Q : Nat → Pl) (w : World) (hn : ms.length = n) (hn8 : n ≤ 1048576) (hK : 0 ≤ K) (hK1 : K + sumK ms n ≤ 900000000) (hs : ∀ i, i < ms.length → Sm (ms.getD i Rm.zero)) (hgs : g < w.heap.size) (hlg : lo ≤ g) (hgh : g < hi) (hg : ∀ i, i < n → g < f i ∨ f (i + 1) ≤ g) (hf : ∀ i, i < n → f i ≤ f (i + 1)) (hfl : ∀ i, i < n → lo ≤ f i ∧ f (i + 1) ≤ hi ∧ f (i + 1) ≤ w.heap.size) (h : MkS w g n f (fun i => ms.getD i Rm.zero) Q) :
    Calls Tryz.prog 56 #[.slice (some ⟨g, 0, none⟩) n c, .int .i64 K] w fun e w' => e = .returned (.int .i64 (K + sumK ms n)) ∧ w.heap.size ≤ w'.heap.size ∧ Below (min lo w.heap.size) w w' ∧ MkS w' g n f (fun i => mkM (ms.getD i Rm.zero) (K + sumK ms i)) Q ∧ ∀ k, k < w.heap.size → (k < lo ∨ hi ≤ k) → w'.heap[k]? = w.heap[k]? := by
  have HM0 : Hid (MkS w g n f (mkA ms K 0) Q) := hide (h.ext (fun i _ => by unfold mkA; rw [if_neg (by omega)]))
  have HSM := hide hs
  have HN := hide hn
  have HG := hide hg
  have HF := hide hf
  have HFL := hide hfl
  clear h hs hn hg hf hfl
  go_enter Tryz.func56, Tryz.ntmps56
  go_wp2
  go_loopw [1, 5] (fun q i wr => ∃ j : Nat, j ≤ n ∧ i = .int .i64 j ∧ q = .int .i64 (K + sumK ms j) ∧ Hid (w.heap.size ≤ wr.heap.size) ∧ Hid (Below (min lo w.heap.size) w wr) ∧ Hid (MkS wr g n f (mkA ms K j) Q) ∧ Hid (∀ k, k < w.heap.size → (k < lo ∨ hi ≤ k) → wr.heap[k]? = w.heap[k]?)) (fun _ i _ => n - (intOf i).toNat)
  case atStart => exact ⟨0, by omega, rfl, by simp [sumK], hide (Nat.le_refl _), hide (Below.refl _ _), HM0, hide (fun _ _ _ => rfl)⟩
  case round =>
    clear HM0
    obtain ⟨j, hj, rfl, rfl, hsz, hbl, hmk, hot⟩ := hrel
    by_cases hlt : (j : Int) < (n : Int)
    · have k0 : (0 : Int) ≤ (j : Int) := by omega
      have hjn : j < n := by omega
      have hjl : j < ms.length := by rw [unhide HN]; exact hjn
      have HSJ := hide (unhide HSM j hjl)
      have hq0 : 0 ≤ K + sumK ms j := by have := sumK_pos ms j; omega
      have hq1 : K + sumK ms j ≤ 900000000 := by
        have := sumK_le ms j (n - j)
        rw [show j + (n - j) = n by omega] at this; omega
      have HSN : Hid (sumK ms (j + 1) = sumK ms j + mkK (ms.getD j Rm.zero)) := hide rfl
      have HHE := hide (mkA_here ms K j)
      have HNX := hide (mkA_next ms K j)
      have HEL := hide (fun i (h : i ≠ j) => mkA_else ms K (j := j) h)
      obtain ⟨qq, hqq⟩ : ∃ q, K + sumK ms j = q := ⟨_, rfl⟩
      have HQQ := hide hqq
      rw [hqq] at hq0 hq1 HNX ⊢
      have hrow := (unhide hmk).1 j hjn
      have hth := (unhide hmk).2.1
      rw [unhide HHE] at hrow
      generalize hM : mkA ms K j = M at *
      have HJ0 : Hid (M j = ms.getD j Rm.zero) := HHE
      generalize hP : Q j = p at *
      have HP := hide hP
      generalize hm : ms.getD j Rm.zero = m at *
      have hgr : g < wr.heap.size := Nat.lt_of_lt_of_le hgs (unhide hsz)
      clear hM HHE hqq hjl hP hm
      obtain ⟨x0, x1, x2, x3, x4⟩ := (⟨hrow 0 _ rfl, hrow 1 _ rfl, hrow 2 _ rfl, hrow 3 _ rfl, hrow 4 _ rfl⟩ : _ ∧ _ ∧ _ ∧ _ ∧ _)
      rw [Nat.add_zero] at x0
      obtain ⟨y0, y1, y2, y3, y4⟩ := (⟨(hth (j * 13) (by omega)).2, (hth (j * 13 + 1) (by omega)).2, (hth (j * 13 + 2) (by omega)).2, (hth (j * 13 + 3) (by omega)).2, (hth (j * 13 + 4) (by omega)).2⟩ : _ ∧ _ ∧ _ ∧ _ ∧ _)
      rw [Nat.zero_add] at y0 y1 y2 y3 y4
      have M1 := (unhide hmk).put hjn (show 0 < 13 by omega) (v := .int .i64 qq) (m' := { M j with x1 := qq }) rfl ⟨rfl, rfl, rfl, rfl, rfl, rfl, rfl⟩ (unhide HG)
      rw [Nat.add_zero] at M1
      have M2 := M1.put hjn (show 1 < 13 by omega) (v := .int .i64 (qq + 1)) (m' := { M j with x1 := qq, x2 := qq + 1 }) (by simp only [if_true]; rfl) (by simp only [if_true, and_self]) (unhide HG)
      have M3 := M2.put hjn (show 2 < 13 by omega) (v := .int .i64 (qq + 1 + 1)) (m' := { M j with x1 := qq, x2 := qq + 1, x3 := qq + 1 + 1 }) (by simp only [if_true]; rfl) (by simp only [if_true, and_self]) (unhide HG)
      have M4 := M3.put hjn (show 3 < 13 by omega) (v := .int .i64 (qq + 1 + 1 + 1)) (m' := { M j with x1 := qq, x2 := qq + 1, x3 := qq + 1 + 1, x4 := qq + 1 + 1 + 1 }) (by simp only [if_true]; rfl) (by simp only [if_true, and_self]) (unhide HG)
      have M5 := M4.put hjn (show 4 < 13 by omega) (v := .int .i64 (qq + 1 + 1 + 1 + 1)) (m' := mk5 (M j) qq) (by simp only [if_true]; rfl) (by simp only [if_true]; exact ⟨rfl, rfl, rfl, rfl, rfl, rfl, rfl⟩) (unhide HG)
      have HM5 := hide (M5.ext (M' := fun i => if i = j then mk5 m qq else M i) (fun i _ => by by_cases e : i = j <;> simp [e, unhide HJ0]))
      have HB5 := hide ((((((unhide hbl).setCell (p := ⟨g, j * 13, none⟩) (by show min lo w.heap.size ≤ g; omega) (.int .i64 qq)).setCell (p := ⟨g, j * 13 + 1, none⟩) (by show min lo w.heap.size ≤ g; omega) (.int .i64 (qq + 1))).setCell (p := ⟨g, j * 13 + 2, none⟩) (by show min lo w.heap.size ≤ g; omega) (.int .i64 (qq + 1 + 1))).setCell (p := ⟨g, j * 13 + 3, none⟩) (by show min lo w.heap.size ≤ g; omega) (.int .i64 (qq + 1 + 1 + 1))).setCell (p := ⟨g, j * 13 + 4, none⟩) (by show min lo w.heap.size ≤ g; omega) (.int .i64 (qq + 1 + 1 + 1 + 1)))
      have HZ5 : Hid (w.heap.size ≤ (((((wr.setCell ⟨g, j * 13, none⟩ (.int .i64 qq)).setCell ⟨g, j * 13 + 1, none⟩ (.int .i64 (qq + 1))).setCell ⟨g, j * 13 + 2, none⟩ (.int .i64 (qq + 1 + 1))).setCell ⟨g, j * 13 + 3, none⟩ (.int .i64 (qq + 1 + 1 + 1))).setCell ⟨g, j * 13 + 4, none⟩ (.int .i64 (qq + 1 + 1 + 1 + 1))).heap.size) := hide (by simpa [World.setCell] using unhide hsz)
      have HO5 : Hid (∀ k, k < w.heap.size → (k < lo ∨ hi ≤ k) → (((((wr.setCell ⟨g, j * 13, none⟩ (.int .i64 qq)).setCell ⟨g, j * 13 + 1, none⟩ (.int .i64 (qq + 1))).setCell ⟨g, j * 13 + 2, none⟩ (.int .i64 (qq + 1 + 1))).setCell ⟨g, j * 13 + 3, none⟩ (.int .i64 (qq + 1 + 1 + 1))).setCell ⟨g, j * 13 + 4, none⟩ (.int .i64 (qq + 1 + 1 + 1 + 1))).heap[k]? = w.heap[k]?) := hide (fun k hk h => by
        have hne : k ≠ g := by omega
        exact (Below.heap_setCell _ _ _ _ hne).trans ((Below.heap_setCell _ _ _ _ hne).trans ((Below.heap_setCell _ _ _ _ hne).trans ((Below.heap_setCell _ _ _ _ hne).trans ((Below.heap_setCell _ _ _ _ hne).trans (unhide hot k hk h))))))
      clear hrow hth M1 M2 M3 M4 M5 hmk hbl hsz hot
      go_upto_region 14 with fail
      clear x0 x1 x2 x3 x4 y0 y1 y2 y3 y4
      generalize ((((wr.setCell ⟨g, j * 13, none⟩ (.int .i64 qq)).setCell ⟨g, j * 13 + 1, none⟩ (.int .i64 (qq + 1))).setCell ⟨g, j * 13 + 2, none⟩ (.int .i64 (qq + 1 + 1))).setCell ⟨g, j * 13 + 3, none⟩ (.int .i64 (qq + 1 + 1 + 1))).setCell ⟨g, j * 13 + 4, none⟩ (.int .i64 (qq + 1 + 1 + 1 + 1)) = v0 at *
      obtain ⟨r0, hr0⟩ : ∃ r, qq + 1 + 1 + 1 + 1 + 1 = r := ⟨_, rfl⟩
      rw [hr0]
      obtain ⟨r1, hr1⟩ : ∃ r, r0 + 6 * (m.ls.length : Int) = r := ⟨_, rfl⟩
      obtain ⟨r2, hr2⟩ : ∃ r, r1 + 3 * (m.tw.length : Int) = r := ⟨_, rfl⟩
      obtain ⟨r3, hr3⟩ : ∃ r, r2 + 3 * (m.se.length : Int) = r := ⟨_, rfl⟩
      obtain ⟨r4, hr4⟩ : ∃ r, r3 + 3 * (m.du.length : Int) = r := ⟨_, rfl⟩
      obtain ⟨r5, hr5⟩ : ∃ r, r4 + 3 * (m.ss.length : Int) = r := ⟨_, rfl⟩
      obtain ⟨r6, hr6⟩ : ∃ r, r5 + 3 * (m.es.length : Int) = r := ⟨_, rfl⟩
      obtain ⟨r7, hr7⟩ : ∃ r, r6 + 2 * (m.la.length : Int) = r := ⟨_, rfl⟩
      have HMM : Hid (mkM m qq = mkR m qq r0 r1 r2 r3 r4 r5 r6 r7) := hide (by unfold mkM; subst hr7; subst hr6; subst hr5; subst hr4; subst hr3; subst hr2; subst hr1; subst hr0; rfl)
      have HEN : Hid (r7 + 1 = qq + mkK m) := hide (by have := rA_end m qq; subst hr7; subst hr6; subst hr5; subst hr4; subst hr3; subst hr2; subst hr1; subst hr0; exact this)
      obtain ⟨s1, s2, s3, s4, s5, s6, s7⟩ := unhide HSJ
      have C1 := hide (fun lo hi W h => Lk.markF p.a1 p.c1 lo hi r0 m.ls W (by omega) (by omega) (by omega) h)
      rw [hr1] at C1
      have C2 := hide (fun lo hi W h => Tu.markF p.a2 p.c2 lo hi r1 m.tw W (by omega) (by omega) (by omega) h)
      rw [hr2] at C2
      have C3 := hide (fun lo hi W h => Tu.markF p.a3 p.c3 lo hi r2 m.se W (by omega) (by omega) (by omega) h)
      rw [hr3] at C3
      have C4 := hide (fun lo hi W h => Tu.markF p.a4 p.c4 lo hi r3 m.du W (by omega) (by omega) (by omega) h)
      rw [hr4] at C4
      have C5 := hide (fun lo hi W h => So.markF p.a5 p.c5 lo hi r4 m.ss W (by omega) (by omega) (by omega) h)
      rw [hr5] at C5
      have C6 := hide (fun lo hi W h => Tu.markF p.a6 p.c6 lo hi r5 m.es W (by omega) (by omega) (by omega) h)
      rw [hr6] at C6
      have C7 := hide (fun lo hi W h => Ed.markF p.a7 p.c7 lo hi r6 m.la W (by omega) (by omega) (by omega) h)
      rw [hr7] at C7
      have hr70 : 0 ≤ r7 := by omega
      have hr71 : r7 ≤ 990000000 := by omega
      clear hr0 hr1 hr2 hr3 hr4 hr5 hr6 hr7 s1 s2 s3 s4 s5 s6 s7 HSJ
      have hfl := unhide HFL j hjn
      have hgj := unhide HG j hjn
      have hrow := (unhide HM5).1 j hjn
      have how := (unhide HM5).2.2 j hjn
      simp only [if_true] at hrow how
      rw [unhide HP] at hrow how
      have HCE : Hid (∀ W : World, W.heap[g]? = v0.heap[g]? → (W.cell? ⟨g, j * 13 + 5, none⟩ = some (.slice p.a1 m.ls.length p.c1) ∧ W.cell? ⟨g, j * 13 + 6, none⟩ = some (.slice p.a2 m.tw.length p.c2) ∧ W.cell? ⟨g, j * 13 + 7, none⟩ = some (.slice p.a3 m.se.length p.c3) ∧ W.cell? ⟨g, j * 13 + 8, none⟩ = some (.slice p.a4 m.du.length p.c4) ∧ W.cell? ⟨g, j * 13 + 9, none⟩ = some (.slice p.a5 m.ss.length p.c5) ∧ W.cell? ⟨g, j * 13 + 10, none⟩ = some (.slice p.a6 m.es.length p.c6) ∧ W.cell? ⟨g, j * 13 + 11, none⟩ = some (.slice p.a7 m.la.length p.c7))) := hide (fun W hW => by
        have cb : ∀ q, W.cell? ⟨g, q, none⟩ = v0.cell? ⟨g, q, none⟩ := fun q => World.cell?_of_block (a := ⟨g, q, none⟩) hW
        exact ⟨(cb _).trans (hrow 5 _ rfl), (cb _).trans (hrow 6 _ rfl), (cb _).trans (hrow 7 _ rfl), (cb _).trans (hrow 8 _ rfl), (cb _).trans (hrow 9 _ rfl), (cb _).trans (hrow 10 _ rfl), (cb _).trans (hrow 11 _ rfl)⟩)
      obtain ⟨b0, hb0⟩ : ∃ b, f j = b := ⟨_, rfl⟩
      obtain ⟨b7, hb7⟩ : ∃ b, f (j + 1) = b := ⟨_, rfl⟩
      have HB07 := hide (And.intro hb0 hb7)
      rw [hb0, hb7] at hfl hgj how
      unfold Ow RL at how
      obtain ⟨b1, b2, b3, b4, b5, b6, ⟨o0, o1, o2, o3, o4, o5, o6⟩, u1, u2, u3, u4, u5, u6, u7⟩ := how
      dsimp only [mk5] at u1 u2 u3 u4 u5 u6 u7
      have hv0 := unhide HZ5
      have hz0 : b7 ≤ v0.heap.size := by omega
      have hgv : g < v0.heap.size := Nat.lt_of_lt_of_le hgs hv0
      have HK0 : Hid (Kp v0 v0 b0 b7) := hide ⟨Nat.le_refl _, fun _ _ _ => rfl⟩
      have HE0 : Hid (Below (min b0 v0.heap.size) v0 v0) := hide (Below.refl _ _)
      clear hb0 hb7 hrow
      have U1_0 := hide u1
      have U2_0 := hide u2
      have U3_0 := hide u3
      have U4_0 := hide u4
      have U5_0 := hide u5
      have U6_0 := hide u6
      have U7_0 := hide u7
      clear u1 u2 u3 u4 u5 u6 u7
      obtain ⟨e1, e2, e3, e4, e5, e6, e7⟩ := unhide HCE v0 ((unhide HK0).2 g hgv (by omega))
      go_wp2_with fail
      clear e1 e2 e3 e4 e5 e6 e7
      refine (unhide C1 b0 b1 _ (unhide U1_0)).mono ?_
      rintro e v1 ⟨rfl, hz_, be_, l_, k_⟩
      have hk_ := unhide HK0
      have HK1 : Hid (Kp v0 v1 b0 b7) := hide ⟨Nat.le_trans hk_.1 hz_, fun k hk h => (k_ k (Nat.lt_of_lt_of_le hk hk_.1) (by omega)).trans (hk_.2 k hk h)⟩
      have HE1 : Hid (Below (min b0 v0.heap.size) v0 v1) := hide ((unhide HE0).trans (be_.mono (by have := hk_.1; omega)))
      have U1_1 := hide l_
      have U2_1 := hide ((unhide U2_0).but (p := fun k => k < b0 ∨ b1 ≤ k) hz_ (fun k hk h => k_ k hk h) (fun k h1 h2 => by omega))
      have U3_1 := hide ((unhide U3_0).but (p := fun k => k < b0 ∨ b1 ≤ k) hz_ (fun k hk h => k_ k hk h) (fun k h1 h2 => by omega))
      have U4_1 := hide ((unhide U4_0).but (p := fun k => k < b0 ∨ b1 ≤ k) hz_ (fun k hk h => k_ k hk h) (fun k h1 h2 => by omega))
      have U5_1 := hide ((unhide U5_0).but (p := fun k => k < b0 ∨ b1 ≤ k) hz_ (fun k hk h => k_ k hk h) (fun k h1 h2 => by omega))
      have U6_1 := hide ((unhide U6_0).but (p := fun k => k < b0 ∨ b1 ≤ k) hz_ (fun k hk h => k_ k hk h) (fun k h1 h2 => by omega))
      have U7_1 := hide ((unhide U7_0).but (p := fun k => k < b0 ∨ b1 ≤ k) hz_ (fun k hk h => k_ k hk h) (fun k h1 h2 => by omega))
      clear hz_ be_ l_ k_ hk_ HK0 HE0 U1_0 U2_0 U3_0 U4_0 U5_0 U6_0 U7_0 C1
      obtain ⟨e1, e2, e3, e4, e5, e6, e7⟩ := unhide HCE v1 ((unhide HK1).2 g hgv (by omega))
      go_wp2_with fail
      clear e1 e2 e3 e4 e5 e6 e7
      refine (unhide C2 b1 b2 _ (unhide U2_1)).mono ?_
      rintro e v2 ⟨rfl, hz_, be_, l_, k_⟩
      have hk_ := unhide HK1
      have HK2 : Hid (Kp v0 v2 b0 b7) := hide ⟨Nat.le_trans hk_.1 hz_, fun k hk h => (k_ k (Nat.lt_of_lt_of_le hk hk_.1) (by omega)).trans (hk_.2 k hk h)⟩
      have HE2 : Hid (Below (min b0 v0.heap.size) v0 v2) := hide ((unhide HE1).trans (be_.mono (by have := hk_.1; omega)))
      have U2_2 := hide l_
      have U1_2 := hide ((unhide U1_1).but (p := fun k => k < b1 ∨ b2 ≤ k) hz_ (fun k hk h => k_ k hk h) (fun k h1 h2 => by omega))
      have U3_2 := hide ((unhide U3_1).but (p := fun k => k < b1 ∨ b2 ≤ k) hz_ (fun k hk h => k_ k hk h) (fun k h1 h2 => by omega))
      have U4_2 := hide ((unhide U4_1).but (p := fun k => k < b1 ∨ b2 ≤ k) hz_ (fun k hk h => k_ k hk h) (fun k h1 h2 => by omega))
      have U5_2 := hide ((unhide U5_1).but (p := fun k => k < b1 ∨ b2 ≤ k) hz_ (fun k hk h => k_ k hk h) (fun k h1 h2 => by omega))
      have U6_2 := hide ((unhide U6_1).but (p := fun k => k < b1 ∨ b2 ≤ k) hz_ (fun k hk h => k_ k hk h) (fun k h1 h2 => by omega))
      have U7_2 := hide ((unhide U7_1).but (p := fun k => k < b1 ∨ b2 ≤ k) hz_ (fun k hk h => k_ k hk h) (fun k h1 h2 => by omega))
      clear hz_ be_ l_ k_ hk_ HK1 HE1 U1_1 U2_1 U3_1 U4_1 U5_1 U6_1 U7_1 C2
      obtain ⟨e1, e2, e3, e4, e5, e6, e7⟩ := unhide HCE v2 ((unhide HK2).2 g hgv (by omega))
      go_wp2_with fail
      clear e1 e2 e3 e4 e5 e6 e7
      refine (unhide C3 b2 b3 _ (unhide U3_2)).mono ?_
      rintro e v3 ⟨rfl, hz_, be_, l_, k_⟩
      have hk_ := unhide HK2
      have HK3 : Hid (Kp v0 v3 b0 b7) := hide ⟨Nat.le_trans hk_.1 hz_, fun k hk h => (k_ k (Nat.lt_of_lt_of_le hk hk_.1) (by omega)).trans (hk_.2 k hk h)⟩
      have HE3 : Hid (Below (min b0 v0.heap.size) v0 v3) := hide ((unhide HE2).trans (be_.mono (by have := hk_.1; omega)))
      have U3_3 := hide l_
      have U1_3 := hide ((unhide U1_2).but (p := fun k => k < b2 ∨ b3 ≤ k) hz_ (fun k hk h => k_ k hk h) (fun k h1 h2 => by omega))
      have U2_3 := hide ((unhide U2_2).but (p := fun k => k < b2 ∨ b3 ≤ k) hz_ (fun k hk h => k_ k hk h) (fun k h1 h2 => by omega))
      have U4_3 := hide ((unhide U4_2).but (p := fun k => k < b2 ∨ b3 ≤ k) hz_ (fun k hk h => k_ k hk h) (fun k h1 h2 => by omega))
      have U5_3 := hide ((unhide U5_2).but (p := fun k => k < b2 ∨ b3 ≤ k) hz_ (fun k hk h => k_ k hk h) (fun k h1 h2 => by omega))
      have U6_3 := hide ((unhide U6_2).but (p := fun k => k < b2 ∨ b3 ≤ k) hz_ (fun k hk h => k_ k hk h) (fun k h1 h2 => by omega))
      have U7_3 := hide ((unhide U7_2).but (p := fun k => k < b2 ∨ b3 ≤ k) hz_ (fun k hk h => k_ k hk h) (fun k h1 h2 => by omega))
      clear hz_ be_ l_ k_ hk_ HK2 HE2 U1_2 U2_2 U3_2 U4_2 U5_2 U6_2 U7_2 C3
      obtain ⟨e1, e2, e3, e4, e5, e6, e7⟩ := unhide HCE v3 ((unhide HK3).2 g hgv (by omega))
      go_wp2_with fail
      clear e1 e2 e3 e4 e5 e6 e7
      refine (unhide C4 b3 b4 _ (unhide U4_3)).mono ?_
      rintro e v4 ⟨rfl, hz_, be_, l_, k_⟩
      have hk_ := unhide HK3
      have HK4 : Hid (Kp v0 v4 b0 b7) := hide ⟨Nat.le_trans hk_.1 hz_, fun k hk h => (k_ k (Nat.lt_of_lt_of_le hk hk_.1) (by omega)).trans (hk_.2 k hk h)⟩
      have HE4 : Hid (Below (min b0 v0.heap.size) v0 v4) := hide ((unhide HE3).trans (be_.mono (by have := hk_.1; omega)))
      have U4_4 := hide l_
      have U1_4 := hide ((unhide U1_3).but (p := fun k => k < b3 ∨ b4 ≤ k) hz_ (fun k hk h => k_ k hk h) (fun k h1 h2 => by omega))
      have U2_4 := hide ((unhide U2_3).but (p := fun k => k < b3 ∨ b4 ≤ k) hz_ (fun k hk h => k_ k hk h) (fun k h1 h2 => by omega))
      have U3_4 := hide ((unhide U3_3).but (p := fun k => k < b3 ∨ b4 ≤ k) hz_ (fun k hk h => k_ k hk h) (fun k h1 h2 => by omega))
      have U5_4 := hide ((unhide U5_3).but (p := fun k => k < b3 ∨ b4 ≤ k) hz_ (fun k hk h => k_ k hk h) (fun k h1 h2 => by omega))
      have U6_4 := hide ((unhide U6_3).but (p := fun k => k < b3 ∨ b4 ≤ k) hz_ (fun k hk h => k_ k hk h) (fun k h1 h2 => by omega))
      have U7_4 := hide ((unhide U7_3).but (p := fun k => k < b3 ∨ b4 ≤ k) hz_ (fun k hk h => k_ k hk h) (fun k h1 h2 => by omega))
      clear hz_ be_ l_ k_ hk_ HK3 HE3 U1_3 U2_3 U3_3 U4_3 U5_3 U6_3 U7_3 C4
      obtain ⟨e1, e2, e3, e4, e5, e6, e7⟩ := unhide HCE v4 ((unhide HK4).2 g hgv (by omega))
      go_wp2_with fail
      clear e1 e2 e3 e4 e5 e6 e7
      refine (unhide C5 b4 b5 _ (unhide U5_4)).mono ?_
      rintro e v5 ⟨rfl, hz_, be_, l_, k_⟩
      have hk_ := unhide HK4
      have HK5 : Hid (Kp v0 v5 b0 b7) := hide ⟨Nat.le_trans hk_.1 hz_, fun k hk h => (k_ k (Nat.lt_of_lt_of_le hk hk_.1) (by omega)).trans (hk_.2 k hk h)⟩
      have HE5 : Hid (Below (min b0 v0.heap.size) v0 v5) := hide ((unhide HE4).trans (be_.mono (by have := hk_.1; omega)))
      have U5_5 := hide l_
      have U1_5 := hide ((unhide U1_4).but (p := fun k => k < b4 ∨ b5 ≤ k) hz_ (fun k hk h => k_ k hk h) (fun k h1 h2 => by omega))
      have U2_5 := hide ((unhide U2_4).but (p := fun k => k < b4 ∨ b5 ≤ k) hz_ (fun k hk h => k_ k hk h) (fun k h1 h2 => by omega))
      have U3_5 := hide ((unhide U3_4).but (p := fun k => k < b4 ∨ b5 ≤ k) hz_ (fun k hk h => k_ k hk h) (fun k h1 h2 => by omega))
      have U4_5 := hide ((unhide U4_4).but (p := fun k => k < b4 ∨ b5 ≤ k) hz_ (fun k hk h => k_ k hk h) (fun k h1 h2 => by omega))
      have U6_5 := hide ((unhide U6_4).but (p := fun k => k < b4 ∨ b5 ≤ k) hz_ (fun k hk h => k_ k hk h) (fun k h1 h2 => by omega))
      have U7_5 := hide ((unhide U7_4).but (p := fun k => k < b4 ∨ b5 ≤ k) hz_ (fun k hk h => k_ k hk h) (fun k h1 h2 => by omega))
      clear hz_ be_ l_ k_ hk_ HK4 HE4 U1_4 U2_4 U3_4 U4_4 U5_4 U6_4 U7_4 C5
      obtain ⟨e1, e2, e3, e4, e5, e6, e7⟩ := unhide HCE v5 ((unhide HK5).2 g hgv (by omega))
      go_wp2_with fail
      clear e1 e2 e3 e4 e5 e6 e7
      refine (unhide C6 b5 b6 _ (unhide U6_5)).mono ?_
      rintro e v6 ⟨rfl, hz_, be_, l_, k_⟩
      have hk_ := unhide HK5
      have HK6 : Hid (Kp v0 v6 b0 b7) := hide ⟨Nat.le_trans hk_.1 hz_, fun k hk h => (k_ k (Nat.lt_of_lt_of_le hk hk_.1) (by omega)).trans (hk_.2 k hk h)⟩
      have HE6 : Hid (Below (min b0 v0.heap.size) v0 v6) := hide ((unhide HE5).trans (be_.mono (by have := hk_.1; omega)))
      have U6_6 := hide l_
      have U1_6 := hide ((unhide U1_5).but (p := fun k => k < b5 ∨ b6 ≤ k) hz_ (fun k hk h => k_ k hk h) (fun k h1 h2 => by omega))
      have U2_6 := hide ((unhide U2_5).but (p := fun k => k < b5 ∨ b6 ≤ k) hz_ (fun k hk h => k_ k hk h) (fun k h1 h2 => by omega))
      have U3_6 := hide ((unhide U3_5).but (p := fun k => k < b5 ∨ b6 ≤ k) hz_ (fun k hk h => k_ k hk h) (fun k h1 h2 => by omega))
      have U4_6 := hide ((unhide U4_5).but (p := fun k => k < b5 ∨ b6 ≤ k) hz_ (fun k hk h => k_ k hk h) (fun k h1 h2 => by omega))
      have U5_6 := hide ((unhide U5_5).but (p := fun k => k < b5 ∨ b6 ≤ k) hz_ (fun k hk h => k_ k hk h) (fun k h1 h2 => by omega))
      have U7_6 := hide ((unhide U7_5).but (p := fun k => k < b5 ∨ b6 ≤ k) hz_ (fun k hk h => k_ k hk h) (fun k h1 h2 => by omega))
      clear hz_ be_ l_ k_ hk_ HK5 HE5 U1_5 U2_5 U3_5 U4_5 U5_5 U6_5 U7_5 C6
      obtain ⟨e1, e2, e3, e4, e5, e6, e7⟩ := unhide HCE v6 ((unhide HK6).2 g hgv (by omega))
      go_wp2_with fail
      clear e1 e2 e3 e4 e5 e6 e7
      refine (unhide C7 b6 b7 _ (unhide U7_6)).mono ?_
      rintro e v7 ⟨rfl, hz_, be_, l_, k_⟩
      have hk_ := unhide HK6
      have HK7 : Hid (Kp v0 v7 b0 b7) := hide ⟨Nat.le_trans hk_.1 hz_, fun k hk h => (k_ k (Nat.lt_of_lt_of_le hk hk_.1) (by omega)).trans (hk_.2 k hk h)⟩
      have HE7 : Hid (Below (min b0 v0.heap.size) v0 v7) := hide ((unhide HE6).trans (be_.mono (by have := hk_.1; omega)))
      have U7_7 := hide l_
      have U1_7 := hide ((unhide U1_6).but (p := fun k => k < b6 ∨ b7 ≤ k) hz_ (fun k hk h => k_ k hk h) (fun k h1 h2 => by omega))
      have U2_7 := hide ((unhide U2_6).but (p := fun k => k < b6 ∨ b7 ≤ k) hz_ (fun k hk h => k_ k hk h) (fun k h1 h2 => by omega))
      have U3_7 := hide ((unhide U3_6).but (p := fun k => k < b6 ∨ b7 ≤ k) hz_ (fun k hk h => k_ k hk h) (fun k h1 h2 => by omega))
      have U4_7 := hide ((unhide U4_6).but (p := fun k => k < b6 ∨ b7 ≤ k) hz_ (fun k hk h => k_ k hk h) (fun k h1 h2 => by omega))
      have U5_7 := hide ((unhide U5_6).but (p := fun k => k < b6 ∨ b7 ≤ k) hz_ (fun k hk h => k_ k hk h) (fun k h1 h2 => by omega))
      have U6_7 := hide ((unhide U6_6).but (p := fun k => k < b6 ∨ b7 ≤ k) hz_ (fun k hk h => k_ k hk h) (fun k h1 h2 => by omega))
      clear hz_ be_ l_ k_ hk_ HK6 HE6 U1_6 U2_6 U3_6 U4_6 U5_6 U6_6 U7_6 C7
      have hk7 := unhide HK7
      have how : Ow v7 (f j) (f (j + 1)) { mkR m qq r0 r1 r2 r3 r4 r5 r6 r7 with x6 := m.x6 } (Q j) := by
        rw [(unhide HB07).1, (unhide HB07).2, unhide HP]
        exact ⟨b1, b2, b3, b4, b5, b6, ⟨o0, o1, o2, o3, o4, o5, o6⟩, unhide U1_7, unhide U2_7, unhide U3_7, unhide U4_7, unhide U5_7, unhide U6_7, unhide U7_7⟩
      have hb07 := unhide HB07
      have N7 := (unhide HM5).lists hjn (unhide HF) (unhide HG) hgv hk7.1 (fun k hk h => hk7.2 k hk (by rw [← hb07.1, ← hb07.2]; exact h)) how (by simp only [if_true]; unfold cl mkR mk5; simp only [Lk.marks_len, Tu.marks_len, So.marks_len, Ed.marks_len])
      have HN7 := hide (N7.ext (M' := fun i => if i = j then { mkR m qq r0 r1 r2 r3 r4 r5 r6 r7 with x6 := m.x6 } else M i) (fun i _ => by by_cases e : i = j <;> simp [e]))
      have hg7 : g < v7.heap.size := Nat.lt_of_lt_of_le hgv hk7.1
      have x12 := (unhide HN7).1 j hjn 12 (.int .i64 m.x6) (by simp only [if_true]; rfl)
      have y12 := ((unhide HN7).2.1 (j * 13 + 12) (by omega)).2
      rw [Nat.zero_add] at y12
      have N8 := (unhide HN7).put hjn (show 12 < 13 by omega) (v := .int .i64 r7) (m' := mkR m qq r0 r1 r2 r3 r4 r5 r6 r7) (by simp only [if_true]; rfl) (by simp) (unhide HG)
      have HN8 := hide (N8.ext (M' := mkA ms K (j + 1)) (fun i _ => by
        by_cases e : i = j
        · subst e; simp only [if_true]; rw [unhide HNX, unhide HMM]
        · simp only [if_neg e]; exact unhide HEL i e))
      have HB8 := hide ((((unhide HB5).trans ((unhide HE7).mono (by omega))).setCell (p := ⟨g, j * 13 + 12, none⟩) (by show min lo w.heap.size ≤ g; omega) (.int .i64 r7)))
      have HZ8 : Hid (w.heap.size ≤ (v7.setCell ⟨g, j * 13 + 12, none⟩ (.int .i64 r7)).heap.size) := hide (by have := hk7.1; simp [World.setCell]; omega)
      have HO8 : Hid (∀ k, k < w.heap.size → (k < lo ∨ hi ≤ k) → (v7.setCell ⟨g, j * 13 + 12, none⟩ (.int .i64 r7)).heap[k]? = w.heap[k]?) := hide (fun k hk h => (Below.heap_setCell _ _ _ _ (by show k ≠ g; omega)).trans ((hk7.2 k (by omega) (by omega)).trans (unhide HO5 k hk h)))
      clear N7 N8 HN7 how hk7 hb07 HK7 HE7 HM5 HB5 HZ5 HO5 HMM HNX HEL U1_7 U2_7 U3_7 U4_7 U5_7 U6_7 U7_7
      go_wp2_with fail
      go_roundw
      case rel => exact ⟨j + 1, by omega, by go_num, by have h1 := unhide HEN; have h2 := unhide HQQ; have h3 := unhide HSN; first | (congr 1; omega) | (simp; omega), HZ8, HB8, HN8, HO8⟩
      case measure => simp [intOf]; omega
    · obtain rfl : j = n := by omega
      go_wp2
      go_ret
      exact ⟨rfl, unhide hsz, unhide hbl, (unhide hmk).ext (fun i hi => by unfold mkA; rw [if_pos hi]; try simp), unhide hot⟩
end Nt
end Go.Proofs.YtfooahhdikobeaaGreat
namespace Go.Proofs.YtfooahhdikobeaaGreat
open Go.ChangeShapes Go.WideShapes Go.ChangeAt Go.RowKit
set_option linter.unusedVariables false
attribute [local go_sem ↓] Go.wp_at_zero Go.wp_at_succ
attribute [local go_sem] Go.strOfNums_size ByteArray.size_append
namespace Di
open W1
/-- A number's digits, as a text. -/
def dig (k : Nat) : ByteArray := ⟨(Lib.decDigits k).toArray⟩
theorem dig_one {k : Nat} (h : k < 10) : strOfNums [48 + (k : Int)] = dig k := by
  unfold dig strOfNums; rw [Lib.decDigits_one h]
  have e : (48 + (k : Int)).toNat = 48 + k := by omega
  simp [e]
theorem dig_more {k : Nat} (h : ¬ k < 10) : dig (k / 10) ++ strOfNums [48 + (k : Int) % 10] = dig k := by
  unfold dig strOfNums
  rw [Lib.decDigits.eq_def k, dif_neg h]
  apply ByteArray.ext
  have e : (48 + (k : Int) % 10).toNat = 48 + k % 10 := by omega
  simp [ByteArray.data_append, e]
theorem dig_size8 (k : Nat) (h : k ≤ 99999999) : (dig k).size ≤ 8 := by
  have e : (dig k).size = Lib.nDigits k := by
    show (Lib.decDigits k).toArray.size = _
    simp [Lib.decDigits_length]
  rw [e]
  have h1 : ∀ u, u < 10 → Lib.nDigits u ≤ 1 := fun u hu => by rw [Lib.nDigits_small hu]; omega
  have up : ∀ n N, (∀ u, u < N → Lib.nDigits u ≤ n) → 0 < n → ∀ u, u < N * 10 → Lib.nDigits u ≤ n + 1 := fun n N hn h0 u hu => by
    by_cases c : u < 10
    · have := h1 u c; omega
    · rw [Lib.nDigits_big c]; have := hn (u / 10) (by omega); omega
  exact up 7 _ (up 6 _ (up 5 _ (up 4 _ (up 3 _ (up 2 _ (up 1 _ h1 (by omega)) (by omega)) (by omega)) (by omega)) (by omega)) (by omega)) (by omega) k (by omega)
theorem wrapS {x : Int} (h0 : 0 ≤ x) (h1 : x ≤ 1099511627776) : IntKind.i64.wrap x = x := by
  have e := IntWalk.i64_left x
  rw [e]; unfold wrap64; omega
theorem conv1 (W : World) (g : Nat) (n : Int) (h : W.cell? ⟨g, 0, none⟩ = some (.int .u8 n)) :
    (convert 38 9 (.slice (some ⟨g, 0, none⟩) 1 1)).run Tryz.prog W = .ok (.string (strOfNums [n])) W :=
  run_convert_bytes_arg (P := Tryz.prog) W 38 5 Tryz.underlying38 Tryz.underlying5 g 0 1 1 [n] rfl (fun | 0, _ => h) 9 Tryz.underlying9

end Di
end Go.Proofs.YtfooahhdikobeaaGreat
namespace Go.Proofs.YtfooahhdikobeaaGreat
open Go.ChangeShapes Go.WideShapes Go.ChangeAt Go.RowKit
set_option linter.unusedVariables false
set_option linter.unusedSimpArgs false
attribute [local go_sem ↓] Go.wp_at_zero Go.wp_at_succ
namespace Ss
open W1 Di
def flat (zs : List ByteArray) : List Value := zs.map Value.string
theorem flat_len (zs : List ByteArray) : (flat zs).length = zs.length * 1 := by simp [flat]
theorem flat_append (xs ys : List ByteArray) : flat (xs ++ ys) = flat xs ++ flat ys := by simp [flat]
theorem flat_one_cell {zs : List ByteArray} {u : Value} (h : u ∈ flat zs) : u.oneCell' = true := by
  obtain ⟨z, _, rfl⟩ := List.mem_map.1 h; rfl
theorem flat_get {zs : List ByteArray} {i : Nat} (h : i < zs.length) : (flat zs)[i]? = some (.string (zs.getD i ByteArray.empty)) := by
  unfold flat
  rw [List.getElem?_map, List.getElem?_eq_getElem h, List.getD_eq_getElem?_getD, List.getElem?_eq_getElem h]; rfl
/-- The slice at a reads as these. -/
def RM (w : World) (a : Option Addr) (zs : List ByteArray) : Prop :=
  zs = [] ∨ ∃ g off, a = some ⟨g, off, none⟩ ∧ ∀ i, i < zs.length → w.cell? ⟨g, off + i, none⟩ = some (.string (zs.getD i ByteArray.empty))
theorem RM.below {w w' : World} {a : Option Addr} {zs : List ByteArray} (h : RM w a zs) (hb : Below w.heap.size w w') : RM w' a zs := by
  rcases h with h | ⟨g, off, rfl, hc⟩
  · exact .inl h
  · exact .inr ⟨g, off, rfl, fun i hi => (hb.cell (p := ⟨g, off + i, none⟩) (World.block_lt_of_cell? _ _ (hc i hi))).trans (hc i hi)⟩
theorem RM.at {w : World} {g off : Nat} {zs : List ByteArray} {i : Nat} (h : RM w (some ⟨g, off, none⟩) zs) (hi : i < zs.length) : w.cell? ⟨g, off + i, none⟩ = some (.string (zs.getD i ByteArray.empty)) := by
  rcases h with rfl | ⟨g', off', e, hc⟩
  · simp at hi
  · cases e; exact hc i hi
theorem plain_add (b off k : Nat) : (⟨b, off, none⟩ : Addr).add k = ⟨b, off + k, none⟩ := by unfold Addr.add; split <;> simp_all
theorem RM.cells {w : World} {g off : Nat} {zs : List ByteArray} (h : RM w (some ⟨g, off, none⟩) zs) : ∀ j u, (flat zs)[j]? = some u → w.cell? ((⟨g, off, none⟩ : Addr).add j) = some u := by
  intro j u hj
  have hl : j < zs.length := by have := (List.getElem?_eq_some_iff.1 hj).1; rw [flat_len] at this; omega
  rw [flat_get hl] at hj
  rw [plain_add, ← hj]
  exact h.at hl
/-- The first j stand at the head of block g, whose n cells may be written. -/
def Upto (w : World) (g n j : Nat) (zs : List ByteArray) : Prop :=
  (∀ i, i < j → w.cell? ⟨g, i, none⟩ = some (.string (zs.getD i ByteArray.empty))) ∧ ∀ i, i < n → (w.cell? ⟨g, i, none⟩).isSome = true ∧ w.frozen? ⟨g, i, none⟩ = false
theorem Upto.step {w : World} {g n j : Nat} {zs : List ByteArray} (h : Upto w g n j zs) (hj : j < n) : Upto (w.setCell ⟨g, j, none⟩ (.string (zs.getD j ByteArray.empty))) g n (j + 1) zs := by
  refine ⟨fun i hi => ?_, fun i hi => ⟨?_, by rw [World.frozen?_setCell]; exact (h.2 i hi).2⟩⟩
  · by_cases e : i = j
    · subst e
      obtain ⟨v, hv⟩ := Option.isSome_iff_exists.1 (h.2 i hj).1
      rw [World.cell?_setCell_same _ _ _ hv]
    · rw [World.cell?_setCell_other _ _ _ _ (by intro e'; cases e'; exact e rfl)]
      exact h.1 i (by omega)
  · obtain ⟨v, hv⟩ := Option.isSome_iff_exists.1 (h.2 i hi).1
    obtain ⟨v', hv'⟩ := cell?_setCell_some (p := ⟨g, j, none⟩) (x := .string (zs.getD j ByteArray.empty)) hv
    rw [hv']; rfl
theorem Upto.below {w w' : World} {g n j : Nat} {zs : List ByteArray} (h : Upto w g n j zs) (hb : Below w.heap.size w w') (hg : g < w.heap.size) : Upto w' g n j zs :=
  ⟨fun i hi => (hb.cell (p := ⟨g, i, none⟩) hg).trans (h.1 i hi), fun i hi => ⟨by rw [hb.cell (p := ⟨g, i, none⟩) hg]; exact (h.2 i hi).1, by rw [hb.frozen (p := ⟨g, i, none⟩) hg]; exact (h.2 i hi).2⟩⟩
theorem Upto.of_block {w w' : World} {g n j : Nat} {zs : List ByteArray} (h : Upto w g n j zs) (hb : w'.heap[g]? = w.heap[g]?) : Upto w' g n j zs := by
  have c : ∀ q, w'.cell? ⟨g, q, none⟩ = w.cell? ⟨g, q, none⟩ := fun q => World.cell?_of_block (a := ⟨g, q, none⟩) hb
  have f : ∀ q, w'.frozen? ⟨g, q, none⟩ = w.frozen? ⟨g, q, none⟩ := fun q => World.frozen?_of_block (a := ⟨g, q, none⟩) hb
  exact ⟨fun i hi => (c _).trans (h.1 i hi), fun i hi => ⟨by rw [c]; exact (h.2 i hi).1, by rw [f]; exact (h.2 i hi).2⟩⟩
theorem rm_of {w : World} {g n : Nat} {zs : List ByteArray} (h : Upto w g n zs.length zs) : RM w (some ⟨g, 0, none⟩) zs := .inr ⟨g, 0, rfl, fun i hi => by rw [Nat.zero_add]; exact h.1 i hi⟩
/-- A list between two bounds of the heap, in memory that may be written. -/
def Lst (W : World) (a : Option Addr) (zs : List ByteArray) (lo hi : Nat) : Prop := zs = [] ∨ ∃ g, a = some ⟨g, 0, none⟩ ∧ lo ≤ g ∧ g < hi ∧ g < W.heap.size ∧ Upto W g zs.length zs.length zs
theorem Lst.rm {W : World} {a : Option Addr} {zs : List ByteArray} {lo hi : Nat} (h : Lst W a zs lo hi) : RM W a zs := by
  rcases h with rfl | ⟨g, rfl, _, _, _, hu⟩
  · exact .inl rfl
  · exact rm_of hu
theorem Lst.below {W W' : World} {a : Option Addr} {zs : List ByteArray} {lo hi : Nat} (h : Lst W a zs lo hi) (hb : Below W.heap.size W W') : Lst W' a zs lo hi := by
  rcases h with rfl | ⟨g, rfl, h1, h2, h3, hu⟩
  · exact .inl rfl
  · exact .inr ⟨g, rfl, h1, h2, Nat.lt_of_lt_of_le h3 hb.size, hu.below hb h3⟩
theorem Lst.mono {W : World} {a : Option Addr} {zs : List ByteArray} {lo hi lo' hi' : Nat} (h : Lst W a zs lo hi) (h1 : lo' ≤ lo) (h2 : hi ≤ hi') : Lst W a zs lo' hi' := by
  rcases h with rfl | ⟨g, rfl, h3, h4, h5, hu⟩
  · exact .inl rfl
  · exact .inr ⟨g, rfl, by omega, by omega, h5, hu⟩
theorem Lst.but {W W' : World} {a : Option Addr} {zs : List ByteArray} {lo hi : Nat} {p : Nat → Prop} (h : Lst W a zs lo hi) (hs : W.heap.size ≤ W'.heap.size) (hb : ∀ k, k < W.heap.size → p k → W'.heap[k]? = W.heap[k]?) (hp : ∀ k, lo ≤ k → k < hi → p k) : Lst W' a zs lo hi := by
  rcases h with rfl | ⟨g, rfl, h1, h2, h3, hu⟩
  · exact .inl rfl
  · exact .inr ⟨g, rfl, h1, h2, Nat.lt_of_lt_of_le h3 hs, hu.of_block (hb g h3 (hp g h1 h2))⟩
def LstV (W : World) (v : Value) (zs : List ByteArray) (lo hi : Nat) : Prop := ∃ a c, v = .slice a zs.length c ∧ Lst W a zs lo hi
theorem LstV.below {W W' : World} {v : Value} {zs : List ByteArray} {lo hi : Nat} (h : LstV W v zs lo hi) (hb : Below W.heap.size W W') : LstV W' v zs lo hi := by
  obtain ⟨a, c, e, hl⟩ := h; exact ⟨a, c, e, hl.below hb⟩
theorem LstV.mono {W : World} {v : Value} {zs : List ByteArray} {lo hi lo' hi' : Nat} (h : LstV W v zs lo hi) (h1 : lo' ≤ lo) (h2 : hi ≤ hi') : LstV W v zs lo' hi' := by
  obtain ⟨a, c, e, hl⟩ := h; exact ⟨a, c, e, hl.mono h1 h2⟩
theorem lstV_nil (W : World) (a : Option Addr) (c lo hi : Nat) : LstV W (.slice a 0 c) [] lo hi := ⟨a, c, rfl, .inl rfl⟩
theorem upto_own {w : World} {base g cap n : Nat} {zs : List ByteArray} (hn : n = zs.length) (h : w.ownsRow base 9 1 (.slice (some ⟨g, 0, none⟩) n cap) n (flat zs)) : Upto w g n n zs := by
  subst hn
  refine ⟨fun i hi => ?_, fun i hi => ?_⟩
  · have := h.cells (g := g) rfl i _ (flat_get hi)
    rw [plain_add, Nat.zero_add] at this
    exact this
  · obtain ⟨_, ⟨e, _⟩ | ⟨g', cap', cur, e, _, hg, h1, _, h3, _⟩⟩ := h
    · cases e
    · cases e
      have hlt : i < cur.size := by rw [h3]; omega
      exact ⟨by simp [World.cell?, hg, hlt], by simp [World.frozen?, hg]⟩
theorem lst_own {w : World} {base n : Nat} {v : Value} {zs : List ByteArray} (hn : n = zs.length) (h : w.ownsRow base 9 1 v n (flat zs)) : LstV w v zs base w.heap.size := by
  unfold LstV
  have h' := h
  obtain ⟨hl, ⟨rfl, h0⟩ | ⟨g, cap, cur, rfl, hb, hg, _, _, _, _⟩⟩ := h
  · exact ⟨none, 0, by rw [← hn, h0], .inl (List.eq_nil_of_length_eq_zero (by omega))⟩
  · have hlt : g < w.heap.size := by
      rcases Nat.lt_or_ge g w.heap.size with h | h
      · exact h
      · rw [Array.getElem?_eq_none h] at hg; cases hg
    refine ⟨_, cap, by rw [hn], .inr ⟨g, rfl, hb, hlt, hlt, ?_⟩⟩
    have := upto_own hn h'
    rw [hn] at this; exact this
theorem infoI : ∃ i, Tryz.prog.info? 9 = some i ∧ i.zero = some (.string ByteArray.empty) ∧ i.size = 1 ∧ i.bytes = 16 := by
  have h : (Tryz.prog.info? 9).map (fun i => (i.zero, i.size, i.bytes)) = some (some (.string ByteArray.empty), 1, 16) := by kernel_rfl
  obtain ⟨i, hi, he⟩ := Option.map_eq_some_iff.1 h
  simp only [Prod.mk.injEq] at he
  exact ⟨i, hi, he.1, he.2.1, he.2.2⟩
theorem rm_new (w : World) (z : ByteArray) : RM (w.alloc (.cells #[.string z] 9)) (some ⟨w.heap.size, 0, none⟩) [z] := by
  refine .inr ⟨_, _, rfl, fun i hi => ?_⟩
  obtain rfl : i = 0 := by simp at hi; omega
  simp [World.cell?_alloc_new]
theorem own_empty (w : World) (base : Nat) (hb : base ≤ w.heap.size) : (w.alloc (.cells #[] 9)).ownsRow base 9 1 (.slice (some ⟨w.heap.size, 0, none⟩) 0 0) ([] : List ByteArray).length (flat []) := World.ownsRow_made w #[] 0 hb (Nat.zero_le _) (by simp)
theorem own_nil (w : World) (base : Nat) : w.ownsRow base 9 1 (.slice none 0 0) ([] : List ByteArray).length (flat []) := World.ownsRow_nil w base _ _
theorem below_own {B : Nat} {w0 w w' : World} {base : Nat} {v : Value} {n : Nat} {xs : List Value} (h : Below B w0 w) (ho : w.ownsRow base 9 1 v n xs) (hg : w.grownBy w' v.ownBlock) (hb : B ≤ base) (hB : B ≤ w.heap.size) : Below B w0 w' :=
  h.grown hg hB (fun k hk => Nat.le_trans hb (ho.lt k hk).1)
/-- A mark's text. -/
def mtx (k : Nat) : ByteArray := ⟨#[109]⟩ ++ dig k
set_option maxRecDepth 100000 in
set_option maxHeartbeats 2000000 in
theorem markText (k : Nat) (h1 : 1 ≤ k) (h8 : k ≤ 99999999) (w : World) :
    Calls Tryz.prog 102 #[.int .i64 (k : Int)] w fun e w' => e = .returned (.string (mtx k)) ∧ Below w.heap.size w w' := by
  have hk0 : ¬ ((k : Int) ≤ 0) := by omega
  have hsz := dig_size8 k h8
  have HD : Hid (mtx k = ⟨#[109]⟩ ++ dig k) := hide rfl
  have H0 : Hid (dig k ++ (⟨#[]⟩ : ByteArray) = dig k) := hide (by apply ByteArray.ext; simp [ByteArray.data_append])
  generalize hdk : dig k = dk at *
  have HDK := hide hdk
  clear hdk
  go_enter Tryz.func102, Tryz.ntmps102
  go_wp2_with fail
  go_loopw [0, 3] (fun q o wr => ∃ (t : Nat) (u : ByteArray), q = .int .i64 (t : Int) ∧ o = .string u ∧ t ≤ k ∧ u.size ≤ 8 ∧ Hid (t = 0 → u = dk) ∧ Hid (1 ≤ t → dig t ++ u = dk) ∧ Hid (Below w.heap.size w wr)) (fun q _ _ => (intOf q).toNat)
  case atStart => exact ⟨k, ⟨#[]⟩, rfl, rfl, Nat.le_refl _, by decide, hide (fun h => by omega), hide (fun _ => by rw [unhide HDK]; have := unhide H0; exact this), hide (Below.refl _ _)⟩
  case round =>
    obtain ⟨t, u, rfl, rfl, htk, hu8, hz, hp, hbl⟩ := hrel
    by_cases h0 : 1 ≤ t
    · have hpos : (0 : Int) < (t : Int) := by omega
      have htm : (t : Int).tmod 10 = (t : Int) % 10 := Int.tmod_eq_emod_of_nonneg (by omega)
      have htd : (t : Int).tdiv 10 = (t : Int) / 10 := Int.tdiv_eq_ediv_of_nonneg (by omega)
      have hw1 : IntKind.i64.wrap ((t : Int) / 10) = (t : Int) / 10 := wrapS (by omega) (by omega)
      have hw2 : IntKind.i64.wrap (48 + (t : Int) % 10) = 48 + (t : Int) % 10 := wrapS (by omega) (by omega)
      have hw3 : IntKind.u8.wrap (48 + (t : Int) % 10) = 48 + (t : Int) % 10 := by rw [IntKind.wrap_u8]; omega
      have hc := conv1 (wr.alloc (Obj.cells #[Value.int IntKind.u8 (48 + (t : Int) % 10)] 5)) wr.heap.size (48 + (t : Int) % 10) (by simp [go_sem])
      have hnb : ∀ n : Int, ¬ (9223372036854775807 < (strOfNums [n]).size + u.size) := fun n => by rw [strOfNums_size]; simp; omega
      have hpp := unhide hp h0
      have HN : Hid ((t / 10 = 0 → strOfNums [48 + (t : Int) % 10] ++ u = dk) ∧ (1 ≤ t / 10 → dig (t / 10) ++ (strOfNums [48 + (t : Int) % 10] ++ u) = dk)) := hide (by
        constructor
        · intro hl
          have ht : t < 10 := by omega
          rw [← hpp, ← dig_one ht, show (48 + (t : Int) % 10) = 48 + (t : Int) by omega]
        · intro hl
          rw [← hpp, ← dig_more (k := t) (by omega)]
          apply ByteArray.ext
          simp [ByteArray.data_append, Array.append_assoc])
      have hsz2 : (strOfNums [48 + (t : Int) % 10] ++ u).size ≤ 8 := by
        have hs : (strOfNums [48 + (t : Int) % 10] ++ u).size ≤ dk.size := by
          by_cases hl : t / 10 = 0
          · rw [(unhide HN).1 hl]; exact Nat.le_refl _
          · rw [← (unhide HN).2 (by omega), ByteArray.size_append (a := dig (t / 10))]; omega
        omega
      have HB := hide ((unhide hbl).alloc (unhide hbl).size (.cells #[.int .u8 (48 + (t : Int) % 10)] 5))
      have hq10 : ((t / 10 : Nat) : Int) = (t : Int) / 10 := by omega
      clear hpp hp hz
      go_wp2_with fail
      generalize strOfNums [48 + (t : Int) % 10] ++ u = u' at *
      go_roundw
      case rel => exact ⟨t / 10, u', by first | rw [hq10] | (rw [hq10]; rfl) | simp, rfl, by omega, hsz2, hide (unhide HN).1, hide (unhide HN).2, HB⟩
      case measure => simp [intOf]; omega
    · obtain rfl : t = 0 := by omega
      have e : u = dk := unhide hz rfl
      subst e
      have hnb : ¬ (9223372036854775807 < (⟨#[109]⟩ : ByteArray).size + u.size) := by
        have : (⟨#[109]⟩ : ByteArray).size = 1 := rfl
        omega
      go_wp2_with fail
      go_ret
      exact ⟨by rw [unhide HD]; first | rfl | simp, unhide hbl⟩
/-- The marks from K on. -/
def marks (K : Int) (n : Nat) : List ByteArray := (List.range n).map fun t : Nat => mtx (K + 1 * (t : Int)).toNat
theorem marks_len (K : Int) (n : Nat) : (marks K n).length = n := by simp [marks]
theorem marks_at (K : Int) (n t : Nat) (h : t < n) : (marks K n).getD t ByteArray.empty = mtx (K + 1 * (t : Int)).toNat := by
  unfold marks
  rw [List.getD_eq_getElem?_getD, List.getElem?_map, List.getElem?_range h]; rfl
theorem grown_set {w w1 : World} {g o : Nat} {v : Value} (h : w.grownBy w1 (some g)) : w.grownBy (w1.setCell ⟨g, o, none⟩ v) (some g) :=
  ⟨h.os, h.tape, h.output, by have := h.size; simp [World.setCell]; exact this, fun k hk hne => (Below.heap_setCell _ _ _ _ (fun e => hne (by rw [e]))).trans (h.block k hk hne)⟩
end Ss
end Go.Proofs.YtfooahhdikobeaaGreat
namespace Go.Proofs.YtfooahhdikobeaaGreat
open Go.ChangeShapes Go.WideShapes Go.ChangeAt Go.RowKit
set_option linter.unusedVariables false
set_option linter.unusedSimpArgs false
set_option maxRecDepth 100000
attribute [local go_sem ↓] Go.wp_at_zero Go.wp_at_succ
namespace Fm
open W1
def mkF (K : Int) : R := ⟨K, K + 1, K + 1 + 1, Ss.mtx (K + 1 + 1 + 1).toNat⟩
def mksF (K : Int) (n : Nat) : List R := (List.range n).map fun t : Nat => mkF (K + 4 * (t : Int))
theorem mksF_len (K : Int) (n : Nat) : (mksF K n).length = n := by simp [mksF]
theorem mksF_at (K : Int) (n t : Nat) (h : t < n) : (mksF K n).getD t R.zero = mkF (K + 4 * (t : Int)) := by
  unfold mksF
  rw [List.getD_eq_getElem?_getD, List.getElem?_map, List.getElem?_range h]; rfl
theorem gset {w w1 : World} {g o : Nat} {v : Value} (h : w.grownBy w1 (some g)) : w.grownBy (w1.setCell ⟨g, o, none⟩ v) (some g) :=
  ⟨h.os, h.tape, h.output, by have := h.size; simp [World.setCell]; exact this, fun k hk hne => (Below.heap_setCell _ _ _ _ (fun e => hne (by rw [e]))).trans (h.block k hk hne)⟩
theorem gbel {w w1 w2 : World} {g : Nat} (h : w.grownBy w1 (some g)) (hb : Below w1.heap.size w1 w2) : w.grownBy w2 (some g) :=
  ⟨hb.os.trans h.os, hb.tape.trans h.tape, hb.output.trans h.output, Nat.le_trans h.size hb.size, fun k hk hne => (hb.block k (Nat.lt_of_lt_of_le hk h.size)).trans (h.block k hk hne)⟩
theorem Upto.far {w : World} {g n j o : Nat} {ms : List R} (h : Upto w g n j ms) (ho : j * 4 ≤ o) (v : Value) : Upto (w.setCell ⟨g, o, none⟩ v) g n j ms := by
  have e : ∀ q, q ≠ o → (w.setCell ⟨g, o, none⟩ v).cell? ⟨g, q, none⟩ = w.cell? ⟨g, q, none⟩ := fun q hq => World.cell?_setCell_other _ _ _ _ (by intro h; cases h; exact hq rfl)
  refine ⟨fun i hi => ?_, fun i hi => ⟨?_, by rw [World.frozen?_setCell]; exact (h.2 i hi).2⟩⟩
  · obtain ⟨h0, h1, h2, h3⟩ := h.1 i hi
    exact ⟨(e _ (by omega)).trans h0, (e _ (by omega)).trans h1, (e _ (by omega)).trans h2, (e _ (by omega)).trans h3⟩
  · obtain ⟨u, hu⟩ := Option.isSome_iff_exists.1 (h.2 i hi).1
    obtain ⟨u', hu'⟩ := cell?_setCell_some (p := ⟨g, o, none⟩) (x := v) hu
    rw [hu']; rfl
theorem Upto.close {w : World} {g n j : Nat} {ms : List R} (h : Upto w g n j ms) (ha : At w g (j * 4) (ms.getD j R.zero)) : Upto w g n (j + 1) ms := by
  refine ⟨fun i hi => ?_, h.2⟩
  by_cases e : i = j
  · subst e; exact ha
  · exact h.1 i (by omega)
/-- The first j frames and three numbers of the next one. -/
def Up3 (w : World) (g n j : Nat) (x y z : Int) (ms : List R) : Prop := Upto w g n j ms ∧ w.cell? ⟨g, j * 4, none⟩ = some (.int .i64 x) ∧ w.cell? ⟨g, j * 4 + 1, none⟩ = some (.int .i64 y) ∧ w.cell? ⟨g, j * 4 + 2, none⟩ = some (.int .i64 z)
theorem Up3.of {w : World} {g n j : Nat} {ms : List R} (h : Upto w g n j ms) (hj : j < n) (x y z : Int) : Up3 (((w.setCell ⟨g, j * 4, none⟩ (.int .i64 x)).setCell ⟨g, j * 4 + 1, none⟩ (.int .i64 y)).setCell ⟨g, j * 4 + 2, none⟩ (.int .i64 z)) g n j x y z ms := by
  obtain ⟨v0, h0⟩ := Option.isSome_iff_exists.1 (h.2 (j * 4) (by omega)).1
  obtain ⟨v1, h1⟩ := Option.isSome_iff_exists.1 (h.2 (j * 4 + 1) (by omega)).1
  obtain ⟨v2, h2⟩ := Option.isSome_iff_exists.1 (h.2 (j * 4 + 2) (by omega)).1
  have n : ∀ {w : World} {v : Value} {a b : Nat}, a ≠ b → (w.setCell ⟨g, a, none⟩ v).cell? ⟨g, b, none⟩ = w.cell? ⟨g, b, none⟩ := fun {w v a b} e => World.cell?_setCell_other _ _ _ _ (by intro h; cases h; exact e rfl)
  refine ⟨((h.far (by omega) _).far (by omega) _).far (by omega) _, ?_, ?_, ?_⟩
  · rw [n (by omega), n (by omega), World.cell?_setCell_same _ _ _ h0]
  · rw [n (by omega), World.cell?_setCell_same _ _ _ ((n (by omega)).trans h1)]
  · rw [World.cell?_setCell_same _ _ _ ((n (by omega)).trans ((n (by omega)).trans h2))]
theorem Up3.below {w w' : World} {g n j : Nat} {x y z : Int} {ms : List R} (h : Up3 w g n j x y z ms) (hb : Below w.heap.size w w') (hg : g < w.heap.size) : Up3 w' g n j x y z ms :=
  ⟨h.1.below hb hg, (hb.cell (p := ⟨g, j * 4, none⟩) hg).trans h.2.1, (hb.cell (p := ⟨g, j * 4 + 1, none⟩) hg).trans h.2.2.1, (hb.cell (p := ⟨g, j * 4 + 2, none⟩) hg).trans h.2.2.2⟩
theorem Up3.put {w : World} {g n j : Nat} {x y z : Int} {bs : ByteArray} {ms : List R} (h : Up3 w g n j x y z ms) (hj : j < n) (e : ms.getD j R.zero = ⟨x, y, z, bs⟩) : Upto (w.setCell ⟨g, j * 4 + 3, none⟩ (.string bs)) g n (j + 1) ms := by
  obtain ⟨v3, h3⟩ := Option.isSome_iff_exists.1 (h.1.2 (j * 4 + 3) (by omega)).1
  have n : ∀ {w : World} {v : Value} {a b : Nat}, a ≠ b → (w.setCell ⟨g, a, none⟩ v).cell? ⟨g, b, none⟩ = w.cell? ⟨g, b, none⟩ := fun {w v a b} e => World.cell?_setCell_other _ _ _ _ (by intro h; cases h; exact e rfl)
  refine (h.1.far (by omega) _).close ?_
  rw [e]
  exact ⟨(n (by omega)).trans h.2.1, (n (by omega)).trans h.2.2.1, (n (by omega)).trans h.2.2.2, World.cell?_setCell_same _ _ _ h3⟩
set_option maxHeartbeats 8000000 in
theorem mkFS (g n c : Nat) (K : Int) (ms : List R) (w : World) (hK : 0 ≤ K) (hK1 : K + 4 * n ≤ 99999990) (hn : n ≤ 1048576) (hg : g < w.heap.size) (hU : Upto w g n n ms) :
    Calls Tryz.prog 57 #[.slice (some ⟨g, 0, none⟩) n c, .int .i64 K] w fun e w' => e = .returned (.int .i64 (K + 4 * (n : Int))) ∧ w.grownBy w' (some g) ∧ Upto w' g n n (mksF K n) := by
  have hU0 : Hid (Upto w g n 0 (mksF K n)) := hide ⟨fun i hi => by omega, hU.2⟩
  clear hU
  go_enter Tryz.func57, Tryz.ntmps57
  go_wp2
  go_loopw [1, 5] (fun q i wr => ∃ j : Nat, j ≤ n ∧ i = .int .i64 j ∧ q = .int .i64 (K + 4 * (j : Int)) ∧ Hid (w.grownBy wr (some g)) ∧ Hid (Upto wr g n j (mksF K n))) (fun _ i _ => n - (intOf i).toNat)
  case atStart => exact ⟨0, by omega, rfl, by simp, hide ⟨rfl, rfl, rfl, Nat.le_refl _, fun _ _ _ => rfl⟩, hU0⟩
  case round =>
    obtain ⟨j, hj, rfl, rfl, hgr, hu⟩ := hrel
    by_cases hlt : (j : Int) < (n : Int)
    · have k0 : (0 : Int) ≤ (j : Int) := by omega
      have hma := mksF_at K n j (by omega)
      obtain ⟨q, hq⟩ : ∃ q, K + 4 * (j : Int) = q := ⟨_, rfl⟩
      rw [hq] at hma ⊢
      obtain ⟨t, ht⟩ : ∃ t : Nat, q + 1 + 1 + 1 = (t : Int) := ⟨(q + 1 + 1 + 1).toNat, by omega⟩
      unfold mkF at hma
      rw [ht, Int.toNat_natCast] at hma
      have HMA := hide hma
      have hgs : g < wr.heap.size := Nat.lt_of_lt_of_le hg (unhide hgr).size
      have HQ := hide hq
      have HT := hide ht
      have hq0 : 0 ≤ q := by omega
      have hq1 : q ≤ 99999990 := by omega
      have ht1 : 1 ≤ t := by omega
      have ht8 : t ≤ 99999999 := by omega
      obtain ⟨v0, x0⟩ := Option.isSome_iff_exists.1 ((unhide hu).2 (j * 4) (by omega)).1
      obtain ⟨v1, x1⟩ := Option.isSome_iff_exists.1 ((unhide hu).2 (j * 4 + 1) (by omega)).1
      obtain ⟨v2, x2⟩ := Option.isSome_iff_exists.1 ((unhide hu).2 (j * 4 + 2) (by omega)).1
      have y0 := ((unhide hu).2 (j * 4) (by omega)).2
      have y1 := ((unhide hu).2 (j * 4 + 1) (by omega)).2
      have y2 := ((unhide hu).2 (j * 4 + 2) (by omega)).2
      have HU3 := hide (Up3.of (unhide hu) (show j < n by omega) q (q + 1) (q + 1 + 1))
      have HG3 := hide (gset (o := j * 4 + 2) (v := .int .i64 (q + 1 + 1)) (gset (o := j * 4 + 1) (v := .int .i64 (q + 1)) (gset (o := j * 4) (v := .int .i64 q) (unhide hgr))))
      have HS3 := hide (show g < (((wr.setCell ⟨g, j * 4, none⟩ (.int .i64 q)).setCell ⟨g, j * 4 + 1, none⟩ (.int .i64 (q + 1))).setCell ⟨g, j * 4 + 2, none⟩ (.int .i64 (q + 1 + 1))).heap.size by simpa [World.setCell] using hgs)
      clear hq hma hgs hu hgr
      go_wp2_with fail
      clear x0 x1 x2 y0 y1 y2
      try rw [unhide HT]
      generalize ((wr.setCell ⟨g, j * 4, none⟩ (.int .i64 q)).setCell ⟨g, j * 4 + 1, none⟩ (.int .i64 (q + 1))).setCell ⟨g, j * 4 + 2, none⟩ (.int .i64 (q + 1 + 1)) = w3 at *
      refine (Ss.markText t ht1 ht8 _).mono ?_
      rintro e w4 ⟨rfl, b4⟩
      have HU4 := hide ((unhide HU3).below b4 (unhide HS3))
      have HG4 := hide (gbel (unhide HG3) b4)
      clear b4 HU3 HG3
      obtain ⟨v3, x3⟩ := Option.isSome_iff_exists.1 ((unhide HU4).1.2 (j * 4 + 3) (by omega)).1
      have y3 := ((unhide HU4).1.2 (j * 4 + 3) (by omega)).2
      have HST := hide ((unhide HU4).put (by omega) (unhide HMA))
      have HGN := hide (gset (o := j * 4 + 3) (v := .string (Ss.mtx t)) (unhide HG4))
      clear HU4 HG4 HMA
      generalize Ss.mtx t = mt at *
      clear ht
      go_wp2_with fail
      exact ⟨⟨j + 1, by omega, by go_num, by have h1 := unhide HT; have h2 := unhide HQ; first | (congr 1; omega) | (simp; omega), HGN, HST⟩, by simp [intOf]; omega⟩
    · obtain rfl : j = n := by omega
      go_wp2
      go_ret
      exact ⟨rfl, unhide hgr, unhide hu⟩
theorem mkFS0 (a : Option Addr) (c : Nat) (K : Int) (w : World) :
    Calls Tryz.prog 57 #[.slice a 0 c, .int .i64 K] w fun e w' => e = .returned (.int .i64 K) ∧ w' = w := by
  go_enter Tryz.func57, Tryz.ntmps57
  go_wp2
  go_loop [1, 5] (fun q i => q = .int .i64 K ∧ i = .int .i64 0) (fun _ i => 0)
  case atStart => exact ⟨rfl, rfl⟩
  case round =>
    obtain ⟨rfl, rfl⟩ := hrel
    go_wp2
    go_ret
    exact ⟨rfl, rfl⟩
/-- Marks on a list that may be written, whether it has any or not. -/
theorem mkFF (a : Option Addr) (c lo hi : Nat) (K : Int) (ms : List R) (w : World) (hK : 0 ≤ K) (hK1 : K + 4 * ms.length ≤ 99999990) (hn : ms.length ≤ 1048576) (h : Lst w a ms lo hi) :
    Calls Tryz.prog 57 #[.slice a ms.length c, .int .i64 K] w fun e w' => e = .returned (.int .i64 (K + 4 * (ms.length : Int))) ∧ w.heap.size ≤ w'.heap.size ∧ Below (min lo w.heap.size) w w' ∧ Lst w' a (mksF K ms.length) lo hi ∧ ∀ k, k < w.heap.size → (k < lo ∨ hi ≤ k) → w'.heap[k]? = w.heap[k]? := by
  have hnil : ∀ w', w' = w → w.heap.size ≤ w'.heap.size ∧ Below (min lo w.heap.size) w w' ∧ ∀ k, k < w.heap.size → (k < lo ∨ hi ≤ k) → w'.heap[k]? = w.heap[k]? := by
    rintro w' rfl
    exact ⟨Nat.le_refl _, Below.refl _ _, fun _ _ _ => rfl⟩
  by_cases h0 : ms.length = 0
  · obtain rfl : ms = [] := List.eq_nil_of_length_eq_zero h0
    refine (mkFS0 a c K w).mono ?_
    rintro e w' ⟨rfl, hw⟩
    obtain ⟨q1, q2, q3⟩ := hnil w' hw
    exact ⟨by simp, q1, q2, .inl rfl, q3⟩
  rcases h with rfl | ⟨g, rfl, h1, h2, h3, hu⟩
  · simp at h0
  refine (mkFS g ms.length c K ms w hK hK1 hn h3 hu).mono ?_
  rintro e w' ⟨rfl, gr, hu'⟩
  exact ⟨rfl, gr.size, ⟨gr.os, gr.tape, gr.output, gr.size, fun k hk => gr.block k (by omega) (fun e => by cases e; omega)⟩, .inr ⟨g, rfl, h1, h2, Nat.lt_of_lt_of_le h3 gr.size, by rw [mksF_len]; exact hu'⟩, fun k hk hne => gr.block k hk (fun e => by cases e; omega)⟩
end Fm
end Go.Proofs.YtfooahhdikobeaaGreat
namespace Go.Proofs.YtfooahhdikobeaaGreat
open Go.ChangeShapes Go.WideShapes Go.ChangeAt Go.RowKit
set_option linter.unusedVariables false
set_option linter.unusedSimpArgs false
set_option maxRecDepth 100000
attribute [local go_sem ↓] Go.wp_at_zero Go.wp_at_succ
namespace Nt
open W1 Rt
/-- Routers that may be written, whether there are any or not. -/
def NL (W : World) (a : Option Addr) (lo hi n : Nat) (f : Nat → Nat) (M : Nat → Rm) (Q : Nat → Pl) : Prop := n = 0 ∨ ∃ g, a = some ⟨g, 0, none⟩ ∧ lo ≤ g ∧ g < hi ∧ g < W.heap.size ∧ (∀ i, i < n → g < f i ∨ f (i + 1) ≤ g) ∧ (∀ i, i < n → f i ≤ f (i + 1)) ∧ (∀ i, i < n → lo ≤ f i ∧ f (i + 1) ≤ hi ∧ f (i + 1) ≤ W.heap.size) ∧ MkS W g n f M Q
theorem MkS.but {w w' : World} {g n lo hi L H : Nat} {f : Nat → Nat} {M : Nat → Rm} {Q : Nat → Pl} (h : MkS w g n f M Q) (hs : w.heap.size ≤ w'.heap.size) (hgs : g < w.heap.size) (hg : lo ≤ g ∧ g < hi) (hfl : ∀ i, i < n → lo ≤ f i ∧ f (i + 1) ≤ hi) (hb : ∀ k, k < w.heap.size → (k < L ∨ H ≤ k) → w'.heap[k]? = w.heap[k]?) (hd : hi ≤ L ∨ H ≤ lo) : MkS w' g n f M Q := by
  have e : w'.heap[g]? = w.heap[g]? := hb g hgs (by omega)
  have cb : ∀ q, w'.cell? ⟨g, q, none⟩ = w.cell? ⟨g, q, none⟩ := fun q => World.cell?_of_block (a := ⟨g, q, none⟩) e
  have fb : ∀ q, w'.frozen? ⟨g, q, none⟩ = w.frozen? ⟨g, q, none⟩ := fun q => World.frozen?_of_block (a := ⟨g, q, none⟩) e
  exact ⟨fun i hi k u hu => (cb _).trans (h.1 i hi k u hu), fun k hk => by rw [cb, fb]; exact h.2.1 k hk, fun i hi => (h.2.2 i hi).but hs hb (by have := hfl i hi; omega)⟩
theorem NL.but {w w' : World} {a : Option Addr} {lo hi n L H : Nat} {f : Nat → Nat} {M : Nat → Rm} {Q : Nat → Pl} (h : NL w a lo hi n f M Q) (hs : w.heap.size ≤ w'.heap.size) (hb : ∀ k, k < w.heap.size → (k < L ∨ H ≤ k) → w'.heap[k]? = w.heap[k]?) (hd : hi ≤ L ∨ H ≤ lo) : NL w' a lo hi n f M Q := by
  rcases h with h | ⟨g, rfl, h1, h2, h3, h4, h5, h6, h7⟩
  · exact .inl h
  · exact .inr ⟨g, rfl, h1, h2, Nat.lt_of_lt_of_le h3 hs, h4, h5, fun i hi => ⟨(h6 i hi).1, (h6 i hi).2.1, Nat.le_trans (h6 i hi).2.2 hs⟩, h7.but hs h3 ⟨h1, h2⟩ (fun i hi => ⟨(h6 i hi).1, (h6 i hi).2.1⟩) hb hd⟩
theorem NL.below {w w' : World} {a : Option Addr} {lo hi n : Nat} {f : Nat → Nat} {M : Nat → Rm} {Q : Nat → Pl} (h : NL w a lo hi n f M Q) (hb : Below w.heap.size w w') : NL w' a lo hi n f M Q := by
  rcases h with h | ⟨g, rfl, h1, h2, h3, h4, h5, h6, h7⟩
  · exact .inl h
  · refine .inr ⟨g, rfl, h1, h2, Nat.lt_of_lt_of_le h3 hb.size, h4, h5, fun i hi => ⟨(h6 i hi).1, (h6 i hi).2.1, Nat.le_trans (h6 i hi).2.2 hb.size⟩, ?_⟩
    exact ⟨fun i hi => rng_under (h7.1 i hi) hb h3, there_under h7.2.1 hb h3, fun i hi => (h7.2.2 i hi).below hb⟩
theorem NL.nr {w : World} {a : Option Addr} {lo hi n : Nat} {f : Nat → Nat} {ms : List Rm} {qs : List Pl} (hn : ms.length = n) (h : NL w a lo hi n f (fun i => ms.getD i Rm.zero) (fun i => qs.getD i Pl.zero)) : NR w a ms qs := by
  rcases h with h | ⟨g, rfl, h1, h2, h3, h4, h5, h6, h7⟩
  · exact .inl (List.eq_nil_of_length_eq_zero (by omega))
  · exact .inr ⟨g, 0, rfl, fun i hi => ⟨by rw [Nat.zero_add]; exact h7.1 i (by omega), (h7.2.2 i (by omega)).rd⟩⟩
/-- A net in memory of its own: its rows, its costs, its frames, each in an interval. -/
def MT (W : World) (lo hi : Nat) (a b d : Option Addr) (ms : List Rm) (qs : List Pl) (cs : List Int) (fs : List Fm.R) : Prop :=
  ∃ f p1 q1 p2 q2 p3 q3, (lo ≤ p1 ∧ q1 ≤ hi) ∧ (lo ≤ p2 ∧ q2 ≤ hi) ∧ (lo ≤ p3 ∧ q3 ≤ hi) ∧ (q1 ≤ p2 ∨ q2 ≤ p1) ∧ (q1 ≤ p3 ∨ q3 ≤ p1) ∧ (q2 ≤ p3 ∨ q3 ≤ p2) ∧ NL W a p1 q1 ms.length f (fun i => ms.getD i Rm.zero) (fun i => qs.getD i Pl.zero) ∧ In.Lst W b cs p2 q2 ∧ Fm.Lst W d fs p3 q3
theorem MT.below {W W' : World} {lo hi : Nat} {a b d : Option Addr} {ms : List Rm} {qs : List Pl} {cs : List Int} {fs : List Fm.R} (h : MT W lo hi a b d ms qs cs fs) (hb : Below W.heap.size W W') : MT W' lo hi a b d ms qs cs fs := by
  obtain ⟨f, p1, q1, p2, q2, p3, q3, e1, e2, e3, e4, e5, e6, h1, h2, h3⟩ := h
  exact ⟨f, p1, q1, p2, q2, p3, q3, e1, e2, e3, e4, e5, e6, h1.below hb, h2.below hb, h3.below hb⟩
theorem MT.but {W W' : World} {lo hi L H : Nat} {a b d : Option Addr} {ms : List Rm} {qs : List Pl} {cs : List Int} {fs : List Fm.R} (h : MT W lo hi a b d ms qs cs fs) (hs : W.heap.size ≤ W'.heap.size) (hb : ∀ k, k < W.heap.size → (k < L ∨ H ≤ k) → W'.heap[k]? = W.heap[k]?) (hd : hi ≤ L ∨ H ≤ lo) : MT W' lo hi a b d ms qs cs fs := by
  obtain ⟨f, p1, q1, p2, q2, p3, q3, e1, e2, e3, e4, e5, e6, h1, h2, h3⟩ := h
  exact ⟨f, p1, q1, p2, q2, p3, q3, e1, e2, e3, e4, e5, e6, h1.but hs hb (by omega), h2.but (p := fun k => k < L ∨ H ≤ k) hs (fun k hk h => hb k hk h) (fun k h1 h2 => by omega), h3.but (p := fun k => k < L ∨ H ≤ k) hs (fun k hk h => hb k hk h) (fun k h1 h2 => by omega)⟩
theorem MT.nr {W : World} {lo hi : Nat} {a b d : Option Addr} {ms : List Rm} {qs : List Pl} {cs : List Int} {fs : List Fm.R} (h : MT W lo hi a b d ms qs cs fs) : NR W a ms qs := by
  obtain ⟨f, p1, q1, p2, q2, p3, q3, e1, e2, e3, e4, e5, e6, h1, h2, h3⟩ := h; exact h1.nr rfl
theorem MT.ri {W : World} {lo hi : Nat} {a b d : Option Addr} {ms : List Rm} {qs : List Pl} {cs : List Int} {fs : List Fm.R} (h : MT W lo hi a b d ms qs cs fs) : In.RM W b cs := by
  obtain ⟨f, p1, q1, p2, q2, p3, q3, e1, e2, e3, e4, e5, e6, h1, h2, h3⟩ := h; exact h2.rm
theorem MT.rf {W : World} {lo hi : Nat} {a b d : Option Addr} {ms : List Rm} {qs : List Pl} {cs : List Int} {fs : List Fm.R} (h : MT W lo hi a b d ms qs cs fs) : Fm.RM W d fs := by
  obtain ⟨f, p1, q1, p2, q2, p3, q3, e1, e2, e3, e4, e5, e6, h1, h2, h3⟩ := h; exact h3.rm
theorem OwT.mt {W : World} {lo hi g1 g2 g3 : Nat} {ms : List Rm} {qs : List Pl} {cs : List Int} {fs : List Fm.R} (h : OwT W lo hi g1 g2 g3 ms qs cs fs) : MT W lo hi (some ⟨g1, 0, none⟩) (some ⟨g2, 0, none⟩) (some ⟨g3, 0, none⟩) ms qs cs fs := by
  obtain ⟨p, e1, e2, e3, e4, e5, e6, _, h1, ⟨f, f0, f1, f2, f3⟩, h3, h4⟩ := h
  have up : ∀ i k, i + k ≤ ms.length → f i ≤ f (i + k) := fun i k => by
    induction k with
    | zero => intro _; exact Nat.le_refl _
    | succ k ih => intro hk; exact Nat.le_trans (ih (by omega)) (f1 (i + k) (by omega))
  have fb : ∀ i, i < ms.length → g1 + 1 ≤ f i ∧ f (i + 1) ≤ p := fun i hi => by
    have h0 := up 0 i (by omega)
    have h9 := up (i + 1) (ms.length - (i + 1)) (by omega)
    rw [Nat.zero_add] at h0
    rw [show i + 1 + (ms.length - (i + 1)) = ms.length by omega] at h9
    omega
  refine ⟨f, g1, p, g2, g2 + 1, g3, g3 + 1, by omega, by omega, by omega, by omega, by omega, by omega, ?_, ?_, ?_⟩
  · exact .inr ⟨g1, rfl, Nat.le_refl _, e2, by omega, fun i hi => .inl (by have := fb i hi; omega), f1, fun i hi => by have := fb i hi; omega, h1.1, h1.2, f3⟩
  · exact .inr ⟨g2, rfl, Nat.le_refl _, by omega, by omega, h3⟩
  · exact .inr ⟨g3, rfl, Nat.le_refl _, by omega, by omega, h4⟩
/-- A net's marks from K on. -/
def MM (W : World) (a b d : Option Addr) (K : Int) (ms : List Rm) (qs : List Pl) (cs : List Int) (fs : List Fm.R) (lo hi : Nat) : Prop :=
  ∃ f p1 q1 p2 q2 p3 q3, ((lo ≤ p1 ∧ q1 ≤ hi) ∧ (lo ≤ p2 ∧ q2 ≤ hi) ∧ (lo ≤ p3 ∧ q3 ≤ hi)) ∧ NL W a p1 q1 ms.length f (fun i => mkM (ms.getD i Rm.zero) (K + sumK ms i)) (fun i => qs.getD i Pl.zero) ∧ In.Lst W b (In.marks (K + sumK ms ms.length) cs.length) p2 q2 ∧ Fm.Lst W d (Fm.mksF (K + sumK ms ms.length + cs.length) fs.length) p3 q3
theorem MM.below {W W' : World} {a b d : Option Addr} {K : Int} {ms : List Rm} {qs : List Pl} {cs : List Int} {fs : List Fm.R} {lo hi : Nat} (h : MM W a b d K ms qs cs fs lo hi) (hb : Below W.heap.size W W') : MM W' a b d K ms qs cs fs lo hi := by
  obtain ⟨f, p1, q1, p2, q2, p3, q3, e, h1, h2, h3⟩ := h
  exact ⟨f, p1, q1, p2, q2, p3, q3, e, h1.below hb, h2.below hb, h3.below hb⟩
def totK (ms : List Rm) (cs : List Int) (fs : List Fm.R) : Int := sumK ms ms.length + cs.length + 4 * fs.length
theorem mkK_le (m : Rm) : mkK m ≤ 6 + 6 * cnt m := by unfold mkK cnt; omega
theorem sumK_tot (ms : List Rm) : ∀ j, j ≤ ms.length → sumK ms j ≤ 6 * ((j : Int) + tot (ms.take j))
  | 0, _ => by simp [sumK, tot]
  | j + 1, h => by
    have h1 := sumK_tot ms j (by omega)
    have h2 := mkK_le (ms.getD j Rm.zero)
    have h3 := tot_take (ms := ms) (j := j) (by omega)
    simp only [sumK]
    rw [h3]
    have h4 : ((j + 1 : Nat) : Int) = (j : Int) + 1 := by omega
    rw [h4]
    omega
theorem totK_pos (ms : List Rm) (cs : List Int) (fs : List Fm.R) : 0 ≤ totK ms cs fs := by have := sumK_pos ms ms.length; unfold totK; omega
theorem totK_le {ms : List Rm} {cs : List Int} {fs : List Fm.R} (h : (ms.length : Int) + tot ms + cs.length + fs.length + totF fs ≤ 1048576) : 1 + totK ms cs fs ≤ 99999990 := by
  have h1 := sumK_tot ms ms.length (Nat.le_refl _)
  rw [List.take_length] at h1
  have h2 := totF_nonneg fs
  have h3 := tot_nonneg ms
  unfold totK
  omega
theorem markNS0 (a : Option Addr) (c : Nat) (K : Int) (w : World) :
    Calls Tryz.prog 56 #[.slice a 0 c, .int .i64 K] w fun e w' => e = .returned (.int .i64 K) ∧ w' = w := by
  go_enter Tryz.func56, Tryz.ntmps56
  go_wp2
  go_loop [1, 5] (fun q i => q = .int .i64 K ∧ i = .int .i64 0) (fun _ i => 0)
  case atStart => exact ⟨rfl, rfl⟩
  case round =>
    obtain ⟨rfl, rfl⟩ := hrel
    go_wp2
    go_ret
    exact ⟨rfl, rfl⟩
theorem markNF (a : Option Addr) (c lo hi n : Nat) (f : Nat → Nat) (K : Int) (ms : List Rm) (Q : Nat → Pl) (w : World) (hn : ms.length = n) (hn8 : n ≤ 1048576) (hK : 0 ≤ K) (hK1 : K + sumK ms n ≤ 900000000) (hs : ∀ i, i < ms.length → Sm (ms.getD i Rm.zero)) (h : NL w a lo hi n f (fun i => ms.getD i Rm.zero) Q) :
    Calls Tryz.prog 56 #[.slice a n c, .int .i64 K] w fun e w' => e = .returned (.int .i64 (K + sumK ms n)) ∧ w.heap.size ≤ w'.heap.size ∧ Below (min lo w.heap.size) w w' ∧ NL w' a lo hi n f (fun i => mkM (ms.getD i Rm.zero) (K + sumK ms i)) Q ∧ ∀ k, k < w.heap.size → (k < lo ∨ hi ≤ k) → w'.heap[k]? = w.heap[k]? := by
  by_cases h0 : n = 0
  · subst h0
    refine (markNS0 a c K w).mono ?_
    rintro e w' ⟨rfl, rfl⟩
    exact ⟨by simp [sumK], Nat.le_refl _, Below.refl _ _, .inl rfl, fun _ _ _ => rfl⟩
  rcases h with h | ⟨g, rfl, h1, h2, h3, h4, h5, h6, h7⟩
  · exact absurd h h0
  refine (markNS g n c lo hi f K ms Q w hn hn8 hK hK1 hs h3 h1 h2 h4 h5 h6 h7).mono ?_
  rintro e w' ⟨rfl, hz, hb, hm, hk⟩
  exact ⟨rfl, hz, hb, .inr ⟨g, rfl, h1, h2, Nat.lt_of_lt_of_le h3 hz, h4, h5, fun i hi => ⟨(h6 i hi).1, (h6 i hi).2.1, Nat.le_trans (h6 i hi).2.2 hz⟩, hm⟩, hk⟩
end Nt
end Go.Proofs.YtfooahhdikobeaaGreat
namespace Go.Proofs.YtfooahhdikobeaaGreat
open Go.ChangeShapes Go.WideShapes Go.ChangeAt Go.RowKit
set_option linter.unusedVariables false
set_option linter.unusedSimpArgs false
set_option maxRecDepth 100000
attribute [local go_sem ↓] Go.wp_at_zero Go.wp_at_succ
namespace Tp
open W1 So
theorem take_zero_off {w : World} {g off : Nat} {ms : List R} (h : RM w (some ⟨g, off, none⟩) ms) (n : Nat) : RM w (some ⟨g, off, none⟩) (ms.take n) := by
  have := h.part 0 n
  rw [List.drop_zero, Nat.zero_mul, Nat.add_zero] at this; exact this
theorem drop_off {w : World} {g off : Nat} {ms : List R} (h : RM w (some ⟨g, off, none⟩) ms) (i : Nat) : RM w (some ⟨g, off + i * 3, none⟩) (ms.drop i) := by
  have := h.part i ms.length
  rw [List.take_of_length_le (by simp)] at this; exact this
end Tp
end Go.Proofs.YtfooahhdikobeaaGreat
namespace Go.Proofs.YtfooahhdikobeaaGreat
open Go.ChangeShapes Go.WideShapes Go.ChangeAt Go.RowKit
set_option linter.unusedVariables false
set_option linter.unusedSimpArgs false
set_option maxRecDepth 100000
attribute [local go_sem ↓] Go.wp_at_zero Go.wp_at_succ
namespace Rt
open W1
def CA (w : World) (b : Nat) (cs : List Value) : Prop := w.rangeAt b 0 cs ∧ w.there b 0 14 ∧ cs.length = 14
theorem CA.at {w : World} {b : Nat} {cs : List Value} (h : CA w b cs) {i : Nat} {v : Value} (hi : cs[i]? = some v) : w.cell? ⟨b, i, none⟩ = some v := by
  have := h.1 i v hi; rwa [Nat.zero_add] at this
theorem CA.lt {w : World} {b : Nat} {cs : List Value} (h : CA w b cs) : b < w.heap.size := by
  obtain ⟨u, hu⟩ := Option.isSome_iff_exists.1 (h.2.1 0 (by omega)).1
  exact World.block_lt_of_cell? _ _ hu
theorem CA.free {w : World} {b : Nat} {cs : List Value} (h : CA w b cs) {i : Nat} (hi : i < 14) : w.frozen? ⟨b, i, none⟩ = false := by
  have := (h.2.1 i hi).2; rwa [Nat.zero_add] at this
theorem CA.under {w w' : World} {B b : Nat} {cs : List Value} (h : CA w b cs) (hb : Below B w w') (hg : b < B) : CA w' b cs :=
  ⟨fun j v hv => (hb.cell (p := ⟨b, 0 + j, none⟩) hg).trans (h.1 j v hv), fun j hj => ⟨by rw [hb.cell (p := ⟨b, 0 + j, none⟩) hg]; exact (h.2.1 j hj).1, by rw [hb.frozen (p := ⟨b, 0 + j, none⟩) hg]; exact (h.2.1 j hj).2⟩, h.2.2⟩
theorem CA.below {w w' : World} {b : Nat} {cs : List Value} (h : CA w b cs) (hb : Below w.heap.size w w') : CA w' b cs := h.under hb h.lt
theorem CA.drew {w : World} {b : Nat} {cs : List Value} (h : CA w b cs) : CA w.drew b cs := h
theorem CA.set {w : World} {b : Nat} {cs : List Value} (h : CA w b cs) {k : Nat} (hk : k < 14) (v : Value) : CA (w.setCell ⟨b, k, none⟩ v) b (cs.set k v) := ⟨range_set h.1 (by rw [h.2.2]; exact hk), there_set h.2.1, by rw [List.length_set]; exact h.2.2⟩
theorem CA.other {w : World} {b : Nat} {cs : List Value} (h : CA w b cs) {p : Addr} (hne : b ≠ p.block) (v : Value) : CA (w.setCell p v) b cs := by
  have hb : (w.setCell p v).heap[b]? = w.heap[b]? := Below.heap_setCell _ _ _ _ hne
  refine ⟨fun j u hu => ?_, fun j hj => ⟨?_, ?_⟩, h.2.2⟩
  · exact (World.cell?_of_block (a := ⟨b, 0 + j, none⟩) hb).trans (h.1 j u hu)
  · rw [World.cell?_of_block (a := ⟨b, 0 + j, none⟩) hb]; exact (h.2.1 j hj).1
  · rw [World.frozen?_setCell]; exact (h.2.1 j hj).2
end Rt
end Go.Proofs.YtfooahhdikobeaaGreat
namespace Go.Proofs.YtfooahhdikobeaaGreat
open Go.ChangeShapes Go.WideShapes Go.ChangeAt Go.RowKit
set_option linter.unusedVariables false
set_option linter.unusedSimpArgs false
set_option maxRecDepth 100000
attribute [local go_sem ↓] Go.wp_at_zero Go.wp_at_succ
namespace Rt
open W1
end Rt
end Go.Proofs.YtfooahhdikobeaaGreat
namespace Go.Proofs.YtfooahhdikobeaaGreat
open Go.ChangeShapes Go.WideShapes Go.ChangeAt Go.RowKit
set_option linter.unusedVariables false
set_option linter.unusedSimpArgs false
set_option maxRecDepth 100000
attribute [local go_sem ↓] Go.wp_at_zero Go.wp_at_succ
namespace Nt
open W1 Rt
/-- A router whose lists a copy takes. -/
def okL (m : Rm) : Prop := m.ls.length ≤ 4096 ∧ m.tw.length ≤ 4096 ∧ m.se.length ≤ 4096 ∧ m.du.length ≤ 4096 ∧ m.ss.length ≤ 4096 ∧ m.es.length ≤ 4096 ∧ m.la.length ≤ 4096
/-- The cells of routers, each with where its lists lie. -/
def fl (xs : List (Rm × Pl)) : List Value := xs.flatMap fun x => cl x.1 x.2
def zP : Rm × Pl := (Rm.zero, Pl.zero)
theorem fl_len (xs : List (Rm × Pl)) : (fl xs).length = xs.length * 13 := by
  unfold fl
  induction xs with
  | nil => rfl
  | cons m t ih => rw [List.flatMap_cons, List.length_append, ih, cl_len, List.length_cons]; omega
theorem fl_get : ∀ (xs : List (Rm × Pl)) (i j : Nat), j < 13 → i < xs.length → (fl xs)[i * 13 + j]? = (cl (xs.getD i zP).1 (xs.getD i zP).2)[j]?
  | [], i, j, hj, hi => by simp at hi
  | m :: t, 0, j, hj, hi => by
    unfold fl
    rw [List.flatMap_cons, Nat.zero_mul, Nat.zero_add, List.getElem?_append_left (by rw [cl_len]; exact hj)]; rfl
  | m :: t, i + 1, j, hj, hi => by
    have ih := fl_get t i j hj (by simpa using hi)
    unfold fl at ih ⊢
    rw [List.flatMap_cons, show (i + 1) * 13 + j = (cl m.1 m.2).length + (i * 13 + j) by rw [cl_len]; omega, List.getElem?_append_right (by omega), Nat.add_sub_cancel_left, ih]; rfl
/-- Routers that stand in a row, cell by cell. -/
def Rws (w : World) (g off : Nat) (xs : List (Rm × Pl)) : Prop := ∀ i, i < xs.length → w.rangeAt g (off + i * 13) (cl (xs.getD i zP).1 (xs.getD i zP).2)
theorem padd (b off k : Nat) : (⟨b, off, none⟩ : Addr).add k = ⟨b, off + k, none⟩ := by unfold Addr.add; split <;> simp_all
theorem Rws.cells {w : World} {g off : Nat} {xs : List (Rm × Pl)} (h : Rws w g off xs) : ∀ j u, (fl xs)[j]? = some u → w.cell? ((⟨g, off, none⟩ : Addr).add j) = some u := by
  intro j u hj
  have hl : j < xs.length * 13 := by rw [← fl_len]; exact (List.getElem?_eq_some_iff.1 hj).1
  have hi : j / 13 < xs.length := by omega
  have e : j / 13 * 13 + j % 13 = j := by omega
  rw [← e, fl_get xs _ _ (by omega) hi] at hj
  have := h _ hi _ _ hj
  rw [padd, show off + j = off + j / 13 * 13 + j % 13 by omega]; exact this
theorem NR.form {w : World} {a : Option Addr} {ms : List Rm} {ps : List Pl} (h : NR w a ms ps) (h0 : 0 < ms.length) : ∃ g off, a = some ⟨g, off, none⟩ := by
  obtain ⟨g, off, e, _⟩ := h.at h0; exact ⟨g, off, e⟩
end Nt
end Go.Proofs.YtfooahhdikobeaaGreat
namespace Go.Proofs.YtfooahhdikobeaaGreat
open Go.ChangeShapes Go.WideShapes Go.ChangeAt Go.RowKit
set_option linter.unusedVariables false
set_option linter.unusedSimpArgs false
set_option maxRecDepth 100000
attribute [local go_sem ↓] Go.wp_at_zero Go.wp_at_succ
namespace Nt
open W1 Rt
end Nt
end Go.Proofs.YtfooahhdikobeaaGreat
namespace Go.Proofs.YtfooahhdikobeaaGreat
open Go.ChangeShapes Go.WideShapes Go.ChangeAt Go.RowKit
set_option linter.unusedVariables false
set_option linter.unusedSimpArgs false
set_option maxRecDepth 100000
attribute [local go_sem ↓] Go.wp_at_zero Go.wp_at_succ
namespace Nt
open W1 Rt
theorem wp_apLI {o : Oper} {a : Act} {K : Act → World → Prop} {Q : Exit → Act → World → Prop} {w : World} {base : Nat} {v : Value} {xs : List Int} (hown : w.ownsRow base 3 1 v xs.length (In.flat xs)) (g off m c : Nat) (zs : List Int) (hm : zs.length = m) (hm0 : 0 < m) (hr : In.RM w (some ⟨g, off, none⟩) zs) (hlen : xs.length + zs.length ≤ 4194304) (hbase : base ≤ w.heap.size)
    (s x : Operand) (ho : o.op = .call { callee := .builtin .append, args := #[s, x], argTypes := #[23, 23] }) (hs : a.eval s = v) (hx : a.eval x = .slice (some ⟨g, off, none⟩) m c)
    (h : ∀ g' cap w', w'.ownsRow base 3 1 (.slice (some ⟨g', 0, none⟩) (xs.length + m) cap) (xs ++ zs).length (In.flat (xs ++ zs)) → w.grownBy w' v.ownBlock → (v.ownBlock = some g' ∨ g' = w.heap.size) → g' < w'.heap.size → K (a.put o.dst (.slice (some ⟨g', 0, none⟩) (xs.length + m) cap)) w') : o.wp Tryz.prog a w K Q := by
  subst hm
  obtain ⟨i0, hi, hz0, hz1, hz2⟩ := In.infoI
  refine wp_append_lies w s x _ ho base 3 i0 _ 1 8 Tryz.underlying23 hi hz0 hz1 hz2 rfl (by decide) v xs.length (In.flat xs) hs hown ⟨g, off, none⟩ zs.length c (In.flat zs) hx (In.flat_len zs) hr.cells (fun u hu => In.flat_one_cell hu) hm0 (by unfold maxLen; omega) (by omega) hbase _ rfl (fun g' cap w' h1 h2 h3 h4 => ?_)
  refine h g' cap w' ?_ h2 h3 h4
  rw [List.length_append, In.flat_append]; exact h1
theorem gb_bel {w w' : World} {r : Option Nat} (h : Below w.heap.size w w') : w.grownBy w' r := ⟨h.os, h.tape, h.output, h.size, fun k hk _ => h.block k hk⟩
theorem bel_gb {B : Nat} {w0 w w' : World} {r : Option Nat} (h : Below B w0 w) (hg : w.grownBy w' r) (hr : ∀ k, r = some k → B ≤ k) (hB : B ≤ w.heap.size) : Below B w0 w' := h.grown hg hB hr
theorem ownN_bel' {w w' : World} {base e k : Nat} {v : Value} {n : Nat} {xs : List Value} (h : w.ownsRow base e k v n xs) (hb : Below w.heap.size w w') : w'.ownsRow base e k v n xs := own_bel h hb
theorem _root_.Go.World.grownBy.bel {w w' w2 : World} {r : Option Nat} (h : w.grownBy w' r) (hb : Below w'.heap.size w' w2) : w.grownBy w2 r := ⟨hb.os.trans h.os, hb.tape.trans h.tape, hb.output.trans h.output, Nat.le_trans h.size hb.size, fun k hk hn => (hb.block k (Nat.lt_of_lt_of_le hk h.size)).trans (h.block k hk hn)⟩
set_option maxHeartbeats 32000000 in
theorem walkOn (a b d : Option Addr) (ca cb cd n : Nat) (t : Int) (ms : List Rm) (ps : List Pl) (cs : List Int) (fs : List Fm.R) (y : Int) (w0 : World) (hn : ms.length = n) (h6 : n ≤ 6) (hrt : ∀ i, i < n → okM (ms.getD i Rm.zero) = true) (hs : ∀ i, i < n → Sm (ms.getD i Rm.zero)) (hr : NR w0 a ms ps) : ∀ (f : Nat) (l : List Int) (j : Nat) (v : Value) (at_ : Int) (w : World), l.length = j + 1 → j + f = n → l.getD j 0 = at_ → 1 ≤ at_ → at_ ≤ (n : Int) → Below w0.heap.size w0 w → w.ownsRow w0.heap.size 3 1 v l.length (In.flat l) →
    Calls Tryz.prog 80 #[.agg #[.slice a n ca, .slice b cs.length cb, .slice d fs.length cd, .int .i64 t], v, .int .i64 y] w fun e w' => ∃ v', e = .returned (.tuple #[v', .int .i64 (wk (okW ms y) (nxW ms y) y f at_ l).2]) ∧ w.grownBy w' v.ownBlock ∧ In.LstV w' v' (wk (okW ms y) (nxW ms y) y f at_ l).1 w0.heap.size w'.heap.size := by
  have HR := hide hr
  have HN := hide hn
  have HRT := hide hrt
  have HS := hide hs
  clear hr hn hrt hs
  intro f
  induction f with
  | zero =>
    intro l j v at_ w hl hjf hat ha1 han hb how
    have how2 := how
    obtain ⟨_, ⟨_, e⟩ | ⟨g, c, cur, rfl, hbg, hgc, _⟩⟩ := how2
    · omega
    clear hgc
    have b0 := bel_new w (.cells #[.slice a n ca, .slice b cs.length cb, .slice d fs.length cd, .int .i64 t] 31)
    have HX0 := hide (nb_new w (.slice a n ca) (.slice b cs.length cb) (.slice d fs.length cd) t 31)
    have hgl : g < w.heap.size := (how.lt g rfl).2
    have HC0 : Hid ((w.alloc (.cells #[.slice a n ca, .slice b cs.length cb, .slice d fs.length cd, .int .i64 t] 31)).cell? ⟨g, j, none⟩ = some (.int .i64 at_)) := hide (by
      rw [b0.cell (p := ⟨g, j, none⟩) hgl]
      obtain ⟨a', c', e, L⟩ := In.lst_own rfl how
      cases e
      rcases L.rm with e0 | ⟨g', off', e, hc⟩
      · rw [e0] at hl; simp at hl
      · cases e
        have := hc j (by omega)
        rw [Nat.zero_add, hat] at this; exact this)
    have HOW0 := hide (ownN_bel' how b0)
    have HGB0 := hide (gb_bel (r := some g) b0)
    have hl1 : (l.length : Int) - 1 = (j : Int) := by omega
    have hl2 : (j : Int) < (l.length : Int) := by omega
    have hl3 : (0 : Int) ≤ (j : Int) := by omega
    have HB0 := hide (hb.trans (b0.mono hb.size))
    have HL := hide hl
    have HOW := hide how
    clear hat how hb
    by_cases hay : at_ = y
    · subst hay
      rw [wk_here]
      have hq : (at_ == at_) = true := by simp
      have HLV := hide (In.lst_own rfl (unhide HOW0))
      clear hl b0
      obtain ⟨p0, p1, p2, p3⟩ := unhide HX0
      have c0 := unhide HC0
      go_enter Tryz.func80, Tryz.ntmps80
      go_wp2_with fail
      (try rw [Exit.noGoto_ret])
      go_ret2
      exact ⟨_, rfl, unhide HGB0, unhide HLV⟩
    have hq : (at_ == y) = false := by simpa using hay
    rw [wk_end hay]
    have hgt : (n : Int) < (l.length : Int) := by omega
    have HLV := hide (In.lst_own rfl (unhide HOW0))
    clear hl b0
    obtain ⟨p0, p1, p2, p3⟩ := unhide HX0
    have c0 := unhide HC0
    go_enter Tryz.func80, Tryz.ntmps80
    go_wp2_with fail
    (try rw [Exit.noGoto_ret])
    go_ret2
    exact ⟨_, rfl, unhide HGB0, unhide HLV⟩
  | succ f ih =>
    intro l j v at_ w hl hjf hat ha1 han hb how
    have how2 := how
    obtain ⟨_, ⟨_, e⟩ | ⟨g, c, cur, rfl, hbg, hgc, _⟩⟩ := how2
    · omega
    clear hgc
    have b0 := bel_new w (.cells #[.slice a n ca, .slice b cs.length cb, .slice d fs.length cd, .int .i64 t] 31)
    have HX0 := hide (nb_new w (.slice a n ca) (.slice b cs.length cb) (.slice d fs.length cd) t 31)
    have hgl : g < w.heap.size := (how.lt g rfl).2
    have HC0 : Hid ((w.alloc (.cells #[.slice a n ca, .slice b cs.length cb, .slice d fs.length cd, .int .i64 t] 31)).cell? ⟨g, j, none⟩ = some (.int .i64 at_)) := hide (by
      rw [b0.cell (p := ⟨g, j, none⟩) hgl]
      obtain ⟨a', c', e, L⟩ := In.lst_own rfl how
      cases e
      rcases L.rm with e0 | ⟨g', off', e, hc⟩
      · rw [e0] at hl; simp at hl
      · cases e
        have := hc j (by omega)
        rw [Nat.zero_add, hat] at this; exact this)
    have HOW0 := hide (ownN_bel' how b0)
    have HGB0 := hide (gb_bel (r := some g) b0)
    have hl1 : (l.length : Int) - 1 = (j : Int) := by omega
    have hl2 : (j : Int) < (l.length : Int) := by omega
    have hl3 : (0 : Int) ≤ (j : Int) := by omega
    have HB0 := hide (hb.trans (b0.mono hb.size))
    have HL := hide hl
    have HOW := hide how
    clear hat how hb
    by_cases hay : at_ = y
    · subst hay
      rw [wk_here]
      have hq : (at_ == at_) = true := by simp
      have HLV := hide (In.lst_own rfl (unhide HOW0))
      clear hl b0
      obtain ⟨p0, p1, p2, p3⟩ := unhide HX0
      have c0 := unhide HC0
      go_enter Tryz.func80, Tryz.ntmps80
      go_wp2_with fail
      (try rw [Exit.noGoto_ret])
      go_ret2
      exact ⟨_, rfl, unhide HGB0, unhide HLV⟩
    have hq : (at_ == y) = false := by simpa using hay
    have IH := hide ih
    have hgt : ¬ (n : Int) < (l.length : Int) := by omega
    obtain ⟨pp, hpp⟩ : ∃ pp : Nat, at_ - 1 = (pp : Int) := ⟨(at_ - 1).toNat, by omega⟩
    have hpn : pp < n := by omega
    have hpt : (at_ - 1).toNat = pp := by omega
    have n0 : (0 : Int) ≤ (pp : Int) := by omega
    have n1 : (pp : Int) < (n : Int) := by omega
    have n2 : (pp : Int) ≤ 36 := by omega
    obtain ⟨ga, off, ea, hA, hD⟩ := ((unhide HR).below (unhide HB0)).at (i := pp) (by rw [unhide HN]; exact hpn)
    have hokm := unhide HRT pp hpn
    have hsm := unhide HS pp hpn
    have HNX : Hid (nxW ms y at_ = (Rw.fT (hasR (ms.getD pp Rm.zero)) y).nx) := hide (by unfold nxW; rw [hpt])
    have HKW : Hid (okW ms y at_ = (Rw.hasT (hasR (ms.getD pp Rm.zero)) y && inB (nxW ms y at_) 1 n)) := hide (by unfold okW; rw [hpt, unhide HN])
    subst ea
    have HA := hide hA
    have HD := hide hD
    clear hA hD ih hl b0 hpt
    generalize hmj : ms.getD pp Rm.zero = m at HA HD hokm hsm HNX HKW
    clear hmj
    generalize hpj : ps.getD pp Pl.zero = p at HA HD
    clear hpj
    have KH : Hid (∀ W, Rd W m p → Calls Tryz.prog 70 #[.agg (cl m p).toArray] W fun e w' => ∃ A c, e = .returned (.tuple #[.slice A (hasR m).length c, .int .i64 0]) ∧ Below W.heap.size W w' ∧ Ro.RM w' A (hasR m)) := hide (fun W h => by
      obtain ⟨h1, h2, h3, h4, h5, h6, h7⟩ := h
      obtain ⟨s1, s2, s3, s4, s5, s6, s7⟩ := hsm
      refine (implRR m.x1 m.x2 m.x3 m.x4 m.x5 m.x6 p.a1 p.a2 p.a3 p.a4 p.a5 p.a6 p.a7 p.c1 p.c2 p.c3 p.c4 p.c5 p.c6 p.c7 m.ls m.tw m.se m.du m.ss m.es m.la W s1 s2 s3 s4 s5 s6 s7 h1 h2 h3 h4 h5 h6 h7).mono ?_
      rintro e w' ⟨v, rfl, bb, lv⟩
      have hok := hokm
      unfold okM at hok
      rw [hok] at lv ⊢
      unfold rrA at lv
      rw [if_pos rfl] at lv
      obtain ⟨av, cv, rfl, lst⟩ := lv
      exact ⟨av, cv, rfl, bb, lst.rm⟩)
    obtain ⟨hc5, ha5⟩ := has_code hokm y
    have HE5 := hide hc5
    have HA5 := hide ha5
    have hR8 : (hasR m).length ≤ 1048576 := by have := Wd.rouL_len (Gr.graph m.x1 m.ls m.es m.x5) m.x1; unfold hasR; omega
    clear hokm hsm hc5 ha5
    generalize hasR m = R at *
    generalize hfR : Rw.fT R y = F at *
    clear hfR
    obtain ⟨z1, z2, z3, z4⟩ := F
    have HNX2 : Hid (nxW ms y at_ = z2) := hide (unhide HNX)
    clear HNX
    generalize hhT : Rw.hasT R y = bt at *
    clear hhT
    cases bt
    · rw [wk_no hay (by rw [unhide HKW]; rfl)]
      obtain ⟨p0, p1, p2, p3⟩ := unhide HX0
      have c0 := unhide HC0
      go_enter Tryz.func80, Tryz.ntmps80
      go_wp2_with (refine loadI _ rfl rfl (unhide HA) rfl ?_)
      clear p0 p1 p2 p3 c0
      refine (unhide KH _ (unhide HD)).mono ?_
      rintro e w1 ⟨A, cR, rfl, b1, hrm⟩
      have HX1 := hide ((unhide HX0).below b1)
      have HOW1 := hide (ownN_bel' (unhide HOW0) b1)
      have HR1 := hide hrm
      have HGB1 := hide ((unhide HGB0).bel b1)
      have HB1 := hide ((unhide HB0).trans (b1.mono (unhide HB0).size))
      have hs1 : w.heap.size < w1.heap.size := Nat.lt_of_lt_of_le (by simp) b1.size
      clear b1 hrm HA HD KH HX0 HOW0 HC0 HGB0 HB0
      go_wp2_with fail
      refine (Rw.implRouteTo A R cR y _ hR8 (unhide HR1)).mono ?_
      rintro e w2 ⟨rfl, b2⟩
      rw [unhide HE5, unhide HA5]
      rw [if_neg (by simp)]
      have HX2 := hide ((unhide HX1).below b2)
      have HOW2 := hide (ownN_bel' (unhide HOW1) b2)
      have HGB2 := hide ((unhide HGB1).bel b2)
      have HB2 := hide ((unhide HB1).trans (b2.mono (unhide HB1).size))
      have hs2 : w.heap.size < w2.heap.size := Nat.lt_of_lt_of_le hs1 b2.size
      clear b2 HX1 HOW1 HR1 HGB1 HB1
      rw [show (Ro.R.mk z1 z2 z3 z4).value = Value.agg #[.int .i64 z1, .int .i64 z2, .int .i64 z3, .int .i64 z4] from rfl]
      have bR := bel_new w2 (.cells #[.int .i64 z1, .int .i64 z2, .int .i64 z3, .int .i64 z4] 87)
      obtain ⟨p0, p1, p2, p3⟩ := (unhide HX2).below bR
      have HLV := hide (In.lst_own rfl (ownN_bel' (unhide HOW2) bR))
      have HGBR := hide ((unhide HGB2).bel bR)
      go_wp2_with fail
      (try rw [Exit.noGoto_ret])
      go_ret2
      exact ⟨_, rfl, unhide HGBR, unhide HLV⟩
    have HKW2 : Hid (okW ms y at_ = inB z2 1 n) := hide (by rw [unhide HKW, unhide HNX2]; rfl)
    clear HKW
    cases hin : inB z2 1 n
    · rw [wk_no hay (by rw [unhide HKW2, hin])]
      have HIN := hide hin
      clear hin
      obtain ⟨p0, p1, p2, p3⟩ := unhide HX0
      have c0 := unhide HC0
      go_enter Tryz.func80, Tryz.ntmps80
      go_wp2_with (refine loadI _ rfl rfl (unhide HA) rfl ?_)
      clear p0 p1 p2 p3 c0
      refine (unhide KH _ (unhide HD)).mono ?_
      rintro e w1 ⟨A, cR, rfl, b1, hrm⟩
      have HX1 := hide ((unhide HX0).below b1)
      have HOW1 := hide (ownN_bel' (unhide HOW0) b1)
      have HR1 := hide hrm
      have HGB1 := hide ((unhide HGB0).bel b1)
      have HB1 := hide ((unhide HB0).trans (b1.mono (unhide HB0).size))
      have hs1 : w.heap.size < w1.heap.size := Nat.lt_of_lt_of_le (by simp) b1.size
      clear b1 hrm HA HD KH HX0 HOW0 HC0 HGB0 HB0
      go_wp2_with fail
      refine (Rw.implRouteTo A R cR y _ hR8 (unhide HR1)).mono ?_
      rintro e w2 ⟨rfl, b2⟩
      rw [unhide HE5, unhide HA5]
      (first | rw [if_pos rfl] | rw [if_pos trivial])
      have HX2 := hide ((unhide HX1).below b2)
      have HOW2 := hide (ownN_bel' (unhide HOW1) b2)
      have HGB2 := hide ((unhide HGB1).bel b2)
      have HB2 := hide ((unhide HB1).trans (b2.mono (unhide HB1).size))
      have hs2 : w.heap.size < w2.heap.size := Nat.lt_of_lt_of_le hs1 b2.size
      clear b2 HX1 HOW1 HR1 HGB1 HB1
      rw [show (Ro.R.mk z1 z2 z3 z4).value = Value.agg #[.int .i64 z1, .int .i64 z2, .int .i64 z3, .int .i64 z4] from rfl]
      have bR := bel_new w2 (.cells #[.int .i64 z1, .int .i64 z2, .int .i64 z3, .int .i64 z4] 87)
      obtain ⟨p0, p1, p2, p3⟩ := (unhide HX2).below bR
      have HLV := hide (In.lst_own rfl (ownN_bel' (unhide HOW2) bR))
      have HGBR := hide ((unhide HGB2).bel bR)
      have HOWR := hide (ownN_bel' (unhide HOW2) bR)
      go_wp2_with fail
      clear p0 p1 p2 p3
      refine (isRouter _ b d n cs.length fs.length ca cb cd t z2 _).mono ?_
      rintro e w3 ⟨rfl, b3⟩
      rw [unhide HIN]
      have HGB3 := hide ((unhide HGBR).bel b3)
      have HLV3 := hide (In.lst_own rfl (ownN_bel' (unhide HOWR) b3))
      clear HLV HGBR b3
      go_wp2_with fail
      (try rw [Exit.noGoto_ret])
      go_ret2
      exact ⟨_, rfl, unhide HGB3, unhide HLV3⟩
    rw [wk_on hay (by rw [unhide HKW2, hin]), unhide HNX2]
    have HIN := hide hin
    have hz12 := inB_out hin
    clear hin
    obtain ⟨p0, p1, p2, p3⟩ := unhide HX0
    have c0 := unhide HC0
    go_enter Tryz.func80, Tryz.ntmps80
    go_wp2_with (refine loadI _ rfl rfl (unhide HA) rfl ?_)
    clear p0 p1 p2 p3 c0
    refine (unhide KH _ (unhide HD)).mono ?_
    rintro e w1 ⟨A, cR, rfl, b1, hrm⟩
    have HX1 := hide ((unhide HX0).below b1)
    have HOW1 := hide (ownN_bel' (unhide HOW0) b1)
    have HR1 := hide hrm
    have HGB1 := hide ((unhide HGB0).bel b1)
    have HB1 := hide ((unhide HB0).trans (b1.mono (unhide HB0).size))
    have hs1 : w.heap.size < w1.heap.size := Nat.lt_of_lt_of_le (by simp) b1.size
    clear b1 hrm HA HD KH HX0 HOW0 HC0 HGB0 HB0
    go_wp2_with fail
    refine (Rw.implRouteTo A R cR y _ hR8 (unhide HR1)).mono ?_
    rintro e w2 ⟨rfl, b2⟩
    rw [unhide HE5, unhide HA5]
    (first | rw [if_pos rfl] | rw [if_pos trivial])
    have HX2 := hide ((unhide HX1).below b2)
    have HOW2 := hide (ownN_bel' (unhide HOW1) b2)
    have HGB2 := hide ((unhide HGB1).bel b2)
    have HB2 := hide ((unhide HB1).trans (b2.mono (unhide HB1).size))
    have hs2 : w.heap.size < w2.heap.size := Nat.lt_of_lt_of_le hs1 b2.size
    clear b2 HX1 HOW1 HR1 HGB1 HB1
    rw [show (Ro.R.mk z1 z2 z3 z4).value = Value.agg #[.int .i64 z1, .int .i64 z2, .int .i64 z3, .int .i64 z4] from rfl]
    have bR := bel_new w2 (.cells #[.int .i64 z1, .int .i64 z2, .int .i64 z3, .int .i64 z4] 87)
    obtain ⟨p0, p1, p2, p3⟩ := (unhide HX2).below bR
    have HLV := hide (In.lst_own rfl (ownN_bel' (unhide HOW2) bR))
    have HGBR := hide ((unhide HGB2).bel bR)
    have HOWR := hide (ownN_bel' (unhide HOW2) bR)
    have HXR := hide ((unhide HX2).below bR)
    have HBR := hide ((unhide HB2).trans (bR.mono (unhide HB2).size))
    have HCR : Hid ((w2.alloc (.cells #[.int .i64 z1, .int .i64 z2, .int .i64 z3, .int .i64 z4] 87)).cell? ⟨w2.heap.size, 1, none⟩ = some (.int .i64 z2)) := hide (by simp [World.cell?_alloc_new])
    have hsR : w2.heap.size < (w2.alloc (.cells #[.int .i64 z1, .int .i64 z2, .int .i64 z3, .int .i64 z4] 87)).heap.size := by simp
    clear HLV HX2 HOW2 HGB2 HB2 bR
    go_wp2_with fail
    clear p0 p1 p2 p3
    refine (isRouter _ b d n cs.length fs.length ca cb cd t z2 _).mono ?_
    rintro e w3 ⟨rfl, b3⟩
    rw [unhide HIN]
    have HGB3 := hide ((unhide HGBR).bel b3)
    have HOW3 := hide (ownN_bel' (unhide HOWR) b3)
    have HX3 := hide ((unhide HXR).below b3)
    have HB3 := hide ((unhide HBR).trans (b3.mono (unhide HBR).size))
    obtain ⟨rb, hrb⟩ : ∃ rb, w2.heap.size = rb := ⟨_, rfl⟩
    have HC3 : Hid (w3.cell? ⟨rb, 1, none⟩ = some (.int .i64 z2)) := hide (by rw [← hrb]; exact (b3.cell (p := ⟨w2.heap.size, 1, none⟩) hsR).trans (unhide HCR))
    have hrb3 : rb < w3.heap.size := by rw [← hrb]; exact Nat.lt_of_lt_of_le hsR b3.size
    rw [hrb] at hs2 ⊢
    clear HGBR HOWR HXR HBR HCR b3 hsR hrb HIN
    go_wp2_with fail
    refine wp_region_noPanic ?_
    refine wp_region_held_drew (S := fun w' => NB w' w.heap.size (.slice (some ⟨ga, off, none⟩) n ca) (.slice b cs.length cb) (.slice d fs.length cd) t ∧ w'.cell? ⟨rb, 1, none⟩ = some (.int .i64 z2)) (by kernel_rfl) (⟨unhide HX3, unhide HC3⟩) (fun hHeld => ?_)
    refine Rg.t (v := .agg #[.slice (some ⟨ga, off, none⟩) n ca, .slice b cs.length cb, .slice d fs.length cd, .int .i64 t]) 0 58 ?_ (hv := fun w0 hSw => execNB _ rfl rfl hSw.1)
    refine Rg.t 1 59 ?_
    refine Rg.t 2 60 ?_
    refine Rg.t 3 61 ?_
    refine Rg.t 6 64 ?_
    (refine Rg.o 4 (fun K hK => ?_); go_simp)
    obtain ⟨W4, hW4⟩ : ∃ V, (w3.alloc (.cells #[.int .i64 z2] 3)).drew = V := ⟨_, rfl⟩
    have b4 : Below w3.heap.size w3 W4 := by rw [← hW4]; exact (bel_new _ _).drew
    have hrm4 : In.RM W4 (some ⟨w3.heap.size, 0, none⟩) [z2] := by rw [← hW4]; exact In.rm_new w3 z2
    have hs4 : w3.heap.size < W4.heap.size := by rw [← hW4]; show w3.heap.size < (w3.alloc (.cells #[.int .i64 z2] 3)).heap.size; simp
    rw [hW4]
    clear hW4
    have HGB4 := hide ((unhide HGB3).bel b4)
    have HOW4 := hide (ownN_bel' (unhide HOW3) b4)
    have HX4 := hide ((unhide HX3).below b4)
    have HB4 := hide ((unhide HB3).trans (b4.mono (unhide HB3).size))
    have HC4 := hide ((b4.cell (p := ⟨rb, 1, none⟩) hrb3).trans (unhide HC3))
    have HRM4 := hide hrm4
    clear HGB3 HOW3 HX3 HB3 HC3 b4 hrm4 hHeld
    refine hK.out _ _ (⟨unhide HX4, unhide HC4⟩) (fun hHeld => ?_)
    clear hK K
    (try simp only [Act.put, List.setIfInBounds_toArray, List.set_cons_zero, List.set_cons_succ])
    (refine Rg.o 5 (fun K hK => ?_); rw [if_pos (by rfl)])
    refine wp_apLI (unhide HOW4) w3.heap.size 0 1 1 [z2] rfl (by omega) (unhide HRM4) (by have := unhide HL; simp only [List.length_cons, List.length_nil]; omega) (by have := (unhide HB4).size; omega) _ _ rfl rfl rfl ?_
    intro g' cap w5 ho5 hg5 hl5 hlt5
    have hbo : ∀ k, some k = (Value.slice (some ⟨g, 0, none⟩) l.length c).ownBlock → k = g := fun k e => by cases e; rfl
    have hx5 : ∀ k, k < W4.heap.size → k ≠ g → w5.heap[k]? = W4.heap[k]? := fun k hk hn => hg5.block k hk (fun e => hn (hbo k e))
    have HX5 := hide ((unhide HX4).but (hx5 _ (by omega) (by omega)))
    have HC5 : Hid (w5.cell? ⟨rb, 1, none⟩ = some (.int .i64 z2)) := hide ((World.cell?_of_block (a := ⟨rb, 1, none⟩) (by exact hx5 rb (by omega) (by omega))).trans (unhide HC4))
    have HB5 := hide (bel_gb (unhide HB4) hg5 (fun k e => by have := hbo k e.symm; omega) (unhide HB4).size)
    have HG5 := hide hg5
    have HO5 := hide ho5
    have hz5 := hg5.size
    clear HX4 HC4 HB4 HOW4 HRM4 ho5 hg5 hx5 hbo hHeld
    refine hK.out _ _ (⟨unhide HX5, unhide HC5⟩) (fun hHeld => ?_)
    clear hK K
    (try simp only [Act.put, List.setIfInBounds_toArray, List.set_cons_zero, List.set_cons_succ])
    (refine Rg.o 7 (fun K hK => ?_); go_simp)
    have KI := unhide IH (l ++ [z2]) (j + 1) (.slice (some ⟨g', 0, none⟩) (l.length + 1) cap) z2 w5 (by rw [List.length_append, unhide HL]; rfl) (by omega) (by rw [List.getD_eq_getElem?_getD, List.getElem?_append_right (by have := unhide HL; omega)]; rw [show j + 1 - l.length = 0 by have := unhide HL; omega]; rfl) hz12.1 hz12.2 (unhide HB5) (unhide HO5)
    refine KI.mono ?_
    clear KI
    rintro e w6 ⟨v', rfl, hg6, lv6⟩
    have hz6 := hg6.size
    have hbo6 : ∀ k, some k = (Value.slice (some ⟨g', 0, none⟩) (l.length + 1) cap).ownBlock → k = g' := fun k e => by cases e; rfl
    have hg' : g' = g ∨ g' = W4.heap.size := by
      rcases hl5 with h | h
      · cases h; exact .inl rfl
      · exact .inr h
    have hx6 : ∀ k, k < w5.heap.size → k ≠ g' → w6.heap[k]? = w5.heap[k]? := fun k hk hn => hg6.block k hk (fun e => hn (hbo6 k e))
    have HX6 := hide ((unhide HX5).but (hx6 _ (by omega) (by omega)))
    have HC6 : Hid (w6.cell? ⟨rb, 1, none⟩ = some (.int .i64 z2)) := hide ((World.cell?_of_block (a := ⟨rb, 1, none⟩) (by exact hx6 rb (by omega) (by omega))).trans (unhide HC5))
    have HGF : Hid (w.grownBy w6 (some g)) := hide (by
      have h4 := unhide HGB4
      have h5 := unhide HG5
      refine ⟨hg6.os.trans (h5.os.trans h4.os), hg6.tape.trans (h5.tape.trans h4.tape), hg6.output.trans (h5.output.trans h4.output), by omega, fun k hk hn => ?_⟩
      have hkg : k ≠ g := fun e => hn (by rw [e])
      exact (hx6 k (by omega) (by omega)).trans ((h5.block k (by omega) (fun e => by cases e; exact hkg rfl)).trans (h4.block k hk hn)))
    have HLF := hide lv6
    clear HX5 HC5 HB5 HG5 HO5 HGB4 hg6 lv6 hbo6 hx6 hHeld
    refine hK.out _ _ (⟨unhide HX6, unhide HC6⟩) (fun hHeld => ?_)
    clear hK K
    (try simp only [Act.put, List.setIfInBounds_toArray, List.set_cons_zero, List.set_cons_succ])
    refine Rg.t 8 66 ?_
    refine Rg.t 9 67 ?_
    refine Rg.t 10 6 ?_
    refine Rg.t 11 7 ?_
    refine wpAnyH_done (by kernel_rfl) (NoPanic.normal ?_) _
    clear hHeld
    go_wp2_with fail
    (try rw [Exit.noGoto_ret])
    go_ret2
    exact ⟨_, rfl, unhide HGF, unhide HLF⟩
end Nt
end Go.Proofs.YtfooahhdikobeaaGreat
