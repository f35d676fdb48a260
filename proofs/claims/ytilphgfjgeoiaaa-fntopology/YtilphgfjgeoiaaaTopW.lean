/-
  The model's contracts of topologies: a copy of one (l09Own), one without a source (l09Without). (written by mktopw.py)
-/
import Derived.Test.YtilphgfjgeoiaaaTopC
import Derived.Test.YtilphgfjgeoiaaaSetG
import Derived.Laws.AppendOwn
namespace Go.Proofs.Ytilphgfjgeoiaaa
open Go.ChangeShapes Go.WideShapes Go.ChangeAt Go.RowKit
set_option linter.unusedVariables false
set_option linter.unusedSimpArgs false
set_option maxRecDepth 100000
attribute [local go_sem ↓] Go.wp_at_zero Go.wp_at_succ
namespace Tp
open W1 Tu St Tw
theorem fm_of {w : World} {base e size n : Nat} {v : Value} {xs : List Value} (h : w.ownsRow base e size v n xs) (hne : v ≠ .slice none 0 0) : ∃ g c, v = .slice (some ⟨g, 0, none⟩) n c ∧ n ≤ c := by
  obtain ⟨_, ⟨rfl, h0⟩ | ⟨g, cap, cur, rfl, _, _, h1, h2, _, _⟩⟩ := h
  · exact absurd rfl hne
  · exact ⟨g, cap, rfl, h1⟩
/-- append onto a row of one's own that lies somewhere: so does the answer. -/
theorem apFSo {ops : Array Oper} {rest : List Oper} {o : Oper} {a : Act} {Q : Exit → Act → World → Prop} {w : World} {base : Nat} {v : Value} {xs : List So.R} (hown : w.ownsRow base 41 3 v xs.length (So.flat xs)) (hv : v ≠ .slice none 0 0) (g off m c : Nat) (ms : List So.R) (hm : ms.length = m) (hr : So.RM w (some ⟨g, off, none⟩) ms) (hlen : xs.length + ms.length ≤ 4194304) (hbase : base ≤ w.heap.size)
    (hgd : o.guard = none) (s x : Operand) (ho : o.op = .call { callee := .builtin .append, args := #[s, x], argTypes := #[23, 23] }) (hs : a.eval s = v) (hx : a.eval x = .slice (some ⟨g, off, none⟩) m c)
    (h : ∀ b' c' w', w'.ownsRow base 41 3 (.slice (some ⟨b', 0, none⟩) (xs ++ ms).length c') (xs ++ ms).length (So.flat (xs ++ ms)) → (xs ++ ms).length ≤ c' → w.grownBy w' v.ownBlock → wpList Try.prog ops Q rest (a.put o.dst (.slice (some ⟨b', 0, none⟩) (xs ++ ms).length c')) w') : wpList Try.prog ops Q (o :: rest) a w := by
  subst hm
  obtain ⟨i0, hi, hz0, hz1, hz2⟩ := So.infoR
  refine wpList_append_own w hgd s x _ ho base 41 i0 _ 3 24 Try.underlying23 hi hz0 hz1 hz2 rfl (by decide) v xs.length (So.flat xs) hs hown ⟨g, off, none⟩ ms.length c (So.flat ms) hx (So.flat_len ms) hr.cells (fun u hu => So.flat_one_cell hu) (by unfold maxLen; omega) (by omega) hbase (fun v' w' h1 h2 h3 => ?_)
  have hne : v' ≠ .slice none 0 0 := fun e => hv (h3.1 e).1
  obtain ⟨b', c', rfl, hc⟩ := fm_of h1 hne
  have h1' := h1
  rw [← So.flat_append] at h1'
  have e : xs.length + ms.length = (xs ++ ms).length := (List.length_append ..).symm
  rw [e] at h1' hc ⊢
  exact h b' c' w' h1' hc h2
theorem apGSo {o : Oper} {a : Act} {K : Act → World → Prop} {Q : Exit → Act → World → Prop} {w : World} {base d : Nat} {v : Value} {xs : List So.R} (hown : w.ownsRow base 41 3 v xs.length (So.flat xs)) (hv : v ≠ .slice none 0 0) (g off m c : Nat) (ms : List So.R) (hm : ms.length = m) (hr : So.RM w (some ⟨g, off, none⟩) ms) (hlen : xs.length + ms.length ≤ 4194304) (hbase : base ≤ w.heap.size)
    (s x : Operand) (ho : o.op = .call { callee := .builtin .append, args := #[s, x], argTypes := #[23, 23] }) (hd : o.dst = some d) (hs : a.eval s = v) (hx : a.eval x = .slice (some ⟨g, off, none⟩) m c)
    (h : ∀ b' c' w', w'.ownsRow base 41 3 (.slice (some ⟨b', 0, none⟩) (xs ++ ms).length c') (xs ++ ms).length (So.flat (xs ++ ms)) → (xs ++ ms).length ≤ c' → w.grownBy w' v.ownBlock → K (a.put (some d) (.slice (some ⟨b', 0, none⟩) (xs ++ ms).length c')) w') : o.wp Try.prog a w K Q := by
  subst hm
  obtain ⟨i0, hi, hz0, hz1, hz2⟩ := So.infoR
  refine wp_append_own w s x _ ho base 41 i0 _ 3 24 Try.underlying23 hi hz0 hz1 hz2 rfl (by decide) v xs.length (So.flat xs) hs hown ⟨g, off, none⟩ ms.length c (So.flat ms) hx (So.flat_len ms) hr.cells (fun u hu => So.flat_one_cell hu) (by unfold maxLen; omega) (by omega) hbase (fun v' w' h1 h2 h3 => ?_)
  have hne : v' ≠ .slice none 0 0 := fun e => hv (h3.1 e).1
  obtain ⟨b', c', rfl, hc⟩ := fm_of h1 hne
  have h1' := h1
  rw [← So.flat_append] at h1'
  have e : xs.length + ms.length = (xs ++ ms).length := (List.length_append ..).symm
  rw [e] at h1' hc ⊢
  rw [hd]
  exact h b' c' w' h1' hc h2
/-- append onto a row of one's own that lies somewhere: so does the answer. -/
theorem apFTu {ops : Array Oper} {rest : List Oper} {o : Oper} {a : Act} {Q : Exit → Act → World → Prop} {w : World} {base : Nat} {v : Value} {xs : List Tu.R} (hown : w.ownsRow base 73 3 v xs.length (Tu.flat xs)) (hv : v ≠ .slice none 0 0) (g off m c : Nat) (ms : List Tu.R) (hm : ms.length = m) (hr : Tu.RM w (some ⟨g, off, none⟩) ms) (hlen : xs.length + ms.length ≤ 4194304) (hbase : base ≤ w.heap.size)
    (hgd : o.guard = none) (s x : Operand) (ho : o.op = .call { callee := .builtin .append, args := #[s, x], argTypes := #[24, 24] }) (hs : a.eval s = v) (hx : a.eval x = .slice (some ⟨g, off, none⟩) m c)
    (h : ∀ b' c' w', w'.ownsRow base 73 3 (.slice (some ⟨b', 0, none⟩) (xs ++ ms).length c') (xs ++ ms).length (Tu.flat (xs ++ ms)) → (xs ++ ms).length ≤ c' → w.grownBy w' v.ownBlock → wpList Try.prog ops Q rest (a.put o.dst (.slice (some ⟨b', 0, none⟩) (xs ++ ms).length c')) w') : wpList Try.prog ops Q (o :: rest) a w := by
  subst hm
  obtain ⟨i0, hi, hz0, hz1, hz2⟩ := Tu.infoR
  refine wpList_append_own w hgd s x _ ho base 73 i0 _ 3 24 Try.underlying24 hi hz0 hz1 hz2 rfl (by decide) v xs.length (Tu.flat xs) hs hown ⟨g, off, none⟩ ms.length c (Tu.flat ms) hx (Tu.flat_len ms) hr.cells (fun u hu => Tu.flat_one_cell hu) (by unfold maxLen; omega) (by omega) hbase (fun v' w' h1 h2 h3 => ?_)
  have hne : v' ≠ .slice none 0 0 := fun e => hv (h3.1 e).1
  obtain ⟨b', c', rfl, hc⟩ := fm_of h1 hne
  have h1' := h1
  rw [← Tu.flat_append] at h1'
  have e : xs.length + ms.length = (xs ++ ms).length := (List.length_append ..).symm
  rw [e] at h1' hc ⊢
  exact h b' c' w' h1' hc h2
theorem apGTu {o : Oper} {a : Act} {K : Act → World → Prop} {Q : Exit → Act → World → Prop} {w : World} {base d : Nat} {v : Value} {xs : List Tu.R} (hown : w.ownsRow base 73 3 v xs.length (Tu.flat xs)) (hv : v ≠ .slice none 0 0) (g off m c : Nat) (ms : List Tu.R) (hm : ms.length = m) (hr : Tu.RM w (some ⟨g, off, none⟩) ms) (hlen : xs.length + ms.length ≤ 4194304) (hbase : base ≤ w.heap.size)
    (s x : Operand) (ho : o.op = .call { callee := .builtin .append, args := #[s, x], argTypes := #[24, 24] }) (hd : o.dst = some d) (hs : a.eval s = v) (hx : a.eval x = .slice (some ⟨g, off, none⟩) m c)
    (h : ∀ b' c' w', w'.ownsRow base 73 3 (.slice (some ⟨b', 0, none⟩) (xs ++ ms).length c') (xs ++ ms).length (Tu.flat (xs ++ ms)) → (xs ++ ms).length ≤ c' → w.grownBy w' v.ownBlock → K (a.put (some d) (.slice (some ⟨b', 0, none⟩) (xs ++ ms).length c')) w') : o.wp Try.prog a w K Q := by
  subst hm
  obtain ⟨i0, hi, hz0, hz1, hz2⟩ := Tu.infoR
  refine wp_append_own w s x _ ho base 73 i0 _ 3 24 Try.underlying24 hi hz0 hz1 hz2 rfl (by decide) v xs.length (Tu.flat xs) hs hown ⟨g, off, none⟩ ms.length c (Tu.flat ms) hx (Tu.flat_len ms) hr.cells (fun u hu => Tu.flat_one_cell hu) (by unfold maxLen; omega) (by omega) hbase (fun v' w' h1 h2 h3 => ?_)
  have hne : v' ≠ .slice none 0 0 := fun e => hv (h3.1 e).1
  obtain ⟨b', c', rfl, hc⟩ := fm_of h1 hne
  have h1' := h1
  rw [← Tu.flat_append] at h1'
  have e : xs.length + ms.length = (xs ++ ms).length := (List.length_append ..).symm
  rw [e] at h1' hc ⊢
  rw [hd]
  exact h b' c' w' h1' hc h2

theorem lst_fm {w : World} {base g n c : Nat} {ms : List So.R} (hn : n = ms.length) (h : w.ownsRow base 41 3 (.slice (some ⟨g, 0, none⟩) n c) n (So.flat ms)) : So.Lst w (some ⟨g, 0, none⟩) ms base w.heap.size := by
  obtain ⟨a, c', e, hl⟩ := So.lst_own hn h
  cases e; exact hl
theorem lst_fmT {w : World} {base g n c : Nat} {ms : List R} (hn : n = ms.length) (h : w.ownsRow base 73 3 (.slice (some ⟨g, 0, none⟩) n c) n (Tu.flat ms)) : Tu.Lst w (some ⟨g, 0, none⟩) ms base w.heap.size := by
  obtain ⟨a, c', e, hl⟩ := Tu.lst_own hn h
  cases e; exact hl
set_option maxHeartbeats 1000000 in
theorem l03OwnF (g off : Nat) (ms : List R) (cap n : Nat) (w : World) (hn : ms.length = n) (hm : ms.length ≤ 4096) (hr : Tu.RM w (some ⟨g, off, none⟩) ms) :
    Calls Try.prog 88 #[.slice (some ⟨g, off, none⟩) n cap] w fun e w' => ∃ b c, e = .returned (.slice (some ⟨b, 0, none⟩) n c) ∧ Below w.heap.size w w' ∧ ms.length ≤ c ∧ Tu.Lst w' (some ⟨b, 0, none⟩) ms w.heap.size w'.heap.size := by
  have HR := hide (hr.below ((Below.refl _ _).alloc (Nat.le_refl _) (.cells #[] 73)))
  have O0 := hide (Tu.own_empty w w.heap.size (Nat.le_refl _))
  clear hr
  go_enter Try.func88, Try.ntmps88
  go_wp2_with (at_builtin; refine apFTu (unhide O0) (by simp) g off n cap ms hn (unhide HR) (by simp; omega) (by simp) rfl _ _ rfl rfl rfl ?_; intro b' c' w' ho hc hg; have HL := hide (lst_fmT rfl ho); have HB := hide (Tu.below_own ((Below.refl _ _).alloc (Nat.le_refl _) _) (unhide O0) hg (Nat.le_refl _) (by simp)); have HC := hide hc; clear ho hg hc)
  go_ret
  exact ⟨_, _, rfl, unhide HB, unhide HC, unhide HL⟩
/-- A topology that can be read: both lists lie somewhere. -/
def RdT (w : World) (v : Value) (S : List So.R) (E : List R) : Prop := ∃ g o c h p d, v = .agg #[.slice (some ⟨g, o, none⟩) S.length c, .slice (some ⟨h, p, none⟩) E.length d] ∧ S.length ≤ c ∧ So.RM w (some ⟨g, o, none⟩) S ∧ Tu.RM w (some ⟨h, p, none⟩) E
theorem RdT.below {w w' : World} {v : Value} {S : List So.R} {E : List R} (h : RdT w v S E) (hb : Below w.heap.size w w') : RdT w' v S E := by
  obtain ⟨g, o, c, h, p, d, rfl, h1, h2, h3⟩ := h
  exact ⟨g, o, c, h, p, d, rfl, h1, h2.below hb, h3.below hb⟩
/-- A topology in memory of its own, that lies somewhere. -/
def OwT (w : World) (v : Value) (S : List So.R) (E : List R) (lo hi : Nat) : Prop := ∃ g c h d mid, v = .agg #[.slice (some ⟨g, 0, none⟩) S.length c, .slice (some ⟨h, 0, none⟩) E.length d] ∧ S.length ≤ c ∧ So.Lst w (some ⟨g, 0, none⟩) S lo mid ∧ Tu.Lst w (some ⟨h, 0, none⟩) E mid hi ∧ lo ≤ mid ∧ mid ≤ hi
theorem OwT.rd {w : World} {v : Value} {S : List So.R} {E : List R} {lo hi : Nat} (h : OwT w v S E lo hi) : RdT w v S E := by
  obtain ⟨g, c, h, d, mid, rfl, h1, h2, h3, _⟩ := h
  exact ⟨g, 0, c, h, 0, d, rfl, h1, h2.rm, h3.rm⟩
theorem OwT.below {w w' : World} {v : Value} {S : List So.R} {E : List R} {lo hi : Nat} (h : OwT w v S E lo hi) (hb : Below w.heap.size w w') : OwT w' v S E lo hi := by
  obtain ⟨g, c, h, d, mid, rfl, h1, h2, h3, h4⟩ := h
  exact ⟨g, c, h, d, mid, rfl, h1, h2.below hb, h3.below hb, h4⟩
theorem OwT.mono {w : World} {v : Value} {S : List So.R} {E : List R} {lo hi lo' hi' : Nat} (h : OwT w v S E lo hi) (h1 : lo' ≤ lo) (h2 : hi ≤ hi') : OwT w v S E lo' hi' := by
  obtain ⟨g, c, h, d, mid, rfl, q1, q2, q3, q4⟩ := h
  exact ⟨g, c, h, d, mid, rfl, q1, q2.mono h1 (Nat.le_refl _), q3.mono (Nat.le_refl _) h2, by omega⟩
theorem lsS_set {w : World} {a : Option Addr} {ms : List So.R} {lo hi b i : Nat} {u : Value} (h : So.Lst w a ms lo hi) (hb : b < lo ∨ hi ≤ b) : So.Lst (w.setCell ⟨b, i, none⟩ u) a ms lo hi :=
  h.but (p := fun k => k ≠ b) (by simp [World.setCell]) (fun k hk hne => Below.heap_setCell _ _ _ _ hne) (fun k h1 h2 => by omega)
theorem lsT_set {w : World} {a : Option Addr} {ms : List R} {lo hi b i : Nat} {u : Value} (h : Tu.Lst w a ms lo hi) (hb : b < lo ∨ hi ≤ b) : Tu.Lst (w.setCell ⟨b, i, none⟩ u) a ms lo hi :=
  h.but (p := fun k => k ≠ b) (by simp [World.setCell]) (fun k hk hne => Below.heap_setCell _ _ _ _ hne) (fun k h1 h2 => by omega)
set_option maxHeartbeats 4000000 in
theorem l09Own (g off : Nat) (ss : List So.R) (ca h ofe : Nat) (es : List R) (cb : Nat) (w : World) (hm : ss.length ≤ 4096) (hl : es.length ≤ 4096) (hr : So.RM w (some ⟨g, off, none⟩) ss) (hr' : RM w (some ⟨h, ofe, none⟩) es) :
    Calls Try.prog 37 #[.agg #[.slice (some ⟨g, off, none⟩) ss.length ca, .slice (some ⟨h, ofe, none⟩) es.length cb]] w fun e w' => ∃ v, e = .returned v ∧ Below w.heap.size w w' ∧ OwT w' v ss es w.heap.size w'.heap.size := by
  have HA0 : Hid (Below w.heap.size w (w.alloc (.cells #[.slice (some ⟨g, off, none⟩) ss.length ca, .slice (some ⟨h, ofe, none⟩) es.length cb] 26))) := hide ((Below.refl _ _).alloc (Nat.le_refl _) _)
  have HA : Hid (Below w.heap.size w ((w.alloc (.cells #[.slice (some ⟨g, off, none⟩) ss.length ca, .slice (some ⟨h, ofe, none⟩) es.length cb] 26)).alloc (.cells #[.slice none 0 0, .slice none 0 0] 26))) := hide ((unhide HA0).alloc (unhide HA0).size _)
  have HX : Hid (TV ((w.alloc (.cells #[.slice (some ⟨g, off, none⟩) ss.length ca, .slice (some ⟨h, ofe, none⟩) es.length cb] 26)).alloc (.cells #[.slice none 0 0, .slice none 0 0] 26)) w.heap.size (.slice (some ⟨g, off, none⟩) ss.length ca) (.slice (some ⟨h, ofe, none⟩) es.length cb)) := hide ((tv_new w _ _).below ((Below.refl _ _).alloc (Nat.le_refl _) _))
  have HZ : Hid (TV ((w.alloc (.cells #[.slice (some ⟨g, off, none⟩) ss.length ca, .slice (some ⟨h, ofe, none⟩) es.length cb] 26)).alloc (.cells #[.slice none 0 0, .slice none 0 0] 26)) (w.heap.size + 1) (.slice none 0 0) (.slice none 0 0)) := hide (by have := tv_new (w.alloc (.cells #[.slice (some ⟨g, off, none⟩) ss.length ca, .slice (some ⟨h, ofe, none⟩) es.length cb] 26)) (.slice none 0 0) (.slice none 0 0); rw [show (w.alloc (.cells #[.slice (some ⟨g, off, none⟩) ss.length ca, .slice (some ⟨h, ofe, none⟩) es.length cb] 26)).heap.size = w.heap.size + 1 by simp] at this; exact this)
  have hsz : (((w.alloc (.cells #[.slice (some ⟨g, off, none⟩) ss.length ca, .slice (some ⟨h, ofe, none⟩) es.length cb] 26)).alloc (.cells #[.slice none 0 0, .slice none 0 0] 26))).heap.size = w.heap.size + 2 := by simp
  have HR := hide hr
  have HE := hide hr'
  clear hr hr' HA0
  have hp1 : w.heap.size ≤ w.heap.size + 1 := by omega
  have O0 : Hid (((((w.alloc (.cells #[.slice (some ⟨g, off, none⟩) ss.length ca, .slice (some ⟨h, ofe, none⟩) es.length cb] 26)).alloc (.cells #[.slice none 0 0, .slice none 0 0] 26))).alloc (.cells #[] 41)).ownsRow (w.heap.size + 2) 41 3 (.slice (some ⟨w.heap.size + 2, 0, none⟩) 0 0) ([] : List So.R).length (So.flat [])) := hide (by have := So.own_empty ((w.alloc (.cells #[.slice (some ⟨g, off, none⟩) ss.length ca, .slice (some ⟨h, ofe, none⟩) es.length cb] 26)).alloc (.cells #[.slice none 0 0, .slice none 0 0] 26)) (w.heap.size + 2) (by rw [hsz]; exact Nat.le_refl _); rw [hsz] at this; exact this)
  have HA3 : Hid (Below w.heap.size w ((((w.alloc (.cells #[.slice (some ⟨g, off, none⟩) ss.length ca, .slice (some ⟨h, ofe, none⟩) es.length cb] 26)).alloc (.cells #[.slice none 0 0, .slice none 0 0] 26))).alloc (.cells #[] 41))) := hide ((unhide HA).alloc (unhide HA).size _)
  have HX3 : Hid (TV ((((w.alloc (.cells #[.slice (some ⟨g, off, none⟩) ss.length ca, .slice (some ⟨h, ofe, none⟩) es.length cb] 26)).alloc (.cells #[.slice none 0 0, .slice none 0 0] 26))).alloc (.cells #[] 41)) w.heap.size (.slice (some ⟨g, off, none⟩) ss.length ca) (.slice (some ⟨h, ofe, none⟩) es.length cb)) := hide ((unhide HX).below ((Below.refl _ _).alloc (Nat.le_refl _) _))
  have HZ3 : Hid (TV ((((w.alloc (.cells #[.slice (some ⟨g, off, none⟩) ss.length ca, .slice (some ⟨h, ofe, none⟩) es.length cb] 26)).alloc (.cells #[.slice none 0 0, .slice none 0 0] 26))).alloc (.cells #[] 41)) (w.heap.size + 1) (.slice none 0 0) (.slice none 0 0)) := hide ((unhide HZ).below ((Below.refl _ _).alloc (Nat.le_refl _) _))
  have hsz3 : ((((w.alloc (.cells #[.slice (some ⟨g, off, none⟩) ss.length ca, .slice (some ⟨h, ofe, none⟩) es.length cb] 26)).alloc (.cells #[.slice none 0 0, .slice none 0 0] 26))).alloc (.cells #[] 41)).heap.size = w.heap.size + 3 := by simp
  have HR3 := hide ((unhide HR).below (unhide HA3))
  clear HA HX HZ hsz
  go_enter Try.func37, Try.ntmps37
  go_wp2_with (at_builtin; refine apFSo (unhide O0) (by simp) g off ss.length ca ss rfl (unhide HR3) (by simp; omega) (by omega) rfl _ _ rfl rfl rfl ?_; intro b' c' w4 ho hc hg; simp only [List.nil_append] at ho hc ⊢; have HL4 := hide (lst_fm rfl ho); have HB4 := hide (So.below_own (unhide HA3) (unhide O0) hg (by omega) (by omega)); have HX4 := hide ((unhide HX3).grown hg (by simp [Value.ownBlock])); have HZ4 := hide ((unhide HZ3).grown hg (by simp [Value.ownBlock])); have HC4 := hide hc; have hs4 := hg.size; clear ho hg hc; obtain ⟨x0, x1⟩ := (unhide HX4).bx; have f0 := (unhide HX4).free 0)
  clear x0 x1 f0
  obtain ⟨w5, hw5⟩ : ∃ w5, w4.setCell ⟨w.heap.size, 0, none⟩ (.slice (some ⟨b', 0, none⟩) ss.length c') = w5 := ⟨_, rfl⟩
  rw [hw5]
  have HB5 : Hid (Below w.heap.size w w5) := hide (by rw [← hw5]; exact (unhide HB4).setCell (p := ⟨w.heap.size, 0, none⟩) (Nat.le_refl _) _)
  have HX5 : Hid (TV w5 w.heap.size (.slice (some ⟨b', 0, none⟩) ss.length c') (.slice (some ⟨h, ofe, none⟩) es.length cb)) := hide (by rw [← hw5]; exact (unhide HX4).set0 _)
  have HZ5 : Hid (TV w5 (w.heap.size + 1) (.slice none 0 0) (.slice none 0 0)) := hide (by rw [← hw5]; exact (unhide HZ4).other (p := ⟨w.heap.size, 0, none⟩) (by show w.heap.size + 1 ≠ w.heap.size; omega) _)
  have HL5 : Hid (So.Lst w5 (some ⟨b', 0, none⟩) ss (w.heap.size + 2) w5.heap.size) := hide (by rw [← hw5]; exact lsS_set ((unhide HL4).mono (Nat.le_refl _) (by simp [World.setCell])) (.inl (by omega)))
  have hs5 : w5.heap.size = w4.heap.size := by rw [← hw5]; simp [World.setCell]
  clear hw5 HB4 HX4 HZ4 HL4 HX3 HZ3 HR3 O0 HA3
  have HE5 := hide ((unhide HE).below (unhide HB5))
  refine (l03OwnF h ofe es cb _ _ rfl hl (unhide HE5)).mono ?_
  rintro e w6 ⟨q, d, rfl, b6, hd, l6⟩
  have HB6 := hide ((unhide HB5).trans (b6.mono (unhide HB5).size))
  have HX6 := hide ((unhide HX5).below b6)
  have HZ6 := hide ((unhide HZ5).below b6)
  have HL6 := hide ((unhide HL5).below b6)
  have HM6 := hide l6
  have hs6 := b6.size
  have HD := hide hd
  clear b6 l6 hd HX5 HZ5 HL5 HE5
  obtain ⟨x0, x1⟩ := (unhide HX6).bx
  have f1 := (unhide HX6).free 1
  obtain ⟨r0, r1⟩ := (unhide HZ6).bx
  have q0 := (unhide HZ6).free 0
  have q1 := (unhide HZ6).free 1
  have hne2 : ¬ w.heap.size = w.heap.size + 1 := by omega
  have hne3 : ¬ w.heap.size + 1 = w.heap.size := by omega
  go_wp2_with fail
  refine bodyPost_ret (v := .agg #[.slice (some ⟨b', 0, none⟩) ss.length c', .slice (some ⟨q, 0, none⟩) es.length d]) (by simp [results, Try.results37, go_sem, r0, r1, x0, x1]) rfl ⟨_, rfl, ?_, b', c', q, d, w5.heap.size, rfl, unhide HC4, ?_, ?_, by omega, ?_⟩
  · have hB := unhide HB6
    (repeat (first | (with_reducible exact hB) | (with_reducible refine Below.drew ?_) | (with_reducible refine Below.setCell ?_ ?_ _; rotate_left; (first | exact Nat.le_refl _ | (simp; done) | (dsimp only; omega))) | (with_reducible refine Below.alloc ?_ ?_ _; rotate_left; (first | exact Nat.le_refl _ | omega | (simp [World.setCell]; omega)))))
  · have := (unhide HL6)
    exact (lsS_set (lsS_set (lsS_set this (.inl (by omega))) (.inl (by omega))) (.inl (by omega))).mono (by omega) (Nat.le_refl _)
  · exact (lsT_set (lsT_set (lsT_set (unhide HM6) (.inl (by omega))) (.inl (by omega))) (.inl (by omega))).mono (Nat.le_refl _) (by simp [World.setCell])
  · simp [World.setCell]; omega
end Tp
end Go.Proofs.Ytilphgfjgeoiaaa
