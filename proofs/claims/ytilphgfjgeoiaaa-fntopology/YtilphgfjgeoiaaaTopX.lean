/-
  The model's contract of topologies: one without a source (l09Without). (written by mktopx.py)
-/
import Derived.Test.YtilphgfjgeoiaaaTopW
namespace Go.Proofs.Ytilphgfjgeoiaaa
open Go.ChangeShapes Go.WideShapes Go.ChangeAt Go.RowKit
set_option linter.unusedVariables false
set_option linter.unusedSimpArgs false
set_option maxRecDepth 100000
attribute [local go_sem ↓] Go.wp_at_zero Go.wp_at_succ
namespace Tp
open W1 Tu St Tw
theorem Bx2.under {w w' : World} {B b : Nat} {x y : Value} (h : Bx2 w b x y) (hb : Below B w w') (hl : b < B) : Bx2 w' b x y := ⟨(hb.cell (p := ⟨b, 0, none⟩) hl).trans h.1, (hb.cell (p := ⟨b, 1, none⟩) hl).trans h.2⟩
theorem sSox {w : World} {g o B : Nat} {ad an til : Int} {x y : Value} (h : So.At w g o ⟨ad, an, til⟩) (hB : Bx2 w B x y) : (So.At w g o ⟨ad, an, til⟩ ∧ Bx2 w B x y) ∧ w.cell? ⟨g, o, none⟩ = some (.int .i64 ad) ∧ w.cell? ⟨g, o + 1, none⟩ = some (.int .i64 an) ∧ w.cell? ⟨g, o + 2, none⟩ = some (.int .i64 til) ∧ w.cell? ⟨B, 0, none⟩ = some x := ⟨⟨h, hB⟩, h.1, h.2.1, h.2.2, hB.1⟩
theorem sTux {w : World} {g o B : Nat} {key til val : Int} {x y : Value} (h : Tu.At w g o ⟨key, til, val⟩) (hB : Bx2 w B x y) : (Tu.At w g o ⟨key, til, val⟩ ∧ Bx2 w B x y) ∧ w.cell? ⟨g, o, none⟩ = some (.int .i64 key) ∧ w.cell? ⟨g, o + 1, none⟩ = some (.int .i64 til) ∧ w.cell? ⟨g, o + 2, none⟩ = some (.int .i64 val) ∧ w.cell? ⟨B, 1, none⟩ = some y := ⟨⟨h, hB⟩, h.1, h.2.1, h.2.2, hB.2⟩
theorem own_block {w : World} {base e size n g c : Nat} {xs : List Value} (h : w.ownsRow base e size (.slice (some ⟨g, 0, none⟩) n c) n xs) : ∃ cur, w.heap[g]? = some (.cells cur e (0, 0)) := by
  obtain ⟨_, ⟨e', _⟩ | ⟨g', cap, cur, e', _, hg, _⟩⟩ := h
  · cases e'
  · cases e'; exact ⟨cur, hg⟩
theorem tv_rowSo {w : World} {b : Nat} {x y u : Value} {base n : Nat} {xs : List Value} (h : TV w b x y) (hr : w.ownsRow base 41 3 u n xs) : some b ≠ u.ownBlock := by
  rcases hr.2 with ⟨rfl, _⟩ | ⟨g, cap, cur, rfl, _, hgb, _⟩
  · simp [Value.ownBlock]
  · intro e'
    obtain rfl : b = g := by simpa [Value.ownBlock] using e'
    have := (show w.heap[b]? = _ from h).symm.trans hgb
    simp at this
theorem tv_rowTu {w : World} {b : Nat} {x y u : Value} {base n : Nat} {xs : List Value} (h : TV w b x y) (hr : w.ownsRow base 73 3 u n xs) : some b ≠ u.ownBlock := by
  rcases hr.2 with ⟨rfl, _⟩ | ⟨g, cap, cur, rfl, _, hgb, _⟩
  · simp [Value.ownBlock]
  · intro e'
    obtain rfl : b = g := by simpa [Value.ownBlock] using e'
    have := (show w.heap[b]? = _ from h).symm.trans hgb
    simp at this
theorem rows_se {w : World} {base base' n n' : Nat} {u v : Value} {xs ys : List Value} (h : w.ownsRow base 41 3 u n xs) (h' : w.ownsRow base' 73 3 v n' ys) : v.ownBlock = none ∨ v.ownBlock ≠ u.ownBlock := by
  rcases h'.2 with ⟨rfl, _⟩ | ⟨g, cap, cur, rfl, _, hgb, _⟩
  · exact .inl (by simp [Value.ownBlock])
  · right
    rcases h.2 with ⟨rfl, _⟩ | ⟨g', cap', cur', rfl, _, hgb', _⟩
    · simp [Value.ownBlock]
    · intro e'
      obtain rfl : g = g' := by simpa [Value.ownBlock] using e'
      have := hgb.symm.trans hgb'
      simp at this
theorem rows_es {w : World} {base base' n n' : Nat} {u v : Value} {xs ys : List Value} (h : w.ownsRow base 73 3 u n xs) (h' : w.ownsRow base' 41 3 v n' ys) : v.ownBlock = none ∨ v.ownBlock ≠ u.ownBlock := by
  rcases h'.2 with ⟨rfl, _⟩ | ⟨g, cap, cur, rfl, _, hgb, _⟩
  · exact .inl (by simp [Value.ownBlock])
  · right
    rcases h.2 with ⟨rfl, _⟩ | ⟨g', cap', cur', rfl, _, hgb', _⟩
    · simp [Value.ownBlock]
    · intro e'
      obtain rfl : g = g' := by simpa [Value.ownBlock] using e'
      have := hgb.symm.trans hgb'
      simp at this
theorem keepT {w w' : World} {base n : Nat} {v : Value} {xs : List Value} {r : Option Nat} (h : w.ownsRow base 73 3 v n xs) (hg : w.grownBy w' r) (hne : v.ownBlock = none ∨ v.ownBlock ≠ r) : w'.ownsRow base 73 3 v n xs := h.kept hg hne
theorem keepS {w w' : World} {base n : Nat} {v : Value} {xs : List Value} {r : Option Nat} (h : w.ownsRow base 41 3 v n xs) (hg : w.grownBy w' r) (hne : v.ownBlock = none ∨ v.ownBlock ≠ r) : w'.ownsRow base 41 3 v n xs := h.kept hg hne
theorem keepTb {w w' : World} {base n : Nat} {v : Value} {xs : List Value} (h : w.ownsRow base 73 3 v n xs) (hb : Below w.heap.size w w') : w'.ownsRow base 73 3 v n xs := by
  refine h.kept (row := none) ⟨hb.os, hb.tape, hb.output, hb.size, fun k hk _ => hb.block k hk⟩ ?_
  cases v.ownBlock
  · exact .inl rfl
  · exact .inr (by simp)
theorem keepSb {w w' : World} {base n : Nat} {v : Value} {xs : List Value} (h : w.ownsRow base 41 3 v n xs) (hb : Below w.heap.size w w') : w'.ownsRow base 41 3 v n xs := by
  refine h.kept (row := none) ⟨hb.os, hb.tape, hb.output, hb.size, fun k hk _ => hb.block k hk⟩ ?_
  cases v.ownBlock
  · exact .inl rfl
  · exact .inr (by simp)
theorem rm_setS {w : World} {g : Nat} {n c : Nat} {ms : List So.R} (h : So.RM w (some ⟨g, 0, none⟩) ms) {b : Nat} (hne : some b ≠ (Value.slice (some ⟨g, 0, none⟩) n c).ownBlock) (i : Nat) (u : Value) : So.RM (w.setCell ⟨b, i, none⟩ u) (some ⟨g, 0, none⟩) ms := by
  have hbg : g ≠ b := fun e => hne (by subst e; simp [Value.ownBlock])
  have hh : (w.setCell ⟨b, i, none⟩ u).heap[g]? = w.heap[g]? := Below.heap_setCell _ _ _ _ hbg
  rcases h with h | ⟨g', off, e, hc⟩
  · exact .inl h
  · cases e
    exact .inr ⟨g, 0, rfl, fun i hi => ⟨(World.cell?_of_block (a := ⟨g, _, none⟩) hh).trans (hc i hi).1, (World.cell?_of_block (a := ⟨g, _, none⟩) hh).trans (hc i hi).2.1, (World.cell?_of_block (a := ⟨g, _, none⟩) hh).trans (hc i hi).2.2⟩⟩
theorem rm_setT {w : World} {g : Nat} {n c : Nat} {ms : List R} (h : Tu.RM w (some ⟨g, 0, none⟩) ms) {b : Nat} (hne : some b ≠ (Value.slice (some ⟨g, 0, none⟩) n c).ownBlock) (i : Nat) (u : Value) : Tu.RM (w.setCell ⟨b, i, none⟩ u) (some ⟨g, 0, none⟩) ms := by
  have hbg : g ≠ b := fun e => hne (by subst e; simp [Value.ownBlock])
  have hh : (w.setCell ⟨b, i, none⟩ u).heap[g]? = w.heap[g]? := Below.heap_setCell _ _ _ _ hbg
  rcases h with h | ⟨g', off, e, hc⟩
  · exact .inl h
  · cases e
    exact .inr ⟨g, 0, rfl, fun i hi => ⟨(World.cell?_of_block (a := ⟨g, _, none⟩) hh).trans (hc i hi).1, (World.cell?_of_block (a := ⟨g, _, none⟩) hh).trans (hc i hi).2.1, (World.cell?_of_block (a := ⟨g, _, none⟩) hh).trans (hc i hi).2.2⟩⟩
theorem takeS_filter (p : So.R → Bool) (ss : List So.R) (j : Nat) (h : j < ss.length) : (ss.take (j + 1)).filter p = (ss.take j).filter p ++ (if p (ss.getD j So.R.zero) = true then [ss.getD j So.R.zero] else []) := by
  rw [src_take h, List.filter_append]
  by_cases hp : p (ss.getD j So.R.zero) = true
  · rw [List.filter_cons_of_pos hp, if_pos hp]; rfl
  · rw [List.filter_cons_of_neg hp, if_neg hp]; rfl
theorem filterS_le (p : So.R → Bool) (ss : List So.R) (j : Nat) : ((ss.take j).filter p).length ≤ j := by
  have := List.length_filter_le p (ss.take j); have := List.length_take_le j ss; omega
theorem takeT_filter (p : R → Bool) (es : List R) (j : Nat) (h : j < es.length) : (es.take (j + 1)).filter p = (es.take j).filter p ++ (if p (es.getD j R.zero) = true then [es.getD j R.zero] else []) := by
  rw [take_one h, List.filter_append]
  by_cases hp : p (es.getD j R.zero) = true
  · rw [List.filter_cons_of_pos hp, if_pos hp]; rfl
  · rw [List.filter_cons_of_neg hp, if_neg hp]; rfl
theorem filterT_le (p : R → Bool) (es : List R) (j : Nat) : ((es.take j).filter p).length ≤ j := by
  have := List.length_filter_le p (es.take j); have := List.length_take_le j es; omega
set_option maxHeartbeats 16000000 in
theorem l09Without (a : Option Addr) (ss : List So.R) (k ca : Nat) (b : Option Addr) (es : List R) (n cb : Nat) (frm : Int) (w : World) (hK : ss.length = k) (hN : es.length = n) (hk4 : k ≤ 4096) (hte : twoB es = true) (hr : So.RM w a ss) (hr' : RM w b es) :
    Calls Try.prog 85 #[.agg #[.slice a k ca, .slice b n cb], .int .i64 frm] w fun e w' => ∃ v, e = .returned v ∧ Below w.heap.size w w' ∧ RdT w' v (ss.filter (neS frm)) (es.filter (keepF frm)) := by
  have h62 := two_len hte
  rw [hN] at h62
  have HTE := hide hte
  have HK := hide hK
  have HN := hide hN
  clear hte hK hN
  have HA2 : Hid (Below w.heap.size w ((w.alloc (.cells #[.slice a k ca, .slice b n cb] 26)).alloc (.cells #[.slice none 0 0, .slice none 0 0] 26))) := hide (((Below.refl _ _).alloc (Nat.le_refl _) _).alloc ((Below.refl w.heap.size w).alloc (Nat.le_refl _) _).size _)
  have hs2 : (((w.alloc (.cells #[.slice a k ca, .slice b n cb] 26)).alloc (.cells #[.slice none 0 0, .slice none 0 0] 26))).heap.size = w.heap.size + 2 := by simp
  have hs3 : ((((w.alloc (.cells #[.slice a k ca, .slice b n cb] 26)).alloc (.cells #[.slice none 0 0, .slice none 0 0] 26))).alloc (.cells #[] 41)).heap.size = w.heap.size + 3 := by simp
  have hs4 : (((((w.alloc (.cells #[.slice a k ca, .slice b n cb] 26)).alloc (.cells #[.slice none 0 0, .slice none 0 0] 26)).alloc (.cells #[] 41)).alloc (.cells #[] 73))).heap.size = w.heap.size + 4 := by simp
  have hs5 : ((((((w.alloc (.cells #[.slice a k ca, .slice b n cb] 26)).alloc (.cells #[.slice none 0 0, .slice none 0 0] 26)).alloc (.cells #[] 41)).alloc (.cells #[] 73)).alloc (.cells #[.slice (some ⟨w.heap.size + 2, 0, none⟩) 0 0, .slice (some ⟨w.heap.size + 3, 0, none⟩) 0 0] 26))).heap.size = w.heap.size + 5 := by simp
  have HA4 : Hid (Below w.heap.size w ((((w.alloc (.cells #[.slice a k ca, .slice b n cb] 26)).alloc (.cells #[.slice none 0 0, .slice none 0 0] 26)).alloc (.cells #[] 41)).alloc (.cells #[] 73))) := hide (((unhide HA2).alloc (by omega) _).alloc (by omega) _)
  have HA : Hid (Below w.heap.size w (((((w.alloc (.cells #[.slice a k ca, .slice b n cb] 26)).alloc (.cells #[.slice none 0 0, .slice none 0 0] 26)).alloc (.cells #[] 41)).alloc (.cells #[] 73)).alloc (.cells #[.slice (some ⟨w.heap.size + 2, 0, none⟩) 0 0, .slice (some ⟨w.heap.size + 3, 0, none⟩) 0 0] 26))) := hide ((unhide HA4).alloc (by omega) _)
  have HX0 : Hid (Bx2 ((w.alloc (.cells #[.slice a k ca, .slice b n cb] 26)).alloc (.cells #[.slice none 0 0, .slice none 0 0] 26)) w.heap.size (.slice a k ca) (.slice b n cb)) := hide ((bx2_new w _ _ _).below ((Below.refl _ _).alloc (Nat.le_refl _) _))
  have HX : Hid (Bx2 (((((w.alloc (.cells #[.slice a k ca, .slice b n cb] 26)).alloc (.cells #[.slice none 0 0, .slice none 0 0] 26)).alloc (.cells #[] 41)).alloc (.cells #[] 73)).alloc (.cells #[.slice (some ⟨w.heap.size + 2, 0, none⟩) 0 0, .slice (some ⟨w.heap.size + 3, 0, none⟩) 0 0] 26)) w.heap.size (.slice a k ca) (.slice b n cb)) := hide ((((unhide HX0).below ((Below.refl _ _).alloc (Nat.le_refl _) _)).below ((Below.refl _ _).alloc (Nat.le_refl _) _)).below ((Below.refl _ _).alloc (Nat.le_refl _) _))
  have HZ0 : Hid (TV ((w.alloc (.cells #[.slice a k ca, .slice b n cb] 26)).alloc (.cells #[.slice none 0 0, .slice none 0 0] 26)) (w.heap.size + 1) (.slice none 0 0) (.slice none 0 0)) := hide (by have := tv_new (w.alloc (.cells #[.slice a k ca, .slice b n cb] 26)) (.slice none 0 0) (.slice none 0 0); rw [show (w.alloc (.cells #[.slice a k ca, .slice b n cb] 26)).heap.size = w.heap.size + 1 by simp] at this; exact this)
  have HZ : Hid (TV (((((w.alloc (.cells #[.slice a k ca, .slice b n cb] 26)).alloc (.cells #[.slice none 0 0, .slice none 0 0] 26)).alloc (.cells #[] 41)).alloc (.cells #[] 73)).alloc (.cells #[.slice (some ⟨w.heap.size + 2, 0, none⟩) 0 0, .slice (some ⟨w.heap.size + 3, 0, none⟩) 0 0] 26)) (w.heap.size + 1) (.slice none 0 0) (.slice none 0 0)) := hide ((((unhide HZ0).below ((Below.refl _ _).alloc (Nat.le_refl _) _)).below ((Below.refl _ _).alloc (Nat.le_refl _) _)).below ((Below.refl _ _).alloc (Nat.le_refl _) _))
  have HO0 : Hid (TV (((((w.alloc (.cells #[.slice a k ca, .slice b n cb] 26)).alloc (.cells #[.slice none 0 0, .slice none 0 0] 26)).alloc (.cells #[] 41)).alloc (.cells #[] 73)).alloc (.cells #[.slice (some ⟨w.heap.size + 2, 0, none⟩) 0 0, .slice (some ⟨w.heap.size + 3, 0, none⟩) 0 0] 26)) (w.heap.size + 4) (.slice (some ⟨w.heap.size + 2, 0, none⟩) 0 0) (.slice (some ⟨w.heap.size + 3, 0, none⟩) 0 0)) := hide (by have := tv_new ((((w.alloc (.cells #[.slice a k ca, .slice b n cb] 26)).alloc (.cells #[.slice none 0 0, .slice none 0 0] 26)).alloc (.cells #[] 41)).alloc (.cells #[] 73)) (.slice (some ⟨w.heap.size + 2, 0, none⟩) 0 0) (.slice (some ⟨w.heap.size + 3, 0, none⟩) 0 0); rw [hs4] at this; exact this)
  have OS0 : Hid (((((((w.alloc (.cells #[.slice a k ca, .slice b n cb] 26)).alloc (.cells #[.slice none 0 0, .slice none 0 0] 26)).alloc (.cells #[] 41)).alloc (.cells #[] 73)).alloc (.cells #[.slice (some ⟨w.heap.size + 2, 0, none⟩) 0 0, .slice (some ⟨w.heap.size + 3, 0, none⟩) 0 0] 26))).ownsRow (w.heap.size + 2) 41 3 (.slice (some ⟨w.heap.size + 2, 0, none⟩) 0 0) ([] : List So.R).length (So.flat [])) := hide (by have := So.own_empty ((w.alloc (.cells #[.slice a k ca, .slice b n cb] 26)).alloc (.cells #[.slice none 0 0, .slice none 0 0] 26)) (w.heap.size + 2) (by omega); rw [hs2] at this; exact (this.alloc _).alloc _)
  have OE0 : Hid (((((((w.alloc (.cells #[.slice a k ca, .slice b n cb] 26)).alloc (.cells #[.slice none 0 0, .slice none 0 0] 26)).alloc (.cells #[] 41)).alloc (.cells #[] 73)).alloc (.cells #[.slice (some ⟨w.heap.size + 2, 0, none⟩) 0 0, .slice (some ⟨w.heap.size + 3, 0, none⟩) 0 0] 26))).ownsRow (w.heap.size + 2) 73 3 (.slice (some ⟨w.heap.size + 3, 0, none⟩) 0 0) ([] : List R).length (Tu.flat [])) := hide (by have := Tu.own_empty ((((w.alloc (.cells #[.slice a k ca, .slice b n cb] 26)).alloc (.cells #[.slice none 0 0, .slice none 0 0] 26))).alloc (.cells #[] 41)) (w.heap.size + 2) (by omega); rw [hs3] at this; exact this.alloc _)
  have HRS := hide hr
  have HRE := hide hr'
  clear hr hr' HA2 HA4 HX0 HZ0 hs2 hs3 hs4
  go_enter Try.func85, Try.ntmps85
  go_wp2_with fail
  generalize hW : (((((w.alloc (.cells #[.slice a k ca, .slice b n cb] 26)).alloc (.cells #[.slice none 0 0, .slice none 0 0] 26)).alloc (.cells #[] 41)).alloc (.cells #[] 73)).alloc (.cells #[.slice (some ⟨w.heap.size + 2, 0, none⟩) 0 0, .slice (some ⟨w.heap.size + 3, 0, none⟩) 0 0] 26)) = W5 at *
  clear hW
  go_loopw [6] (fun i wr => ∃ j : Nat, j ≤ k ∧ i = .int .i64 j ∧ ∃ bv cv : Nat, Hid (((ss.take j).filter (neS frm)).length ≤ cv) ∧ Hid (TV wr (w.heap.size + 4) (.slice (some ⟨bv, 0, none⟩) ((ss.take j).filter (neS frm)).length cv) (.slice (some ⟨w.heap.size + 3, 0, none⟩) 0 0)) ∧ Hid (wr.ownsRow (w.heap.size + 2) 41 3 (.slice (some ⟨bv, 0, none⟩) ((ss.take j).filter (neS frm)).length cv) ((ss.take j).filter (neS frm)).length (So.flat ((ss.take j).filter (neS frm)))) ∧ Hid (wr.ownsRow (w.heap.size + 2) 73 3 (.slice (some ⟨w.heap.size + 3, 0, none⟩) 0 0) ([] : List R).length (Tu.flat [])) ∧ Hid (Below (w.heap.size + 2) W5 wr)) (fun i _ => k - (intOf i).toNat)
  case atStart => exact ⟨0, by omega, rfl, w.heap.size + 2, 0, hide (by simp), HO0, OS0, OE0, hide (Below.refl _ _)⟩
  case round =>
    obtain ⟨j, hj, rfl, bv, cv, hcv, htv, how, hop, hbl⟩ := hrel
    have HXr := hide ((unhide HX).under (unhide hbl) (by omega))
    obtain ⟨z0, z1⟩ := unhide HXr
    have hbs := (unhide hbl).size
    by_cases hlt : (j : Int) < (k : Int)
    · have k0 : (0 : Int) ≤ (j : Int) := by omega
      have hlen : j < ss.length := by rw [unhide HK]; omega
      obtain ⟨G, offx, rfl⟩ := (unhide HRS).form (by omega)
      have hA := ((unhide HRS).below ((unhide HA).trans ((unhide hbl).mono (by omega)))).at hlen
      have HTF := hide (takeS_filter (neS frm) ss j hlen)
      have hfl := filterS_le (neS frm) ss j
      obtain ⟨m, hmd⟩ : ∃ m, ss.getD j So.R.zero = m := ⟨_, rfl⟩
      have HMD := hide hmd
      rw [hmd] at hA HTF
      clear hmd
      obtain ⟨ad, an, til⟩ := m
      have HAt := hide hA
      obtain ⟨c0, c1, c2⟩ := hA
      dsimp only at c0 c1 c2
      cases hk : (ad == frm)
      · rw [show neS frm ⟨ad, an, til⟩ = true by unfold neS; dsimp only; rw [hk]; rfl, if_pos rfl] at HTF
        have hkn : (ad != frm) = true := by simp [bne, hk]
        clear hk
        have hvne : (.slice (some ⟨bv, 0, none⟩) ((ss.take j).filter (neS frm)).length cv : Value) ≠ .slice none 0 0 := by simp
        go_wp2_with fail
        clear c0 c1 c2 z0 z1
        refine wp_region_noPanic ?_
        refine wp_region_held_drew (S := fun w' => (So.At w' G (offx + j * 3) ⟨ad, an, til⟩ ∧ Bx2 w' w.heap.size (.slice (some ⟨G, offx, none⟩) k ca) (.slice b n cb)) ∧ w'.cell? ⟨G, offx + j * 3, none⟩ = some (.int .i64 ad) ∧ w'.cell? ⟨G, offx + j * 3 + 1, none⟩ = some (.int .i64 an) ∧ w'.cell? ⟨G, offx + j * 3 + 2, none⟩ = some (.int .i64 til) ∧ w'.cell? ⟨w.heap.size, 0, none⟩ = some ((.slice (some ⟨G, offx, none⟩) k ca))) (by kernel_rfl) (sSox ((unhide HAt).drew) ((unhide HXr).drew)) (fun hHeld => ?_)
        (refine Rg.tk (i := 0) (d := 26) (v := ?_) rfl rfl (by kernel_rfl) (by kernel_rfl) (by kernel_rfl) (fun _ _ _ h => h) (by rfl) ?_ (by assumption) ?_; rotate_left; (focus (intro w0 hSw; (try dsimp only at hSw); go_simp; (try with_reducible rfl))); (try simp only [Act.put, List.setIfInBounds_toArray, List.set_cons_zero, List.set_cons_succ]))
        (refine Rg.tk (i := 2) (d := 28) (v := ?_) rfl rfl (by kernel_rfl) (by kernel_rfl) (by kernel_rfl) (fun _ _ _ h => h) (by rfl) ?_ (by assumption) ?_; rotate_left; (focus (intro w0 hSw; (try dsimp only at hSw); go_simp; (try with_reducible rfl))); (try simp only [Act.put, List.setIfInBounds_toArray, List.set_cons_zero, List.set_cons_succ]))
        (refine Rg.tk (i := 3) (d := 29) (v := ?_) rfl rfl (by kernel_rfl) (by kernel_rfl) (by kernel_rfl) (fun _ _ _ h => h) (by rfl) ?_ (by assumption) ?_; rotate_left; (focus (intro w0 hSw; (try dsimp only at hSw); go_simp; (try with_reducible rfl))); (try simp only [Act.put, List.setIfInBounds_toArray, List.set_cons_zero, List.set_cons_succ]))
        (refine Rg.tk (i := 4) (d := 30) (v := ?_) rfl rfl (by kernel_rfl) (by kernel_rfl) (by kernel_rfl) (fun _ _ _ h => h) (by rfl) ?_ (by assumption) ?_; rotate_left; (focus (intro w0 hSw; (try dsimp only at hSw); go_simp; (try with_reducible rfl))); (try simp only [Act.put, List.setIfInBounds_toArray, List.set_cons_zero, List.set_cons_succ]))
        (refine Rg.tk (i := 5) (d := 31) (v := ?_) rfl rfl (by kernel_rfl) (by kernel_rfl) (by kernel_rfl) (fun _ _ _ h => h) (by rfl) ?_ (by assumption) ?_; rotate_left; (focus (intro w0 hSw; (try dsimp only at hSw); go_simp; (try with_reducible rfl))); (try simp only [Act.put, List.setIfInBounds_toArray, List.set_cons_zero, List.set_cons_succ]))
        (refine Rg.tk (i := 6) (d := 32) (v := ?_) rfl rfl (by kernel_rfl) (by kernel_rfl) (by kernel_rfl) (fun _ _ _ h => h) (by rfl) ?_ (by assumption) ?_; rotate_left; (focus (intro w0 hSw; (try dsimp only at hSw); go_simp; (try with_reducible rfl))); (try simp only [Act.put, List.setIfInBounds_toArray, List.set_cons_zero, List.set_cons_succ]))
        (refine wpAnyH_ready (rs := [1, 7]) (by kernel_rfl) (by simp) ?_; refine AllReadyH.cons (o := _) rfl (fun K hK => ?_) (AllReadyH.cons (o := _) rfl (fun K hK => ?_) AllReadyH.nil))
        · obtain ⟨x0, x1⟩ := (unhide htv).bx
          go_simp
          clear x0 x1 hHeld
          refine hK.out _ _ (sSox ((unhide HAt).drew) ((unhide HXr).drew)) (fun hHeld => ?_)
          clear hK K
          (try simp only [Act.put, List.setIfInBounds_toArray, List.set_cons_zero, List.set_cons_succ])
          (refine wpAnyH_ready (rs := [7]) (by kernel_rfl) (by simp) ?_; refine AllReadyH.cons (o := _) rfl (fun K hK => ?_) AllReadyH.nil; go_simp)
          have b3 : Below wr.heap.size wr (wr.alloc (.cells #[.int .i64 ad, .int .i64 an, .int .i64 til] 41)).drew := ((Below.refl _ _).alloc (Nat.le_refl _) _).drew
          have HO3 : Hid ((wr.alloc (.cells #[.int .i64 ad, .int .i64 an, .int .i64 til] 41)).drew.ownsRow (w.heap.size + 2) 41 3 (.slice (some ⟨bv, 0, none⟩) ((ss.take j).filter (neS frm)).length cv) ((ss.take j).filter (neS frm)).length (So.flat ((ss.take j).filter (neS frm)))) := hide ((unhide how).alloc _).drew
          have HP3 := hide (keepTb (unhide hop) b3)
          have HT3 := hide ((unhide htv).below b3)
          have HN3 : Hid (So.RM (wr.alloc (.cells #[.int .i64 ad, .int .i64 an, .int .i64 til] 41)).drew (some ⟨wr.heap.size, 0, none⟩) [⟨ad, an, til⟩]) := hide (So.rm_new wr ⟨ad, an, til⟩).drew
          have HB3 := hide ((unhide hbl).trans (b3.mono (by omega)))
          have hs3 : w.heap.size + 2 ≤ (wr.alloc (.cells #[.int .i64 ad, .int .i64 an, .int .i64 til] 41)).drew.heap.size := by show _ ≤ (wr.alloc (.cells #[.int .i64 ad, .int .i64 an, .int .i64 til] 41)).heap.size; simp; omega
          have HS3 := hide (sSox ((unhide HAt).below b3) ((unhide HXr).below b3))
          clear b3 hHeld
          generalize hW3 : (wr.alloc (.cells #[.int .i64 ad, .int .i64 an, .int .i64 til] 41)).drew = w3 at *
          clear hW3
          refine hK.out _ _ (unhide HS3) (fun hHeld => ?_)
          clear hK K
          (try simp only [Act.put, List.setIfInBounds_toArray, List.set_cons_zero, List.set_cons_succ])

          (refine wpAnyH_ready (rs := [8]) (by kernel_rfl) (by simp) ?_; refine AllReadyH.cons (o := _) rfl (fun K hK => ?_) AllReadyH.nil; rw [if_pos (by rfl)])
          refine apGSo (unhide HO3) hvne wr.heap.size 0 1 1 [⟨ad, an, til⟩] rfl (unhide HN3) (by simp only [List.length_cons, List.length_nil]; omega) hs3 _ _ rfl rfl rfl rfl ?_
          intro b' c' w4 ho hc hg
          rw [← unhide HTF] at ho hc ⊢
          have HO4 := hide ho
          have HC4 := hide hc
          have HB4 := hide (So.below_own (unhide HB3) (unhide HO3) hg (by omega) hs3)
          have HT4 := hide ((unhide HT3).grown hg (tv_rowSo (unhide HT3) (unhide HO3)))
          have HP4 := hide (keepT (unhide HP3) hg (rows_se (unhide HO3) (unhide HP3)))
          clear ho hc hg hHeld
          refine hK.out _ _ (sSox (((unhide HRS).below ((unhide HA).trans ((unhide HB4).mono (by omega)))).at hlen |> fun h => by rw [unhide HMD] at h; exact h) ((unhide HX).under (unhide HB4) (by omega))) (fun hHeld => ?_)
          clear hK K
          (try simp only [Act.put, List.setIfInBounds_toArray, List.set_cons_zero, List.set_cons_succ])
          (refine Rg.tk (i := 9) (d := 35) (v := ?_) rfl rfl (by kernel_rfl) (by kernel_rfl) (by kernel_rfl) (fun _ _ _ h => h) (by rfl) ?_ (by assumption) ?_; rotate_left; (focus (intro w0 hSw; (try dsimp only at hSw); go_simp; (try with_reducible rfl))); (try simp only [Act.put, List.setIfInBounds_toArray, List.set_cons_zero, List.set_cons_succ]))
          obtain ⟨x0, x1⟩ := (unhide HT4).bx
          have f0 := (unhide HT4).free 0
          (refine wpAnyH_ready (rs := [10]) (by kernel_rfl) (by simp) ?_; refine AllReadyH.cons (o := _) rfl (fun K hK => ?_) AllReadyH.nil; go_simp)
          have HB5 := hide ((unhide HB4).setCell (p := ⟨w.heap.size + 4, 0, none⟩) (by show w.heap.size + 2 ≤ w.heap.size + 4; omega) (.slice (some ⟨b', 0, none⟩) ((ss.take (j + 1)).filter (neS frm)).length c'))
          have HT5 := hide ((unhide HT4).set0 (.slice (some ⟨b', 0, none⟩) ((ss.take (j + 1)).filter (neS frm)).length c'))
          have HO5 := hide (ownsRow_setCell_other (unhide HO4) (a := ⟨w.heap.size + 4, 0, none⟩) (fun e => tv_rowSo (unhide HT4) (unhide HO4) e.symm) (.slice (some ⟨b', 0, none⟩) ((ss.take (j + 1)).filter (neS frm)).length c'))
          have HP5 := hide (ownsRow_setCell_other (unhide HP4) (a := ⟨w.heap.size + 4, 0, none⟩) (fun e => tv_rowTu (unhide HT4) (unhide HP4) e.symm) (.slice (some ⟨b', 0, none⟩) ((ss.take (j + 1)).filter (neS frm)).length c'))
          clear hHeld x0 x1 f0
          generalize hW5 : w4.setCell ⟨w.heap.size + 4, 0, none⟩ (.slice (some ⟨b', 0, none⟩) ((ss.take (j + 1)).filter (neS frm)).length c') = w5 at *
          clear hW5
          refine hK.out _ _ (sSox (((unhide HRS).below ((unhide HA).trans ((unhide HB5).mono (by omega)))).at hlen |> fun h => by rw [unhide HMD] at h; exact h) ((unhide HX).under (unhide HB5) (by omega))) (fun hHeld => ?_)
          clear hK K
          (try simp only [Act.put, List.setIfInBounds_toArray, List.set_cons_zero, List.set_cons_succ])
          refine wpAnyH_done (by kernel_rfl) (NoPanic.normal ?_) _
          clear hHeld
          go_wp2_with fail
          go_roundw
          case rel => exact ⟨j + 1, by omega, by go_num, b', c', HC4, HT5, HO5, HP5, HB5⟩
          case measure => simp [intOf]; omega
        · go_simp
          have b3 : Below wr.heap.size wr (wr.alloc (.cells #[.int .i64 ad, .int .i64 an, .int .i64 til] 41)).drew := ((Below.refl _ _).alloc (Nat.le_refl _) _).drew
          have HO3 : Hid ((wr.alloc (.cells #[.int .i64 ad, .int .i64 an, .int .i64 til] 41)).drew.ownsRow (w.heap.size + 2) 41 3 (.slice (some ⟨bv, 0, none⟩) ((ss.take j).filter (neS frm)).length cv) ((ss.take j).filter (neS frm)).length (So.flat ((ss.take j).filter (neS frm)))) := hide ((unhide how).alloc _).drew
          have HP3 := hide (keepTb (unhide hop) b3)
          have HT3 := hide ((unhide htv).below b3)
          have HN3 : Hid (So.RM (wr.alloc (.cells #[.int .i64 ad, .int .i64 an, .int .i64 til] 41)).drew (some ⟨wr.heap.size, 0, none⟩) [⟨ad, an, til⟩]) := hide (So.rm_new wr ⟨ad, an, til⟩).drew
          have HB3 := hide ((unhide hbl).trans (b3.mono (by omega)))
          have hs3 : w.heap.size + 2 ≤ (wr.alloc (.cells #[.int .i64 ad, .int .i64 an, .int .i64 til] 41)).drew.heap.size := by show _ ≤ (wr.alloc (.cells #[.int .i64 ad, .int .i64 an, .int .i64 til] 41)).heap.size; simp; omega
          have HS3 := hide (sSox ((unhide HAt).below b3) ((unhide HXr).below b3))
          clear b3 hHeld
          generalize hW3 : (wr.alloc (.cells #[.int .i64 ad, .int .i64 an, .int .i64 til] 41)).drew = w3 at *
          clear hW3
          refine hK.out _ _ (unhide HS3) (fun hHeld => ?_)
          clear hK K
          (try simp only [Act.put, List.setIfInBounds_toArray, List.set_cons_zero, List.set_cons_succ])
          obtain ⟨x0, x1⟩ := (unhide HT3).bx
          (refine wpAnyH_ready (rs := [1]) (by kernel_rfl) (by simp) ?_; refine AllReadyH.cons (o := _) rfl (fun K hK => ?_) AllReadyH.nil; go_simp)
          clear x0 x1 hHeld
          refine hK.out _ _ (unhide HS3) (fun hHeld => ?_)
          clear hK K
          (try simp only [Act.put, List.setIfInBounds_toArray, List.set_cons_zero, List.set_cons_succ])

          (refine wpAnyH_ready (rs := [8]) (by kernel_rfl) (by simp) ?_; refine AllReadyH.cons (o := _) rfl (fun K hK => ?_) AllReadyH.nil; rw [if_pos (by rfl)])
          refine apGSo (unhide HO3) hvne wr.heap.size 0 1 1 [⟨ad, an, til⟩] rfl (unhide HN3) (by simp only [List.length_cons, List.length_nil]; omega) hs3 _ _ rfl rfl rfl rfl ?_
          intro b' c' w4 ho hc hg
          rw [← unhide HTF] at ho hc ⊢
          have HO4 := hide ho
          have HC4 := hide hc
          have HB4 := hide (So.below_own (unhide HB3) (unhide HO3) hg (by omega) hs3)
          have HT4 := hide ((unhide HT3).grown hg (tv_rowSo (unhide HT3) (unhide HO3)))
          have HP4 := hide (keepT (unhide HP3) hg (rows_se (unhide HO3) (unhide HP3)))
          clear ho hc hg hHeld
          refine hK.out _ _ (sSox (((unhide HRS).below ((unhide HA).trans ((unhide HB4).mono (by omega)))).at hlen |> fun h => by rw [unhide HMD] at h; exact h) ((unhide HX).under (unhide HB4) (by omega))) (fun hHeld => ?_)
          clear hK K
          (try simp only [Act.put, List.setIfInBounds_toArray, List.set_cons_zero, List.set_cons_succ])
          (refine Rg.tk (i := 9) (d := 35) (v := ?_) rfl rfl (by kernel_rfl) (by kernel_rfl) (by kernel_rfl) (fun _ _ _ h => h) (by rfl) ?_ (by assumption) ?_; rotate_left; (focus (intro w0 hSw; (try dsimp only at hSw); go_simp; (try with_reducible rfl))); (try simp only [Act.put, List.setIfInBounds_toArray, List.set_cons_zero, List.set_cons_succ]))
          obtain ⟨x0, x1⟩ := (unhide HT4).bx
          have f0 := (unhide HT4).free 0
          (refine wpAnyH_ready (rs := [10]) (by kernel_rfl) (by simp) ?_; refine AllReadyH.cons (o := _) rfl (fun K hK => ?_) AllReadyH.nil; go_simp)
          have HB5 := hide ((unhide HB4).setCell (p := ⟨w.heap.size + 4, 0, none⟩) (by show w.heap.size + 2 ≤ w.heap.size + 4; omega) (.slice (some ⟨b', 0, none⟩) ((ss.take (j + 1)).filter (neS frm)).length c'))
          have HT5 := hide ((unhide HT4).set0 (.slice (some ⟨b', 0, none⟩) ((ss.take (j + 1)).filter (neS frm)).length c'))
          have HO5 := hide (ownsRow_setCell_other (unhide HO4) (a := ⟨w.heap.size + 4, 0, none⟩) (fun e => tv_rowSo (unhide HT4) (unhide HO4) e.symm) (.slice (some ⟨b', 0, none⟩) ((ss.take (j + 1)).filter (neS frm)).length c'))
          have HP5 := hide (ownsRow_setCell_other (unhide HP4) (a := ⟨w.heap.size + 4, 0, none⟩) (fun e => tv_rowTu (unhide HT4) (unhide HP4) e.symm) (.slice (some ⟨b', 0, none⟩) ((ss.take (j + 1)).filter (neS frm)).length c'))
          clear hHeld x0 x1 f0
          generalize hW5 : w4.setCell ⟨w.heap.size + 4, 0, none⟩ (.slice (some ⟨b', 0, none⟩) ((ss.take (j + 1)).filter (neS frm)).length c') = w5 at *
          clear hW5
          refine hK.out _ _ (sSox (((unhide HRS).below ((unhide HA).trans ((unhide HB5).mono (by omega)))).at hlen |> fun h => by rw [unhide HMD] at h; exact h) ((unhide HX).under (unhide HB5) (by omega))) (fun hHeld => ?_)
          clear hK K
          (try simp only [Act.put, List.setIfInBounds_toArray, List.set_cons_zero, List.set_cons_succ])
          refine wpAnyH_done (by kernel_rfl) (NoPanic.normal ?_) _
          clear hHeld
          go_wp2_with fail
          go_roundw
          case rel => exact ⟨j + 1, by omega, by go_num, b', c', HC4, HT5, HO5, HP5, HB5⟩
          case measure => simp [intOf]; omega
      · rw [show neS frm ⟨ad, an, til⟩ = false by unfold neS; dsimp only; rw [hk]; rfl, if_neg (by simp), List.append_nil] at HTF
        have hkn : (ad != frm) = false := by simp [bne, hk]
        clear hk
        rw [← unhide HTF] at hcv htv how
        go_wp2_with fail
        go_roundw
        case rel => exact ⟨j + 1, by omega, by go_num, bv, cv, hcv, htv, how, hop, hbl⟩
        case measure => simp [intOf]; omega
    · obtain rfl : k = j := by omega
      rw [show ss.take k = ss from List.take_of_length_le (by rw [unhide HK]; exact Nat.le_refl _)] at hcv htv how
      obtain ⟨bs, hbse⟩ : ∃ bs, bv = bs := ⟨_, rfl⟩
      obtain ⟨cs, hcse⟩ : ∃ cs, cv = cs := ⟨_, rfl⟩
      rw [hbse, hcse] at htv how
      rw [hcse] at hcv
      clear hbse hcse
      have HCS := hcv
      go_wp2_with fail
      clear z0 z1
      go_loopw [7] (fun i wr => ∃ j : Nat, j ≤ n ∧ i = .int .i64 j ∧ ∃ bv cv : Nat, Hid (((es.take j).filter (keepF frm)).length ≤ cv) ∧ Hid (TV wr (w.heap.size + 4) (.slice (some ⟨bs, 0, none⟩) (ss.filter (neS frm)).length cs) (.slice (some ⟨bv, 0, none⟩) ((es.take j).filter (keepF frm)).length cv)) ∧ Hid (wr.ownsRow (w.heap.size + 2) 73 3 (.slice (some ⟨bv, 0, none⟩) ((es.take j).filter (keepF frm)).length cv) ((es.take j).filter (keepF frm)).length (Tu.flat ((es.take j).filter (keepF frm)))) ∧ Hid (wr.ownsRow (w.heap.size + 2) 41 3 (.slice (some ⟨bs, 0, none⟩) (ss.filter (neS frm)).length cs) (ss.filter (neS frm)).length (So.flat (ss.filter (neS frm)))) ∧ Hid (Below (w.heap.size + 2) W5 wr)) (fun i _ => n - (intOf i).toNat)
      case atStart => exact ⟨0, by omega, rfl, w.heap.size + 3, 0, hide (by simp), htv, hop, how, hbl⟩
      case round =>
        clear htv how hop hbl HXr hbs hlt
        obtain ⟨j, hj, rfl, bv, cv, hcv, htv, how, hop, hbl⟩ := hrel
        have HXr := hide ((unhide HX).under (unhide hbl) (by omega))
        obtain ⟨z0, z1⟩ := unhide HXr
        have hbs := (unhide hbl).size
        by_cases hlt : (j : Int) < (n : Int)
        · have k0 : (0 : Int) ≤ (j : Int) := by omega
          have hlen : j < es.length := by rw [unhide HN]; omega
          obtain ⟨G, offx, rfl⟩ := (unhide HRE).form (by omega)
          have hA := ((unhide HRE).below ((unhide HA).trans ((unhide hbl).mono (by omega)))).at hlen
          have HTF := hide (takeT_filter (keepF frm) es j hlen)
          have hfl := filterT_le (keepF frm) es j
          have hbd := ok_bounds (setB_ok (two_set (unhide HTE)) hlen)
          obtain ⟨m, hmd⟩ : ∃ m, es.getD j R.zero = m := ⟨_, rfl⟩
          have HMD := hide hmd
          rw [hmd] at hA HTF hbd
          clear hmd
          obtain ⟨key, til, val⟩ := m
          have HAt := hide hA
          obtain ⟨c0, c1, c2⟩ := hA
          dsimp only at c0 c1 c2 hbd
          have e1 : key.tdiv 100 = key / 100 := Int.tdiv_eq_ediv_of_nonneg (by omega)
          have hvm : keepF frm ⟨key, til, val⟩ = !(key / 100 == frm) := by unfold keepF hv; dsimp only; rw [e1]
          clear e1
          cases hk : (key / 100 == frm)
          · rw [if_pos (by rw [hvm, hk]; rfl)] at HTF
            have hkn : (key / 100 != frm) = true := by simp [bne, hk]
            clear hk hvm
            have hvne : (.slice (some ⟨bv, 0, none⟩) ((es.take j).filter (keepF frm)).length cv : Value) ≠ .slice none 0 0 := by simp
            go_wp2_with fail
            clear c0 c1 c2 z0 z1
            refine wp_region_noPanic ?_
            refine wp_region_held_drew (S := fun w' => (Tu.At w' G (offx + j * 3) ⟨key, til, val⟩ ∧ Bx2 w' w.heap.size (.slice a k ca) (.slice (some ⟨G, offx, none⟩) n cb)) ∧ w'.cell? ⟨G, offx + j * 3, none⟩ = some (.int .i64 key) ∧ w'.cell? ⟨G, offx + j * 3 + 1, none⟩ = some (.int .i64 til) ∧ w'.cell? ⟨G, offx + j * 3 + 2, none⟩ = some (.int .i64 val) ∧ w'.cell? ⟨w.heap.size, 1, none⟩ = some ((.slice (some ⟨G, offx, none⟩) n cb))) (by kernel_rfl) (sTux ((unhide HAt).drew) ((unhide HXr).drew)) (fun hHeld => ?_)
            (refine Rg.tk (i := 0) (d := 52) (v := ?_) rfl rfl (by kernel_rfl) (by kernel_rfl) (by kernel_rfl) (fun _ _ _ h => h) (by rfl) ?_ (by assumption) ?_; rotate_left; (focus (intro w0 hSw; (try dsimp only at hSw); go_simp; (try with_reducible rfl))); (try simp only [Act.put, List.setIfInBounds_toArray, List.set_cons_zero, List.set_cons_succ]))
            (refine Rg.tk (i := 2) (d := 54) (v := ?_) rfl rfl (by kernel_rfl) (by kernel_rfl) (by kernel_rfl) (fun _ _ _ h => h) (by rfl) ?_ (by assumption) ?_; rotate_left; (focus (intro w0 hSw; (try dsimp only at hSw); go_simp; (try with_reducible rfl))); (try simp only [Act.put, List.setIfInBounds_toArray, List.set_cons_zero, List.set_cons_succ]))
            (refine Rg.tk (i := 3) (d := 55) (v := ?_) rfl rfl (by kernel_rfl) (by kernel_rfl) (by kernel_rfl) (fun _ _ _ h => h) (by rfl) ?_ (by assumption) ?_; rotate_left; (focus (intro w0 hSw; (try dsimp only at hSw); go_simp; (try with_reducible rfl))); (try simp only [Act.put, List.setIfInBounds_toArray, List.set_cons_zero, List.set_cons_succ]))
            (refine Rg.tk (i := 4) (d := 56) (v := ?_) rfl rfl (by kernel_rfl) (by kernel_rfl) (by kernel_rfl) (fun _ _ _ h => h) (by rfl) ?_ (by assumption) ?_; rotate_left; (focus (intro w0 hSw; (try dsimp only at hSw); go_simp; (try with_reducible rfl))); (try simp only [Act.put, List.setIfInBounds_toArray, List.set_cons_zero, List.set_cons_succ]))
            (refine Rg.tk (i := 5) (d := 57) (v := ?_) rfl rfl (by kernel_rfl) (by kernel_rfl) (by kernel_rfl) (fun _ _ _ h => h) (by rfl) ?_ (by assumption) ?_; rotate_left; (focus (intro w0 hSw; (try dsimp only at hSw); go_simp; (try with_reducible rfl))); (try simp only [Act.put, List.setIfInBounds_toArray, List.set_cons_zero, List.set_cons_succ]))
            (refine Rg.tk (i := 6) (d := 58) (v := ?_) rfl rfl (by kernel_rfl) (by kernel_rfl) (by kernel_rfl) (fun _ _ _ h => h) (by rfl) ?_ (by assumption) ?_; rotate_left; (focus (intro w0 hSw; (try dsimp only at hSw); go_simp; (try with_reducible rfl))); (try simp only [Act.put, List.setIfInBounds_toArray, List.set_cons_zero, List.set_cons_succ]))
            (refine wpAnyH_ready (rs := [1, 7]) (by kernel_rfl) (by simp) ?_; refine AllReadyH.cons (o := _) rfl (fun K hK => ?_) (AllReadyH.cons (o := _) rfl (fun K hK => ?_) AllReadyH.nil))
            · obtain ⟨x0, x1⟩ := (unhide htv).bx
              go_simp
              clear x0 x1 hHeld
              refine hK.out _ _ (sTux ((unhide HAt).drew) ((unhide HXr).drew)) (fun hHeld => ?_)
              clear hK K
              (try simp only [Act.put, List.setIfInBounds_toArray, List.set_cons_zero, List.set_cons_succ])
              (refine wpAnyH_ready (rs := [7]) (by kernel_rfl) (by simp) ?_; refine AllReadyH.cons (o := _) rfl (fun K hK => ?_) AllReadyH.nil; go_simp)
              have b3 : Below wr.heap.size wr (wr.alloc (.cells #[.int .i64 key, .int .i64 til, .int .i64 val] 73)).drew := ((Below.refl _ _).alloc (Nat.le_refl _) _).drew
              have HO3 : Hid ((wr.alloc (.cells #[.int .i64 key, .int .i64 til, .int .i64 val] 73)).drew.ownsRow (w.heap.size + 2) 73 3 (.slice (some ⟨bv, 0, none⟩) ((es.take j).filter (keepF frm)).length cv) ((es.take j).filter (keepF frm)).length (Tu.flat ((es.take j).filter (keepF frm)))) := hide ((unhide how).alloc _).drew
              have HP3 := hide (keepSb (unhide hop) b3)
              have HT3 := hide ((unhide htv).below b3)
              have HN3 : Hid (Tu.RM (wr.alloc (.cells #[.int .i64 key, .int .i64 til, .int .i64 val] 73)).drew (some ⟨wr.heap.size, 0, none⟩) [⟨key, til, val⟩]) := hide (Tu.rm_new wr ⟨key, til, val⟩).drew
              have HB3 := hide ((unhide hbl).trans (b3.mono (by omega)))
              have hs3 : w.heap.size + 2 ≤ (wr.alloc (.cells #[.int .i64 key, .int .i64 til, .int .i64 val] 73)).drew.heap.size := by show _ ≤ (wr.alloc (.cells #[.int .i64 key, .int .i64 til, .int .i64 val] 73)).heap.size; simp; omega
              have HS3 := hide (sTux ((unhide HAt).below b3) ((unhide HXr).below b3))
              clear b3 hHeld
              generalize hW3 : (wr.alloc (.cells #[.int .i64 key, .int .i64 til, .int .i64 val] 73)).drew = w3 at *
              clear hW3
              refine hK.out _ _ (unhide HS3) (fun hHeld => ?_)
              clear hK K
              (try simp only [Act.put, List.setIfInBounds_toArray, List.set_cons_zero, List.set_cons_succ])

              (refine wpAnyH_ready (rs := [8]) (by kernel_rfl) (by simp) ?_; refine AllReadyH.cons (o := _) rfl (fun K hK => ?_) AllReadyH.nil; rw [if_pos (by rfl)])
              refine apGTu (unhide HO3) hvne wr.heap.size 0 1 1 [⟨key, til, val⟩] rfl (unhide HN3) (by simp only [List.length_cons, List.length_nil]; omega) hs3 _ _ rfl rfl rfl rfl ?_
              intro b' c' w4 ho hc hg
              rw [← unhide HTF] at ho hc ⊢
              have HO4 := hide ho
              have HC4 := hide hc
              have HB4 := hide (Tu.below_own (unhide HB3) (unhide HO3) hg (by omega) hs3)
              have HT4 := hide ((unhide HT3).grown hg (tv_rowTu (unhide HT3) (unhide HO3)))
              have HP4 := hide (keepS (unhide HP3) hg (rows_es (unhide HO3) (unhide HP3)))
              clear ho hc hg hHeld
              refine hK.out _ _ (sTux (((unhide HRE).below ((unhide HA).trans ((unhide HB4).mono (by omega)))).at hlen |> fun h => by rw [unhide HMD] at h; exact h) ((unhide HX).under (unhide HB4) (by omega))) (fun hHeld => ?_)
              clear hK K
              (try simp only [Act.put, List.setIfInBounds_toArray, List.set_cons_zero, List.set_cons_succ])
              (refine Rg.tk (i := 9) (d := 61) (v := ?_) rfl rfl (by kernel_rfl) (by kernel_rfl) (by kernel_rfl) (fun _ _ _ h => h) (by rfl) ?_ (by assumption) ?_; rotate_left; (focus (intro w0 hSw; (try dsimp only at hSw); go_simp; (try with_reducible rfl))); (try simp only [Act.put, List.setIfInBounds_toArray, List.set_cons_zero, List.set_cons_succ]))
              obtain ⟨x0, x1⟩ := (unhide HT4).bx
              have f0 := (unhide HT4).free 1
              (refine wpAnyH_ready (rs := [10]) (by kernel_rfl) (by simp) ?_; refine AllReadyH.cons (o := _) rfl (fun K hK => ?_) AllReadyH.nil; go_simp)
              have HB5 := hide ((unhide HB4).setCell (p := ⟨w.heap.size + 4, 1, none⟩) (by show w.heap.size + 2 ≤ w.heap.size + 4; omega) (.slice (some ⟨b', 0, none⟩) ((es.take (j + 1)).filter (keepF frm)).length c'))
              have HT5 := hide ((unhide HT4).set1 (.slice (some ⟨b', 0, none⟩) ((es.take (j + 1)).filter (keepF frm)).length c'))
              have HO5 := hide (ownsRow_setCell_other (unhide HO4) (a := ⟨w.heap.size + 4, 1, none⟩) (fun e => tv_rowTu (unhide HT4) (unhide HO4) e.symm) (.slice (some ⟨b', 0, none⟩) ((es.take (j + 1)).filter (keepF frm)).length c'))
              have HP5 := hide (ownsRow_setCell_other (unhide HP4) (a := ⟨w.heap.size + 4, 1, none⟩) (fun e => tv_rowSo (unhide HT4) (unhide HP4) e.symm) (.slice (some ⟨b', 0, none⟩) ((es.take (j + 1)).filter (keepF frm)).length c'))
              clear hHeld x0 x1 f0
              generalize hW5 : w4.setCell ⟨w.heap.size + 4, 1, none⟩ (.slice (some ⟨b', 0, none⟩) ((es.take (j + 1)).filter (keepF frm)).length c') = w5 at *
              clear hW5
              refine hK.out _ _ (sTux (((unhide HRE).below ((unhide HA).trans ((unhide HB5).mono (by omega)))).at hlen |> fun h => by rw [unhide HMD] at h; exact h) ((unhide HX).under (unhide HB5) (by omega))) (fun hHeld => ?_)
              clear hK K
              (try simp only [Act.put, List.setIfInBounds_toArray, List.set_cons_zero, List.set_cons_succ])
              refine wpAnyH_done (by kernel_rfl) (NoPanic.normal ?_) _
              clear hHeld
              go_wp2_with fail
              go_roundw
              case rel => exact ⟨j + 1, by omega, by go_num, b', c', HC4, HT5, HO5, HP5, HB5⟩
              case measure => simp [intOf]; omega
            · go_simp
              have b3 : Below wr.heap.size wr (wr.alloc (.cells #[.int .i64 key, .int .i64 til, .int .i64 val] 73)).drew := ((Below.refl _ _).alloc (Nat.le_refl _) _).drew
              have HO3 : Hid ((wr.alloc (.cells #[.int .i64 key, .int .i64 til, .int .i64 val] 73)).drew.ownsRow (w.heap.size + 2) 73 3 (.slice (some ⟨bv, 0, none⟩) ((es.take j).filter (keepF frm)).length cv) ((es.take j).filter (keepF frm)).length (Tu.flat ((es.take j).filter (keepF frm)))) := hide ((unhide how).alloc _).drew
              have HP3 := hide (keepSb (unhide hop) b3)
              have HT3 := hide ((unhide htv).below b3)
              have HN3 : Hid (Tu.RM (wr.alloc (.cells #[.int .i64 key, .int .i64 til, .int .i64 val] 73)).drew (some ⟨wr.heap.size, 0, none⟩) [⟨key, til, val⟩]) := hide (Tu.rm_new wr ⟨key, til, val⟩).drew
              have HB3 := hide ((unhide hbl).trans (b3.mono (by omega)))
              have hs3 : w.heap.size + 2 ≤ (wr.alloc (.cells #[.int .i64 key, .int .i64 til, .int .i64 val] 73)).drew.heap.size := by show _ ≤ (wr.alloc (.cells #[.int .i64 key, .int .i64 til, .int .i64 val] 73)).heap.size; simp; omega
              have HS3 := hide (sTux ((unhide HAt).below b3) ((unhide HXr).below b3))
              clear b3 hHeld
              generalize hW3 : (wr.alloc (.cells #[.int .i64 key, .int .i64 til, .int .i64 val] 73)).drew = w3 at *
              clear hW3
              refine hK.out _ _ (unhide HS3) (fun hHeld => ?_)
              clear hK K
              (try simp only [Act.put, List.setIfInBounds_toArray, List.set_cons_zero, List.set_cons_succ])
              obtain ⟨x0, x1⟩ := (unhide HT3).bx
              (refine wpAnyH_ready (rs := [1]) (by kernel_rfl) (by simp) ?_; refine AllReadyH.cons (o := _) rfl (fun K hK => ?_) AllReadyH.nil; go_simp)
              clear x0 x1 hHeld
              refine hK.out _ _ (unhide HS3) (fun hHeld => ?_)
              clear hK K
              (try simp only [Act.put, List.setIfInBounds_toArray, List.set_cons_zero, List.set_cons_succ])

              (refine wpAnyH_ready (rs := [8]) (by kernel_rfl) (by simp) ?_; refine AllReadyH.cons (o := _) rfl (fun K hK => ?_) AllReadyH.nil; rw [if_pos (by rfl)])
              refine apGTu (unhide HO3) hvne wr.heap.size 0 1 1 [⟨key, til, val⟩] rfl (unhide HN3) (by simp only [List.length_cons, List.length_nil]; omega) hs3 _ _ rfl rfl rfl rfl ?_
              intro b' c' w4 ho hc hg
              rw [← unhide HTF] at ho hc ⊢
              have HO4 := hide ho
              have HC4 := hide hc
              have HB4 := hide (Tu.below_own (unhide HB3) (unhide HO3) hg (by omega) hs3)
              have HT4 := hide ((unhide HT3).grown hg (tv_rowTu (unhide HT3) (unhide HO3)))
              have HP4 := hide (keepS (unhide HP3) hg (rows_es (unhide HO3) (unhide HP3)))
              clear ho hc hg hHeld
              refine hK.out _ _ (sTux (((unhide HRE).below ((unhide HA).trans ((unhide HB4).mono (by omega)))).at hlen |> fun h => by rw [unhide HMD] at h; exact h) ((unhide HX).under (unhide HB4) (by omega))) (fun hHeld => ?_)
              clear hK K
              (try simp only [Act.put, List.setIfInBounds_toArray, List.set_cons_zero, List.set_cons_succ])
              (refine Rg.tk (i := 9) (d := 61) (v := ?_) rfl rfl (by kernel_rfl) (by kernel_rfl) (by kernel_rfl) (fun _ _ _ h => h) (by rfl) ?_ (by assumption) ?_; rotate_left; (focus (intro w0 hSw; (try dsimp only at hSw); go_simp; (try with_reducible rfl))); (try simp only [Act.put, List.setIfInBounds_toArray, List.set_cons_zero, List.set_cons_succ]))
              obtain ⟨x0, x1⟩ := (unhide HT4).bx
              have f0 := (unhide HT4).free 1
              (refine wpAnyH_ready (rs := [10]) (by kernel_rfl) (by simp) ?_; refine AllReadyH.cons (o := _) rfl (fun K hK => ?_) AllReadyH.nil; go_simp)
              have HB5 := hide ((unhide HB4).setCell (p := ⟨w.heap.size + 4, 1, none⟩) (by show w.heap.size + 2 ≤ w.heap.size + 4; omega) (.slice (some ⟨b', 0, none⟩) ((es.take (j + 1)).filter (keepF frm)).length c'))
              have HT5 := hide ((unhide HT4).set1 (.slice (some ⟨b', 0, none⟩) ((es.take (j + 1)).filter (keepF frm)).length c'))
              have HO5 := hide (ownsRow_setCell_other (unhide HO4) (a := ⟨w.heap.size + 4, 1, none⟩) (fun e => tv_rowTu (unhide HT4) (unhide HO4) e.symm) (.slice (some ⟨b', 0, none⟩) ((es.take (j + 1)).filter (keepF frm)).length c'))
              have HP5 := hide (ownsRow_setCell_other (unhide HP4) (a := ⟨w.heap.size + 4, 1, none⟩) (fun e => tv_rowSo (unhide HT4) (unhide HP4) e.symm) (.slice (some ⟨b', 0, none⟩) ((es.take (j + 1)).filter (keepF frm)).length c'))
              clear hHeld x0 x1 f0
              generalize hW5 : w4.setCell ⟨w.heap.size + 4, 1, none⟩ (.slice (some ⟨b', 0, none⟩) ((es.take (j + 1)).filter (keepF frm)).length c') = w5 at *
              clear hW5
              refine hK.out _ _ (sTux (((unhide HRE).below ((unhide HA).trans ((unhide HB5).mono (by omega)))).at hlen |> fun h => by rw [unhide HMD] at h; exact h) ((unhide HX).under (unhide HB5) (by omega))) (fun hHeld => ?_)
              clear hK K
              (try simp only [Act.put, List.setIfInBounds_toArray, List.set_cons_zero, List.set_cons_succ])
              refine wpAnyH_done (by kernel_rfl) (NoPanic.normal ?_) _
              clear hHeld
              go_wp2_with fail
              go_roundw
              case rel => exact ⟨j + 1, by omega, by go_num, b', c', HC4, HT5, HO5, HP5, HB5⟩
              case measure => simp [intOf]; omega
          · rw [if_neg (by rw [hvm, hk]; simp), List.append_nil] at HTF
            have hkn : (key / 100 != frm) = false := by simp [bne, hk]
            clear hk hvm
            rw [← unhide HTF] at hcv htv how
            go_wp2_with fail
            go_roundw
            case rel => exact ⟨j + 1, by omega, by go_num, bv, cv, hcv, htv, how, hop, hbl⟩
            case measure => simp [intOf]; omega
        · obtain rfl : j = n := by omega
          rw [show es.take j = es from List.take_of_length_le (by rw [unhide HN]; exact Nat.le_refl _)] at hcv htv how
          have HZr := hide ((unhide HZ).under (unhide hbl) (by omega))
          have HBw := hide ((unhide HA).trans ((unhide hbl).mono (by omega)))
          obtain ⟨x0, x1⟩ := (unhide htv).bx
          obtain ⟨r0, r1⟩ := (unhide HZr).bx
          have q0 := (unhide HZr).free 0
          have q1 := (unhide HZr).free 1
          have hne2 : ¬ w.heap.size + 4 = w.heap.size + 1 := by omega
          have hne3 : ¬ w.heap.size + 1 = w.heap.size + 4 := by omega
          have HLS := hide (rm_setS (rm_setS (lst_fm rfl (unhide hop)).rm (tv_rowSo (unhide HZr) (unhide hop)) 0 (.slice (some ⟨bs, 0, none⟩) (ss.filter (neS frm)).length cs)) (tv_rowSo (unhide HZr) (unhide hop)) 1 (.slice (some ⟨bv, 0, none⟩) (es.filter (keepF frm)).length cv))
          have HLE := hide (rm_setT (rm_setT (lst_fmT rfl (unhide how)).rm (tv_rowTu (unhide HZr) (unhide how)) 0 (.slice (some ⟨bs, 0, none⟩) (ss.filter (neS frm)).length cs)) (tv_rowTu (unhide HZr) (unhide how)) 1 (.slice (some ⟨bv, 0, none⟩) (es.filter (keepF frm)).length cv))
          have HBF := hide (((unhide HBw).setCell (p := ⟨w.heap.size + 1, 0, none⟩) (by show w.heap.size ≤ w.heap.size + 1; omega) (.slice (some ⟨bs, 0, none⟩) (ss.filter (neS frm)).length cs)).setCell (p := ⟨w.heap.size + 1, 1, none⟩) (by show w.heap.size ≤ w.heap.size + 1; omega) (.slice (some ⟨bv, 0, none⟩) (es.filter (keepF frm)).length cv))
          go_wp2_with fail
          refine bodyPost_ret (v := .agg #[(.slice (some ⟨bs, 0, none⟩) (ss.filter (neS frm)).length cs), (.slice (some ⟨bv, 0, none⟩) (es.filter (keepF frm)).length cv)]) (by simp [results, Try.results85, go_sem, r0, r1, x0, x1]) rfl ⟨_, rfl, unhide HBF, bs, 0, cs, bv, 0, cv, rfl, unhide HCS, unhide HLS, unhide HLE⟩
end Tp
end Go.Proofs.Ytilphgfjgeoiaaa
