/-
  Math of a topology's text, numbers of up to ten digits, and the program's TopologyText, where the library's table of powers of ten lies as its initialiser lays it. The model's TopologyText.
-/
import Derived.Test.YtlcppgnnlgigmaaDoorShelf
import Derived.Test.YtlcppgnnlgigmaaDoorTopF
import Derived.Test.YtlcppgnnlgigmaaDoorDig
import Derived.Test.YtlcppgnnlgigmaaDoorStrs
import Derived.Lib.AppendIntMem
namespace Go.Proofs.YtlcppgnnlgigmaaDoor
open Go.ChangeShapes Go.WideShapes Go.ChangeAt Go.RowKit
set_option linter.unusedVariables false
set_option linter.unusedSimpArgs false
set_option maxRecDepth 100000
attribute [local go_sem ↓] Go.wp_at_zero Go.wp_at_succ
attribute [local go_sem] ByteArray.size_append
namespace Tp
open W1 Tu St Tw Me
abbrev s32 : ByteArray := ⟨#[32]⟩
abbrev s58 : ByteArray := ⟨#[58]⟩
abbrev sAn : ByteArray := ⟨#[32, 97, 110, 115, 110, 32]⟩
def dg (n : Int) : ByteArray := Di.dig n.toNat
def edT (m : Ed.R) : ByteArray := s32 ++ dg m.ad ++ s32 ++ dg m.mt
def hdT (x : So.R) : ByteArray := dg x.ad ++ sAn ++ dg x.an ++ s58
/-- A source's line behind k of its edges. -/
def lnN (x : So.R) (E : List Ed.R) : Nat → ByteArray
  | 0 => hdT x
  | k + 1 => lnN x E k ++ edT (E.getD k Ed.R.zero)
def edgF (es : List R) (frm : Int) : List Ed.R := (es.filter (isVia frm)).map edV
def lnT (es : List R) (x : So.R) : ByteArray := lnN x (edgF es x.ad) (edgF es x.ad).length
def txtL (ss : List So.R) (es : List R) (j : Nat) : List ByteArray := (ss.take j).map (lnT es)
def txtA (ss : List So.R) (es : List R) : List ByteArray := if topB ss es = true then txtL ss es ss.length else []
theorem so_take {ss : List So.R} {j : Nat} (h : j < ss.length) : ss.take (j + 1) = ss.take j ++ [ss.getD j So.R.zero] := by
  rw [List.take_add_one, List.getElem?_eq_getElem h, List.getD_eq_getElem?_getD, List.getElem?_eq_getElem h]; rfl
theorem txtL_succ {ss : List So.R} {es : List R} {j : Nat} (h : j < ss.length) : txtL ss es (j + 1) = txtL ss es j ++ [lnT es (ss.getD j So.R.zero)] := by
  unfold txtL; rw [so_take h, List.map_append]; rfl
theorem txtL_len (ss : List So.R) (es : List R) (j : Nat) : (txtL ss es j).length ≤ j := by unfold txtL; rw [List.length_map]; exact List.length_take_le _ _
theorem txt_len (ss : List So.R) (es : List R) : (txtA ss es).length ≤ ss.length := by
  unfold txtA; split
  · exact txtL_len _ _ _
  · simp
theorem dig_size10 (k : Nat) (h : k ≤ 9999999999) : (Di.dig k).size ≤ 10 := by
  have e : (Di.dig k).size = Lib.nDigits k := by
    show (Lib.decDigits k).toArray.size = _
    simp [Lib.decDigits_length]
  rw [e]
  have h1 : ∀ u, u < 10 → Lib.nDigits u ≤ 1 := fun u hu => by rw [Lib.nDigits_small hu]; omega
  have up : ∀ n N, (∀ u, u < N → Lib.nDigits u ≤ n) → 0 < n → ∀ u, u < N * 10 → Lib.nDigits u ≤ n + 1 := fun n N hn h0 u hu => by
    by_cases c : u < 10
    · have := h1 u c; omega
    · rw [Lib.nDigits_big c]; have := hn (u / 10) (by omega); omega
  exact up 9 _ (up 8 _ (up 7 _ (up 6 _ (up 5 _ (up 4 _ (up 3 _ (up 2 _ (up 1 _ h1 (by omega)) (by omega)) (by omega)) (by omega)) (by omega)) (by omega)) (by omega)) (by omega)) (by omega) k (by omega)
theorem dg_size {n : Int} (h : n ≤ 9999999999) : (dg n).size ≤ 10 := dig_size10 _ (by omega)
/-- What an edge's numbers are. -/
theorem edg_in {es : List R} (h : twoB es = true) (frm : Int) : ∀ m ∈ edgF es frm, 0 ≤ m.ad ∧ m.ad ≤ 99 ∧ 0 ≤ m.mt ∧ m.mt ≤ 1073741824 := by
  intro m hm
  unfold edgF at hm
  obtain ⟨x, hx, rfl⟩ := List.mem_map.1 hm
  have hx2 := (List.mem_filter.1 hx).1
  have h1 := ok_k (two_ok h x hx2)
  have h2 := ok_bounds (ok_of (two_set h) x hx2)
  unfold edV
  dsimp only
  omega
theorem ed_mem {E : List Ed.R} {k : Nat} (h : k < E.length) : E.getD k Ed.R.zero ∈ E := by rw [List.getD_eq_getElem?_getD, List.getElem?_eq_getElem h]; exact List.getElem_mem h
theorem edgF_len {es : List R} (h : twoB es = true) (frm : Int) : (edgF es frm).length ≤ 8 := by
  unfold edgF
  rw [← from_all h]
  exact fromE_len _ _ _
theorem lnN_size {x : So.R} {E : List Ed.R} (hx : x.ad ≤ 8 ∧ x.an ≤ 65535) (hE : ∀ m ∈ E, 0 ≤ m.ad ∧ m.ad ≤ 99 ∧ 0 ≤ m.mt ∧ m.mt ≤ 1073741824) : ∀ k, k ≤ E.length → (lnN x E k).size ≤ 27 + 22 * k
  | 0, _ => by
    have a := dg_size (n := x.ad) (by omega)
    have b := dg_size (n := x.an) (by omega)
    unfold lnN hdT
    simp only [ByteArray.size_append]
    have e1 : sAn.size = 6 := rfl
    have e2 : s58.size = 1 := rfl
    omega
  | k + 1, hk => by
    have ih := lnN_size hx hE k (by omega)
    have hm := hE _ (ed_mem (show k < E.length by omega))
    have a := dg_size (n := (E.getD k Ed.R.zero).ad) (by omega)
    have b := dg_size (n := (E.getD k Ed.R.zero).mt) (by omega)
    unfold lnN edT
    simp only [ByteArray.size_append]
    have e1 : s32.size = 1 := rfl
    omega
theorem okS_in {x : So.R} (h : okS x = true) : (1 ≤ x.ad ∧ x.ad ≤ 8) ∧ (0 ≤ x.an ∧ x.an ≤ 65535) ∧ 0 ≤ x.til ∧ x.til ≤ 1073741824 := by
  unfold okS inB at h
  simp at h
  omega
abbrev TabP (w : World) : Prop := Lib.TabIs Tryd.prog w "internal/strconv.uint64pow10" .u64 Lib.pow10Tab
theorem itoa (n : Int) (h0 : 0 ≤ n) (h1 : n ≤ 9999999999) (w : World) (ht : TabP w) :
    Calls Tryd.prog 30 #[.int .i64 n] w fun e w' => e = .returned (.string (dg n)) ∧ Below w.heap.size w w' := by
  refine (Tryd.strconv_Itoa n (by omega) (by omega) w ht).mono ?_
  rintro e w' ⟨rfl, k, os, rfl⟩
  refine ⟨?_, Lib.below_grow _ _ (Nat.le_refl _) _ _⟩
  obtain ⟨u, rfl⟩ := Int.eq_ofNat_of_zero_le h0
  rw [Lib.itoa_nonneg]; rfl
theorem om_kept {w w' : World} {b n : Nat} {f : Int → Int → Option R} {row : Option Nat} (h : OM w b n f) (hg : w.grownBy w' row) (hne : some b ≠ row) : OM w' b n f := by
  obtain ⟨D, h, hf⟩ := h
  exact ⟨D, h.kept hg hne, hf⟩
theorem om_ne {w : World} {b n base : Nat} {f : Int → Int → Option R} {e : TypeId} {size : Nat} {v : Value} {m : Nat} {xs : List Value} (h : OM w b n f) (ho : w.ownsRow base e size v m xs) : some b ≠ v.ownBlock := by
  obtain ⟨D, ⟨es, clock, hb, _⟩, _⟩ := h
  rcases ho.2 with ⟨rfl, _⟩ | ⟨g, cap, cur, rfl, _, hg, _⟩
  · simp [Value.ownBlock]
  · intro e1
    have : b = g := by simpa [Value.ownBlock] using e1
    subst this
    rw [hb] at hg
    cases hg
def Bs (w : World) (b : Nat) (x : So.R) : Prop := w.cell? ⟨b, 0, none⟩ = some (.int .i64 x.ad) ∧ w.cell? ⟨b, 1, none⟩ = some (.int .i64 x.an) ∧ w.cell? ⟨b, 2, none⟩ = some (.int .i64 x.til)
theorem Bs.lt {w : World} {b : Nat} {x : So.R} (h : Bs w b x) : b < w.heap.size := World.block_lt_of_cell? _ _ h.1
theorem Bs.below {w w' : World} {b : Nat} {x : So.R} (h : Bs w b x) (hb : Below w.heap.size w w') : Bs w' b x := ⟨(hb.cell h.lt).trans h.1, (hb.cell h.lt).trans h.2.1, (hb.cell h.lt).trans h.2.2⟩
theorem Bs.drew {w : World} {b : Nat} {x : So.R} (h : Bs w b x) : Bs w.drew b x := h
theorem bs_new (w : World) (x : So.R) (t : Nat) : Bs (w.alloc (.cells #[.int .i64 x.ad, .int .i64 x.an, .int .i64 x.til] t)) w.heap.size x := by refine ⟨?_, ?_, ?_⟩ <;> simp [World.cell?_alloc_new]
theorem sBs {w : World} {b : Nat} {ad an til : Int} (h : Bs w b ⟨ad, an, til⟩) : Bs w b ⟨ad, an, til⟩ ∧ w.cell? ⟨b, 0, none⟩ = some (.int .i64 ad) ∧ w.cell? ⟨b, 1, none⟩ = some (.int .i64 an) := ⟨h, h.1, h.2.1⟩
def Be (w : World) (b : Nat) (x : Ed.R) : Prop := w.cell? ⟨b, 0, none⟩ = some (.int .i64 x.ad) ∧ w.cell? ⟨b, 1, none⟩ = some (.int .i64 x.mt)
theorem Be.lt {w : World} {b : Nat} {x : Ed.R} (h : Be w b x) : b < w.heap.size := World.block_lt_of_cell? _ _ h.1
theorem Be.below {w w' : World} {b : Nat} {x : Ed.R} (h : Be w b x) (hb : Below w.heap.size w w') : Be w' b x := ⟨(hb.cell h.lt).trans h.1, (hb.cell h.lt).trans h.2⟩
theorem Be.drew {w : World} {b : Nat} {x : Ed.R} (h : Be w b x) : Be w.drew b x := h
theorem be_new (w : World) (x : Ed.R) (t : Nat) : Be (w.alloc (.cells #[.int .i64 x.ad, .int .i64 x.mt] t)) w.heap.size x := by refine ⟨?_, ?_⟩ <;> simp [World.cell?_alloc_new]
theorem sBe {w : World} {b : Nat} {ad mt : Int} (h : Be w b ⟨ad, mt⟩) : Be w b ⟨ad, mt⟩ ∧ w.cell? ⟨b, 0, none⟩ = some (.int .i64 ad) ∧ w.cell? ⟨b, 1, none⟩ = some (.int .i64 mt) := ⟨h, h.1, h.2⟩
set_option maxHeartbeats 8000000 in
theorem implText (a : Option Addr) (ss : List So.R) (ca : Nat) (b : Option Addr) (es : List R) (cb : Nat) (w : World) (hm : ss.length ≤ 1048576) (hl : es.length ≤ 1048576) (hr : So.RM w a ss) (hr' : RM w b es) (hp : TabP w) :
    Calls Tryd.prog 9 #[.agg #[.slice a ss.length ca, .slice b es.length cb]] w fun e w' => ∃ v, e = .returned (.tuple #[v, .int .i64 (topC ss es)]) ∧ Below w.heap.size w w' ∧ Ss.LstV w' v (txtA ss es) w.heap.size w'.heap.size := by
  have HP := hide (Lib.tabBelow_of_tabIs hp)
  have HB : Hid (Below w.heap.size w (w.alloc (.cells #[.slice a ss.length ca, .slice b es.length cb] 26))) := hide ((Below.refl _ _).alloc (Nat.le_refl _) _)
  have HX : Hid (Bx2 (w.alloc (.cells #[.slice a ss.length ca, .slice b es.length cb] 26)) w.heap.size (.slice a ss.length ca) (.slice b es.length cb)) := hide (bx2_new w _ _ _)
  have HR := hide hr
  have HR' := hide hr'
  clear hr hr' hp
  obtain ⟨W0, hW0⟩ : ∃ W0, w.alloc (.cells #[.slice a ss.length ca, .slice b es.length cb] 26) = W0 := ⟨_, rfl⟩
  rw [hW0] at HB HX
  have HW0 := hide hW0
  clear hW0
  cases ht : topB ss es
  · have e1 : txtA ss es = [] := by unfold txtA; rw [ht]; rfl
    have e2 : topC ss es = 1 := by unfold topC; rw [ht]; rfl
    rw [e1, e2]
    have HT := hide ht
    clear ht e1 e2
    go_enter Tryd.func9, Tryd.ntmps9
    go_wp2_with fail
    rw [unhide HW0]
    refine (implOK a ss ca b es cb _ hm hl ((unhide HR).below (unhide HB)) ((unhide HR').below (unhide HB))).mono ?_
    rintro e w1 ⟨rfl, b1⟩
    rw [unhide HT]
    have HB1 := hide ((unhide HB).trans (b1.mono (unhide HB).size))
    clear b1
    go_wp2_with fail
    go_ret2
    exact ⟨_, rfl, unhide HB1, Ss.lstV_nil _ _ _ _ _⟩
  have e1 : txtA ss es = txtL ss es ss.length := by unfold txtA; rw [if_pos ht]
  have e2 : topC ss es = 0 := by unfold topC; rw [if_pos ht]
  rw [e1, e2]
  clear e1 e2
  have HT := hide ht
  have h8 := src_len (top_src ht)
  have HTW := hide (top_two ht)
  have HSR := hide (top_src ht)
  clear ht
  generalize hN : ss.length = n at *
  have HN := hide hN
  clear hN
  go_enter Tryd.func9, Tryd.ntmps9
  go_wp2_with fail
  rw [unhide HW0]
  rw [← unhide HN]
  refine (implOK a ss ca b es cb _ (by have := unhide HN; omega) hl ((unhide HR).below (unhide HB)) ((unhide HR').below (unhide HB))).mono ?_
  rintro e w1 ⟨rfl, b1⟩
  rw [unhide HT, unhide HN]
  have HB1 := hide ((unhide HB).trans (b1.mono (unhide HB).size))
  have HX1 := hide ((unhide HX).below b1)
  clear b1 HX HB
  obtain ⟨z0, z1⟩ := unhide HX1
  go_wp2_with fail
  clear z0 z1
  refine (edgesByEnds b es cb _ (unhide HTW) ((unhide HR').below (unhide HB1))).mono ?_
  rintro e w2 ⟨bm, rfl, hlo, om2, b2⟩
  have HB2 := hide ((unhide HB1).trans (b2.mono (unhide HB1).size))
  have HX2 := hide ((unhide HX1).below b2)
  have HO2 := hide om2
  have hb2 := (unhide HB2).size
  clear b2 HX1 HB1 om2
  obtain ⟨i0, hi, hz0, hz1, hz2⟩ := Ss.infoI
  obtain ⟨wm, hmk, hmown, hmgrow⟩ := run_make_own (P := Tryd.prog) w2 w.heap.size 31 9 i0 _ 1 Tryd.underlying31 hi hz0 hz1 .i64 .i64 n (by rw [hz2]; omega) (by unfold maxLen; omega) hb2
  have OW : Hid (wm.ownsRow w.heap.size 9 1 (.slice (some ⟨w2.heap.size, 0, none⟩) 0 n) (txtL ss es 0).length (Ss.flat (txtL ss es 0))) := hide hmown
  have bm2 : Below w2.heap.size w2 wm := (Below.refl _ _).grown hmgrow (Nat.le_refl _) (fun k hk => by cases hk)
  have DM : Hid (Below w.heap.size w wm) := hide ((unhide HB2).trans (bm2.mono (unhide HB2).size))
  have HXm := hide ((unhide HX2).below bm2)
  have HOm := hide ((unhide HO2).below bm2)
  have hwm := bm2.size
  clear hi hz0 hz1 hz2 hmown hmgrow bm2 HO2
  obtain ⟨y0, y1⟩ := unhide HX2
  obtain ⟨z0, z1⟩ := unhide HXm
  go_wp2_with fail
  clear hmk z0 z1 y0 y1 HX2 HXm
  have HRm := hide ((unhide HR).below (unhide DM))
  go_loopw [5, 24] (fun v i wr => ∃ j : Nat, j ≤ n ∧ i = .int .i64 j ∧ Hid (wr.ownsRow w.heap.size 9 1 v (txtL ss es j).length (Ss.flat (txtL ss es j))) ∧ Hid (Below w.heap.size w wr) ∧ Hid (OM wr bm es.length (findT es))) (fun _ i _ => n - (intOf i).toNat)
  case atStart => exact ⟨0, by omega, rfl, OW, DM, HOm⟩
  case round =>
    obtain ⟨j, hj, rfl, how, hbl, hom⟩ := hrel
    have hbs := (unhide hbl).size
    by_cases hlt : (j : Int) < (n : Int)
    · have k0 : (0 : Int) ≤ (j : Int) := by omega
      have hlen : j < ss.length := by rw [unhide HN]; omega
      obtain ⟨g, off, rfl⟩ := (unhide HR).form (by omega)
      obtain ⟨c0, c1, c2⟩ := ((unhide HR).below (unhide hbl)).at hlen
      have hok := src_ok (unhide HSR) _ (So.getD_mem hlen)
      have HTF := hide (txtL_succ (es := es) hlen)
      have hfl := txtL_len ss es j
      generalize ss.getD j So.R.zero = x at *
      obtain ⟨ad, an, til⟩ := x
      have hbd := okS_in hok
      dsimp only at c0 c1 c2 hbd
      have HLS := hide (lnN_size (x := ⟨ad, an, til⟩) (E := edgF es ad) (by dsimp only; omega) (edg_in (unhide HTW) ad))
      have HEI := hide (edg_in (unhide HTW) ad)
      have hel := edgF_len (unhide HTW) ad
      have HFA : Hid (fromE (findT es) ad 8 = edgF es ad) := hide (from_all (unhide HTW) ad)
      have HL0 : Hid (lnN ⟨ad, an, til⟩ (edgF es ad) 0 = dg ad ++ sAn ++ dg an ++ s58) := hide rfl
      have HLT : Hid (lnT es ⟨ad, an, til⟩ = lnN ⟨ad, an, til⟩ (edgF es ad) (edgF es ad).length) := hide rfl
      have sa := dg_size (n := ad) (by omega)
      have sn := dg_size (n := an) (by omega)
      generalize hda : dg ad = da at *
      have HDA := hide hda
      clear hda
      generalize hdn : dg an = dn at *
      have HDN := hide hdn
      clear hdn
      have qq0 : ¬ (9223372036854775807 < da.size + 6) := by omega
      have qq1 : ¬ (9223372036854775807 < da.size + 6 + dn.size) := by omega
      have qq2 : ¬ (9223372036854775807 < da.size + 6 + dn.size + 1) := by omega
      have HXS := hide (bs_new wr ⟨ad, an, til⟩ 38)
      have HBA := hide ((unhide hbl).alloc (unhide hbl).size (.cells #[.int .i64 ad, .int .i64 an, .int .i64 til] 38))
      have HOA := hide ((unhide how).alloc (.cells #[.int .i64 ad, .int .i64 an, .int .i64 til] 38))
      have M0 := hide ((unhide hom).below ((Below.refl _ _).alloc (Nat.le_refl _) (.cells #[.int .i64 ad, .int .i64 an, .int .i64 til] 38)))
      have HWF : Hid ((Lit.int .i64 ad).wf = true) := hide (WalkArith.wf_i64 ⟨by omega, by omega⟩)
      clear hok
      go_wp2_with fail
      generalize hV0 : wr.alloc (.cells #[.int .i64 ad, .int .i64 an, .int .i64 til] 38) = V0 at *
      clear hV0 c0 c1 c2
      generalize hB0 : wr.heap.size = B0 at *
      clear hB0
      refine wp_region_noPanic ?_
      refine wp_region_held_drew (S := fun w' => Bs w' B0 ⟨ad, an, til⟩ ∧ w'.cell? ⟨B0, 0, none⟩ = some (.int .i64 ad) ∧ w'.cell? ⟨B0, 1, none⟩ = some (.int .i64 an)) (by kernel_rfl) (sBs (unhide HXS).drew) (fun hHeld => ?_)
      (refine Rg.tk (i := 0) (d := 28) (v := ?_) rfl rfl (by kernel_rfl) (by kernel_rfl) (by kernel_rfl) (fun _ _ _ h => h) (by rfl) ?_ (by assumption) ?_; rotate_left; (focus (intro w0 hSw; (try dsimp only at hSw); go_simp; (try with_reducible rfl))); (try simp only [Act.put, List.setIfInBounds_toArray, List.set_cons_zero, List.set_cons_succ]))
      (refine Rg.tk (i := 1) (d := 29) (v := ?_) rfl rfl (by kernel_rfl) (by kernel_rfl) (by kernel_rfl) (fun _ _ _ h => h) (by rfl) ?_ (by assumption) ?_; rotate_left; (focus (intro w0 hSw; (try dsimp only at hSw); go_simp; (try with_reducible rfl))); (try simp only [Act.put, List.setIfInBounds_toArray, List.set_cons_zero, List.set_cons_succ]))
      (refine Rg.tk (i := 4) (d := 32) (v := ?_) rfl rfl (by kernel_rfl) (by kernel_rfl) (by kernel_rfl) (fun _ _ _ h => h) (by rfl) ?_ (by assumption) ?_; rotate_left; (focus (intro w0 hSw; (try dsimp only at hSw); go_simp; (try with_reducible rfl))); (try simp only [Act.put, List.setIfInBounds_toArray, List.set_cons_zero, List.set_cons_succ]))
      (refine Rg.tk (i := 5) (d := 33) (v := ?_) rfl rfl (by kernel_rfl) (by kernel_rfl) (by kernel_rfl) (fun _ _ _ h => h) (by rfl) ?_ (by assumption) ?_; rotate_left; (focus (intro w0 hSw; (try dsimp only at hSw); go_simp; (try with_reducible rfl))); (try simp only [Act.put, List.setIfInBounds_toArray, List.set_cons_zero, List.set_cons_succ]))
      (refine wpAnyH_ready (rs := [2]) (by kernel_rfl) (by simp) ?_; refine AllReadyH.cons (o := _) rfl (fun K hK => ?_) AllReadyH.nil; go_simp)
      refine (itoa ad (by omega) (by omega) _ (unhide HP _ (unhide HBA).drew)).mono ?_
      rintro e v1 ⟨rfl, d1_⟩
      rw [unhide HDA]
      have d1 : Below V0.heap.size V0 v1 := (Below.refl _ _).drew.trans d1_
      have O1 := hide (Ss.own_below (unhide HOA) d1)
      have M1 := hide ((unhide M0).below d1)
      have E1 := hide ((unhide HBA).trans (d1.mono (unhide HBA).size))
      have Y1 := hide ((unhide HXS).below d1)
      clear d1 d1_ hHeld HOA HBA HXS
      refine hK.out _ _ (sBs (unhide Y1)) (fun hHeld => ?_)
      clear hK K
      (try simp only [Act.put, List.setIfInBounds_toArray, List.set_cons_zero, List.set_cons_succ])
      (refine Rg.tk (i := 3) (d := 31) (v := ?_) rfl rfl (by kernel_rfl) (by kernel_rfl) (by kernel_rfl) (fun _ _ _ h => h) (by rfl) ?_ (by assumption) ?_; rotate_left; (focus (intro w0 hSw; (try dsimp only at hSw); go_simp; (try with_reducible rfl))); (try simp only [Act.put, List.setIfInBounds_toArray, List.set_cons_zero, List.set_cons_succ]))
      (refine wpAnyH_ready (rs := [6]) (by kernel_rfl) (by simp) ?_; refine AllReadyH.cons (o := _) rfl (fun K hK => ?_) AllReadyH.nil; go_simp)
      refine (itoa an (by omega) (by omega) _ (unhide HP _ (unhide E1))).mono ?_
      rintro e v2 ⟨rfl, d2⟩
      rw [unhide HDN]
      have O2 := hide (Ss.own_below (unhide O1) d2)
      have M2 := hide ((unhide M1).below d2)
      have E2 := hide ((unhide E1).trans (d2.mono (unhide E1).size))
      have Y2 := hide ((unhide Y1).below d2)
      clear d2 hHeld O1 E1 Y1
      refine hK.out _ _ (sBs (unhide Y2)) (fun hHeld => ?_)
      clear hK K
      (try simp only [Act.put, List.setIfInBounds_toArray, List.set_cons_zero, List.set_cons_succ])
      (refine Rg.tk (i := 7) (d := 35) (v := ?_) rfl rfl (by kernel_rfl) (by kernel_rfl) (by kernel_rfl) (fun _ _ _ h => h) (by rfl) ?_ (by assumption) ?_; rotate_left; (focus (intro w0 hSw; (try dsimp only at hSw); go_simp; (try with_reducible rfl))); (try simp only [Act.put, List.setIfInBounds_toArray, List.set_cons_zero, List.set_cons_succ]))
      (refine Rg.tk (i := 8) (d := 36) (v := ?_) rfl rfl (by kernel_rfl) (by kernel_rfl) (by kernel_rfl) (fun _ _ _ h => h) (by rfl) ?_ (by assumption) ?_; rotate_left; (focus (intro w0 hSw; (try dsimp only at hSw); go_simp; (try with_reducible rfl))); (try simp only [Act.put, List.setIfInBounds_toArray, List.set_cons_zero, List.set_cons_succ]))
      (refine Rg.tk (i := 9) (d := 8) (v := ?_) rfl rfl (by kernel_rfl) (by kernel_rfl) (by kernel_rfl) (fun _ _ _ h => h) (by rfl) ?_ (by assumption) ?_; rotate_left; (focus (intro w0 hSw; (try dsimp only at hSw); go_simp; (try with_reducible rfl))); (try simp only [Act.put, List.setIfInBounds_toArray, List.set_cons_zero, List.set_cons_succ]))
      refine wpAnyH_done (by kernel_rfl) (NoPanic.normal ?_) _
      clear hHeld
      obtain ⟨y0, y1, y2⟩ := unhide Y2
      go_wp2_with fail
      clear y0 y1 y2
      refine (edgesOf bm _ _ ad _ (unhide HWF) (unhide M2)).mono ?_
      rintro e v3 ⟨vE, rfl, d3, lE⟩
      rw [unhide HFA] at lE
      obtain ⟨aE, cE, rfl, LE⟩ := lE
      have O3 := hide (Ss.own_below (unhide O2) d3)
      have M3 := hide ((unhide M2).below d3)
      have E3 := hide ((unhide E2).trans (d3.mono (unhide E2).size))
      have R3 := hide LE.rm
      clear d3 LE O2 E2 Y2
      obtain ⟨L0, hL0⟩ : ∃ L0, da ++ sAn ++ dn ++ s58 = L0 := ⟨_, rfl⟩
      rw [hL0] at HL0
      try rw [hL0]
      have HLL0 := hide hL0
      clear hL0
      generalize edgF es ad = E at *
      generalize hNE : E.length = ne at *
      have HNE := hide hNE
      clear hNE
      go_wp2_with fail
      clear how hbl hom hbs qq0 qq1 qq2 sa sn M0 M1 M2
      go_loopw [8, 42] (fun v i wq => ∃ k : Nat, k ≤ ne ∧ i = .int .i64 k ∧ v = .string (lnN ⟨ad, an, til⟩ E k) ∧ Hid (Below v3.heap.size v3 wq)) (fun _ i _ => ne - (intOf i).toNat)
      case atStart => exact ⟨0, by omega, rfl, by first | (rw [unhide HL0]; done) | (rw [unhide HL0, ← unhide HLL0]), hide (Below.refl _ _)⟩
      case round =>
        obtain ⟨k, hk, rfl, rfl, hblk⟩ := hrel
        by_cases hltk : (k : Int) < (ne : Int)
        · have k1 : (0 : Int) ≤ (k : Int) := by omega
          have hlenk : k < E.length := by rw [unhide HNE]; omega
          obtain ⟨gE, oE, rfl⟩ := (unhide R3).form (by omega)
          obtain ⟨c0, c1⟩ := ((unhide R3).below (unhide hblk)).at hlenk
          have hei := unhide HEI _ (ed_mem hlenk)
          have hls := unhide HLS k (by omega)
          have HSU : Hid (lnN ⟨ad, an, til⟩ E (k + 1) = lnN ⟨ad, an, til⟩ E k ++ edT (E.getD k Ed.R.zero)) := hide rfl
          generalize E.getD k Ed.R.zero = m at *
          obtain ⟨ead, emt⟩ := m
          dsimp only at c0 c1 hei
          have HET : Hid (edT ⟨ead, emt⟩ = s32 ++ dg ead ++ s32 ++ dg emt) := hide rfl
          rw [unhide HET] at HSU
          have se := dg_size (n := ead) (by omega)
          have sm := dg_size (n := emt) (by omega)
          generalize hde : dg ead = de at *
          have HDE := hide hde
          clear hde
          generalize hdm : dg emt = dm at *
          have HDM := hide hdm
          clear hdm
          obtain ⟨LK, hLK⟩ : ∃ LK, lnN ⟨ad, an, til⟩ E k = LK := ⟨_, rfl⟩
          rw [hLK] at hls HSU
          rw [hLK]
          clear hLK
          have qq0 : ¬ (9223372036854775807 < 1 + de.size) := by omega
          have qq1 : ¬ (9223372036854775807 < 1 + de.size + 1) := by omega
          have qq2 : ¬ (9223372036854775807 < 1 + de.size + 1 + dm.size) := by omega
          have qq3 : ¬ (9223372036854775807 < LK.size + (1 + de.size + 1 + dm.size)) := by omega
          have HXE := hide (be_new wr ⟨ead, emt⟩ 68)
          have HBE := hide ((unhide hblk).alloc (unhide hblk).size (.cells #[.int .i64 ead, .int .i64 emt] 68))
          go_wp2_with fail
          generalize hV0 : wr.alloc (.cells #[.int .i64 ead, .int .i64 emt] 68) = V1 at *
          clear hV0 c0 c1
          generalize hB1 : wr.heap.size = B1 at *
          clear hB1
          refine wp_region_noPanic ?_
          refine wp_region_held_drew (S := fun w' => Be w' B1 ⟨ead, emt⟩ ∧ w'.cell? ⟨B1, 0, none⟩ = some (.int .i64 ead) ∧ w'.cell? ⟨B1, 1, none⟩ = some (.int .i64 emt)) (by kernel_rfl) (sBe (unhide HXE).drew) (fun hHeld => ?_)
          (refine Rg.tk (i := 0) (d := 46) (v := ?_) rfl rfl (by kernel_rfl) (by kernel_rfl) (by kernel_rfl) (fun _ _ _ h => h) (by rfl) ?_ (by assumption) ?_; rotate_left; (focus (intro w0 hSw; (try dsimp only at hSw); go_simp; (try with_reducible rfl))); (try simp only [Act.put, List.setIfInBounds_toArray, List.set_cons_zero, List.set_cons_succ]))
          (refine Rg.tk (i := 1) (d := 47) (v := ?_) rfl rfl (by kernel_rfl) (by kernel_rfl) (by kernel_rfl) (fun _ _ _ h => h) (by rfl) ?_ (by assumption) ?_; rotate_left; (focus (intro w0 hSw; (try dsimp only at hSw); go_simp; (try with_reducible rfl))); (try simp only [Act.put, List.setIfInBounds_toArray, List.set_cons_zero, List.set_cons_succ]))
          (refine Rg.tk (i := 2) (d := 48) (v := ?_) rfl rfl (by kernel_rfl) (by kernel_rfl) (by kernel_rfl) (fun _ _ _ h => h) (by rfl) ?_ (by assumption) ?_; rotate_left; (focus (intro w0 hSw; (try dsimp only at hSw); go_simp; (try with_reducible rfl))); (try simp only [Act.put, List.setIfInBounds_toArray, List.set_cons_zero, List.set_cons_succ]))
          (refine Rg.tk (i := 6) (d := 52) (v := ?_) rfl rfl (by kernel_rfl) (by kernel_rfl) (by kernel_rfl) (fun _ _ _ h => h) (by rfl) ?_ (by assumption) ?_; rotate_left; (focus (intro w0 hSw; (try dsimp only at hSw); go_simp; (try with_reducible rfl))); (try simp only [Act.put, List.setIfInBounds_toArray, List.set_cons_zero, List.set_cons_succ]))
          (refine Rg.tk (i := 7) (d := 53) (v := ?_) rfl rfl (by kernel_rfl) (by kernel_rfl) (by kernel_rfl) (fun _ _ _ h => h) (by rfl) ?_ (by assumption) ?_; rotate_left; (focus (intro w0 hSw; (try dsimp only at hSw); go_simp; (try with_reducible rfl))); (try simp only [Act.put, List.setIfInBounds_toArray, List.set_cons_zero, List.set_cons_succ]))
          (refine wpAnyH_ready (rs := [3]) (by kernel_rfl) (by simp) ?_; refine AllReadyH.cons (o := _) rfl (fun K hK => ?_) AllReadyH.nil; go_simp)
          refine (itoa ead (by omega) (by omega) _ (unhide HP _ ((unhide E3).trans ((unhide HBE).drew.mono (unhide E3).size)))).mono ?_
          rintro e x1 ⟨rfl, f1_⟩
          rw [unhide HDE]
          have f1 : Below V1.heap.size V1 x1 := (Below.refl _ _).drew.trans f1_
          have F1 := hide ((unhide HBE).trans (f1.mono (unhide HBE).size))
          have X1 := hide ((unhide HXE).below f1)
          clear f1 f1_ hHeld HBE HXE
          refine hK.out _ _ (sBe (unhide X1)) (fun hHeld => ?_)
          clear hK K
          (try simp only [Act.put, List.setIfInBounds_toArray, List.set_cons_zero, List.set_cons_succ])
          (refine Rg.tk (i := 4) (d := 50) (v := ?_) rfl rfl (by kernel_rfl) (by kernel_rfl) (by kernel_rfl) (fun _ _ _ h => h) (by rfl) ?_ (by assumption) ?_; rotate_left; (focus (intro w0 hSw; (try dsimp only at hSw); go_simp; (try with_reducible rfl))); (try simp only [Act.put, List.setIfInBounds_toArray, List.set_cons_zero, List.set_cons_succ]))
          (refine Rg.tk (i := 5) (d := 51) (v := ?_) rfl rfl (by kernel_rfl) (by kernel_rfl) (by kernel_rfl) (fun _ _ _ h => h) (by rfl) ?_ (by assumption) ?_; rotate_left; (focus (intro w0 hSw; (try dsimp only at hSw); go_simp; (try with_reducible rfl))); (try simp only [Act.put, List.setIfInBounds_toArray, List.set_cons_zero, List.set_cons_succ]))
          (refine wpAnyH_ready (rs := [8]) (by kernel_rfl) (by simp) ?_; refine AllReadyH.cons (o := _) rfl (fun K hK => ?_) AllReadyH.nil; go_simp)
          refine (itoa emt (by omega) (by omega) _ (unhide HP _ ((unhide E3).trans ((unhide F1).mono (unhide E3).size)))).mono ?_
          rintro e x2 ⟨rfl, f2⟩
          rw [unhide HDM]
          have F2 := hide ((unhide F1).trans (f2.mono (unhide F1).size))
          have X2 := hide ((unhide X1).below f2)
          clear f2 hHeld F1 X1
          refine hK.out _ _ (sBe (unhide X2)) (fun hHeld => ?_)
          clear hK K
          (try simp only [Act.put, List.setIfInBounds_toArray, List.set_cons_zero, List.set_cons_succ])
          (refine Rg.tk (i := 9) (d := 55) (v := ?_) rfl rfl (by kernel_rfl) (by kernel_rfl) (by kernel_rfl) (fun _ _ _ h => h) (by rfl) ?_ (by assumption) ?_; rotate_left; (focus (intro w0 hSw; (try dsimp only at hSw); go_simp; (try with_reducible rfl))); (try simp only [Act.put, List.setIfInBounds_toArray, List.set_cons_zero, List.set_cons_succ]))
          (refine Rg.tk (i := 10) (d := 56) (v := ?_) rfl rfl (by kernel_rfl) (by kernel_rfl) (by kernel_rfl) (fun _ _ _ h => h) (by rfl) ?_ (by assumption) ?_; rotate_left; (focus (intro w0 hSw; (try dsimp only at hSw); go_simp; (try with_reducible rfl))); (try simp only [Act.put, List.setIfInBounds_toArray, List.set_cons_zero, List.set_cons_succ]))
          (refine Rg.tk (i := 11) (d := 8) (v := ?_) rfl rfl (by kernel_rfl) (by kernel_rfl) (by kernel_rfl) (fun _ _ _ h => h) (by rfl) ?_ (by assumption) ?_; rotate_left; (focus (intro w0 hSw; (try dsimp only at hSw); go_simp; (try with_reducible rfl))); (try simp only [Act.put, List.setIfInBounds_toArray, List.set_cons_zero, List.set_cons_succ]))
          refine wpAnyH_done (by kernel_rfl) (NoPanic.normal ?_) _
          clear hHeld
          go_wp2_with fail
          go_roundw
          case rel => exact ⟨k + 1, by omega, by go_num, by rw [unhide HSU], F2⟩
          case measure => simp [intOf]; omega
        · obtain rfl : k = ne := by omega
          have O4 := hide (Ss.own_below (unhide O3) (unhide hblk))
          have E4 := hide ((unhide E3).trans ((unhide hblk).mono (unhide E3).size))
          have M4 := hide (((unhide M3).below (unhide hblk)).below ((Below.refl _ _).alloc (Nat.le_refl _) (.cells #[.string (lnN ⟨ad, an, til⟩ E k)] 9)))
          have E5 := hide ((unhide E4).alloc (unhide E4).size (.cells #[.string (lnN ⟨ad, an, til⟩ E k)] 9))
          have hs5 := (unhide E4).size
          have hs6 := (unhide E5).size
          have O5 := hide ((unhide O4).alloc (.cells #[.string (lnN ⟨ad, an, til⟩ E k)] 9))
          rw [unhide HLT] at HTF
          generalize lnN ⟨ad, an, til⟩ E k = LK at *
          go_wp2_with (at_builtin; refine Ss.wpList_apS (unhide O5) wr.heap.size 0 1 1 [LK] rfl (Ss.rm_new wr LK) (by simp only [List.length_cons, List.length_nil]; omega) hs6 rfl _ _ rfl rfl rfl ?_; intro v' w' ho hg; have HO : Hid (w'.ownsRow w.heap.size 9 1 v' (txtL ss es (j + 1)).length (Ss.flat (txtL ss es (j + 1)))) := hide (by rw [unhide HTF]; exact ho); have HBB := hide (Ss.below_own (unhide E5) (unhide O5) hg (Nat.le_refl _) hs6); have HMM := hide (om_kept (unhide M4) hg (om_ne (unhide M4) (unhide O5))); clear ho hg)
          go_roundw
          case rel => exact ⟨j + 1, by omega, by go_num, HO, HBB, HMM⟩
          case measure => simp [intOf]; omega
    · obtain rfl : j = n := by omega
      have HLL := hide (Ss.lst_own rfl (unhide how))
      go_wp2_with fail
      go_ret2
      exact ⟨_, rfl, unhide hbl, unhide HLL⟩
end Tp
end Go.Proofs.YtlcppgnnlgigmaaDoor
namespace Go.Proofs.YtlcppgnnlgigmaaDoor
open Go.ChangeShapes Go.WideShapes Go.ChangeAt Go.RowKit
set_option linter.unusedVariables false
set_option linter.unusedSimpArgs false
set_option maxRecDepth 100000
attribute [local go_sem ↓] Go.wp_at_zero Go.wp_at_succ
attribute [local go_sem] Go.strOfNums_size ByteArray.size_append
namespace Di
open W1
set_option maxRecDepth 100000 in
set_option maxHeartbeats 1000000 in
theorem digits10 (k : Nat) : k ≤ 9999999999 → ∀ w : World,
    Calls Tryd.prog 32 #[.int .i64 (k : Int)] w fun e w' => e = .returned (.string (dig k)) ∧ Below w.heap.size w w' := by
  induction k using Nat.strongRecOn with
  | ind k ih =>
  intro hk w
  by_cases h : k < 10
  · have hd := hide (dig_one h)
    have h1 : (k : Int) < 10 := by omega
    have hc := conv1 (w.alloc (Obj.cells #[Value.int IntKind.u8 (48 + (k : Int))] 5)) w.heap.size (48 + (k : Int)) (by simp [go_sem])
    clear ih
    go_enter Tryd.func32, Tryd.ntmps32
    go_wp2_with fail
    rw [unhide hd]
    go_ret
    exact ⟨rfl, (Below.refl _ _).alloc (Nat.le_refl _) _⟩
  · have hd := hide (dig_more h)
    have h1 : ¬ (k : Int) < 10 := by omega
    have hz := Tp.dig_size10 (k / 10) (by omega)
    have hih := hide (ih (k / 10) (by omega) (by omega))
    have hk10 : ((k / 10 : Nat) : Int) = (k : Int) / 10 := by omega
    rw [hk10] at hih
    have hc := fun W g => conv1 W g (48 + (k : Int) % 10)
    have hbl0 : Below w.heap.size w w := Below.refl _ _
    have hw1 : IntKind.i64.wrap ((k : Int) / 10) = (k : Int) / 10 := wrapS (by omega) (by omega)
    have htm : (k : Int).tmod 10 = (k : Int) % 10 := Int.tmod_eq_emod_of_nonneg (by omega)
    have hw2 : IntKind.i64.wrap (48 + (k : Int) % 10) = 48 + (k : Int) % 10 := wrapS (by omega) (by omega)
    have hw3 : IntKind.u8.wrap (48 + (k : Int) % 10) = 48 + (k : Int) % 10 := by rw [IntKind.wrap_u8]; omega
    have hnb : ∀ n : Int, ¬ (9223372036854775807 < (dig (k / 10)).size + (strOfNums [n]).size) := fun n => by rw [strOfNums_size]; simp; omega
    clear ih hk10
    generalize dig (k / 10) = dk at *
    go_enter Tryd.func32, Tryd.ntmps32
    go_wp2_with fail
    go_region_with (first
        | (go_at_call 32; refine (unhide hih _).mono ?_; rintro e w' ⟨rfl, hbel⟩; obtain ⟨hcc, hff⟩ := bcell hbel))
    all_goals have hH : Below w.heap.size w w' := by first | exact ((Below.refl w.heap.size w).drew).trans hbel | exact (((Below.refl w.heap.size w).alloc (Nat.le_refl _) _).drew).trans (hbel.mono (by simp))
    all_goals rw [unhide hd]
    all_goals clear hcc hff hbel
    all_goals go_wp2
    all_goals go_ret
    all_goals first | exact ⟨rfl, hH⟩ | exact ⟨rfl, hH.alloc hH.size _⟩
end Di
namespace Tp
open W1 Tu St Tw
theorem digs (n : Int) (h0 : 0 ≤ n) (h1 : n ≤ 9999999999) (w : World) :
    Calls Tryd.prog 32 #[.int .i64 n] w fun e w' => e = .returned (.string (dg n)) ∧ Below w.heap.size w w' := by
  obtain ⟨u, rfl⟩ := Int.eq_ofNat_of_zero_le h0
  exact Di.digits10 u (by omega) w
theorem edgN_all (es : List R) (frm : Int) : edgN frm es es.length = edgF es frm := by unfold edgN edgF; rw [List.take_length]
theorem sEt {w : World} {g o : Nat} {ad mt : Int} (h : Ed.At w g o ⟨ad, mt⟩) : Ed.At w g o ⟨ad, mt⟩ ∧ w.cell? ⟨g, o, none⟩ = some (.int .i64 ad) ∧ w.cell? ⟨g, o + 1, none⟩ = some (.int .i64 mt) := ⟨h, h.1, h.2⟩
set_option maxHeartbeats 8000000 in
theorem specText (a : Option Addr) (ss : List So.R) (ca : Nat) (b : Option Addr) (es : List R) (cb : Nat) (w : World) (hm : ss.length ≤ 1048576) (hl : es.length ≤ 1048576) (hr : So.RM w a ss) (hr' : RM w b es) :
    Calls Tryd.prog 10 #[.agg #[.slice a ss.length ca, .slice b es.length cb]] w fun e w' => ∃ v, e = .returned (.tuple #[v, .int .i64 (topC ss es)]) ∧ Below w.heap.size w w' ∧ Ss.LstV w' v (txtA ss es) w.heap.size w'.heap.size := by
  have HB : Hid (Below w.heap.size w (w.alloc (.cells #[.slice a ss.length ca, .slice b es.length cb] 26))) := hide ((Below.refl _ _).alloc (Nat.le_refl _) _)
  have HX : Hid (Bx2 (w.alloc (.cells #[.slice a ss.length ca, .slice b es.length cb] 26)) w.heap.size (.slice a ss.length ca) (.slice b es.length cb)) := hide (bx2_new w _ _ _)
  have HR := hide hr
  have HR' := hide hr'
  clear hr hr'
  obtain ⟨W0, hW0⟩ : ∃ W0, w.alloc (.cells #[.slice a ss.length ca, .slice b es.length cb] 26) = W0 := ⟨_, rfl⟩
  rw [hW0] at HB HX
  have HW0 := hide hW0
  clear hW0
  cases ht : topB ss es
  · have e1 : txtA ss es = [] := by unfold txtA; rw [ht]; rfl
    have e2 : topC ss es = 1 := by unfold topC; rw [ht]; rfl
    rw [e1, e2]
    have HT := hide ht
    clear ht e1 e2
    go_enter Tryd.func10, Tryd.ntmps10
    go_wp2_with fail
    rw [unhide HW0]
    refine (specOK a ss ca b es cb _ hm hl ((unhide HR).below (unhide HB)) ((unhide HR').below (unhide HB))).mono ?_
    rintro e w1 ⟨rfl, b1⟩
    rw [unhide HT]
    have HB1 := hide ((unhide HB).trans (b1.mono (unhide HB).size))
    have HB2 := hide ((unhide HB1).alloc (unhide HB1).size (.cells #[] 9))
    clear b1
    go_wp2_with fail
    go_ret2
    exact ⟨_, rfl, unhide HB2, Ss.lstV_nil _ _ _ _ _⟩
  have e1 : txtA ss es = txtL ss es ss.length := by unfold txtA; rw [if_pos ht]
  have e2 : topC ss es = 0 := by unfold topC; rw [if_pos ht]
  rw [e1, e2]
  clear e1 e2
  have HT := hide ht
  have h8 := src_len (top_src ht)
  have HTW := hide (top_two ht)
  have HSR := hide (top_src ht)
  clear ht
  generalize hN : ss.length = n at *
  have HN := hide hN
  clear hN
  go_enter Tryd.func10, Tryd.ntmps10
  go_wp2_with fail
  rw [unhide HW0]
  rw [← unhide HN]
  refine (specOK a ss ca b es cb _ (by have := unhide HN; omega) hl ((unhide HR).below (unhide HB)) ((unhide HR').below (unhide HB))).mono ?_
  rintro e w1 ⟨rfl, b1⟩
  rw [unhide HT, unhide HN]
  have HB1 := hide ((unhide HB).trans (b1.mono (unhide HB).size))
  have HX1 := hide ((unhide HX).below b1)
  have hb1 := (unhide HB1).size
  clear b1 HX HB
  have OW : Hid ((w1.alloc (.cells #[] 9)).ownsRow w1.heap.size 9 1 (.slice (some ⟨w1.heap.size, 0, none⟩) 0 0) (txtL ss es 0).length (Ss.flat (txtL ss es 0))) := hide (Ss.own_empty w1 w1.heap.size (Nat.le_refl _))
  have P1 : Hid (Below w1.heap.size w1 (w1.alloc (.cells #[] 9))) := hide ((Below.refl _ _).alloc (Nat.le_refl _) _)
  go_wp2_with fail
  go_loopw [4, 5] (fun v i wr => ∃ j : Nat, j ≤ n ∧ i = .int .i64 j ∧ Hid (wr.ownsRow w1.heap.size 9 1 v (txtL ss es j).length (Ss.flat (txtL ss es j))) ∧ Hid (Below w1.heap.size w1 wr)) (fun _ i _ => n - (intOf i).toNat)
  case atStart => exact ⟨0, by omega, rfl, OW, P1⟩
  case round =>
    obtain ⟨j, hj, rfl, how, hbl⟩ := hrel
    have HBw := hide ((unhide HB1).trans ((unhide hbl).mono (unhide HB1).size))
    have hbs := (unhide hbl).size
    obtain ⟨z0, z1⟩ := (unhide HX1).below (unhide hbl)
    by_cases hlt : (j : Int) < (n : Int)
    · have k0 : (0 : Int) ≤ (j : Int) := by omega
      have hlen : j < ss.length := by rw [unhide HN]; omega
      obtain ⟨g, off, rfl⟩ := (unhide HR).form (by omega)
      obtain ⟨c0, c1, c2⟩ := ((unhide HR).below (unhide HBw)).at hlen
      have hok := src_ok (unhide HSR) _ (So.getD_mem hlen)
      have HTF := hide (txtL_succ (es := es) hlen)
      have hfl := txtL_len ss es j
      generalize ss.getD j So.R.zero = x at *
      obtain ⟨ad, an, til⟩ := x
      have hbd := okS_in hok
      dsimp only at c0 c1 c2 hbd
      have HLS := hide (lnN_size (x := ⟨ad, an, til⟩) (E := edgF es ad) (by dsimp only; omega) (edg_in (unhide HTW) ad))
      have HEI := hide (edg_in (unhide HTW) ad)
      have hel := edgF_len (unhide HTW) ad
      have HFA : Hid (edgN ad es es.length = edgF es ad) := hide (edgN_all es ad)
      have HL0 : Hid (lnN ⟨ad, an, til⟩ (edgF es ad) 0 = dg ad ++ sAn ++ dg an ++ s58) := hide rfl
      have HLT : Hid (lnT es ⟨ad, an, til⟩ = lnN ⟨ad, an, til⟩ (edgF es ad) (edgF es ad).length) := hide rfl
      have sa := dg_size (n := ad) (by omega)
      have sn := dg_size (n := an) (by omega)
      generalize hda : dg ad = da at *
      have HDA := hide hda
      clear hda
      generalize hdn : dg an = dn at *
      have HDN := hide hdn
      clear hdn
      have qq0 : ¬ (9223372036854775807 < da.size + 6) := by omega
      have qq1 : ¬ (9223372036854775807 < da.size + 6 + dn.size) := by omega
      have qq2 : ¬ (9223372036854775807 < da.size + 6 + dn.size + 1) := by omega
      have HXS := hide (bs_new wr ⟨ad, an, til⟩ 38)
      have HBA := hide ((unhide hbl).alloc (unhide hbl).size (.cells #[.int .i64 ad, .int .i64 an, .int .i64 til] 38))
      have HOA := hide ((unhide how).alloc (.cells #[.int .i64 ad, .int .i64 an, .int .i64 til] 38))
      have HWF : Hid ((Lit.int .i64 ad).wf = true) := hide (WalkArith.wf_i64 ⟨by omega, by omega⟩)
      clear hok
      go_wp2_with fail
      generalize hV0 : wr.alloc (.cells #[.int .i64 ad, .int .i64 an, .int .i64 til] 38) = V0 at *
      clear hV0 c0 c1 c2 z0 z1
      generalize hB0 : wr.heap.size = B0 at *
      clear hB0
      refine wp_region_noPanic ?_
      refine wp_region_held_drew (S := fun w' => Bs w' B0 ⟨ad, an, til⟩ ∧ w'.cell? ⟨B0, 0, none⟩ = some (.int .i64 ad) ∧ w'.cell? ⟨B0, 1, none⟩ = some (.int .i64 an)) (by kernel_rfl) (sBs (unhide HXS).drew) (fun hHeld => ?_)
      (refine Rg.tk (i := 0) (d := 27) (v := ?_) rfl rfl (by kernel_rfl) (by kernel_rfl) (by kernel_rfl) (fun _ _ _ h => h) (by rfl) ?_ (by assumption) ?_; rotate_left; (focus (intro w0 hSw; (try dsimp only at hSw); go_simp; (try with_reducible rfl))); (try simp only [Act.put, List.setIfInBounds_toArray, List.set_cons_zero, List.set_cons_succ]))
      (refine Rg.tk (i := 1) (d := 28) (v := ?_) rfl rfl (by kernel_rfl) (by kernel_rfl) (by kernel_rfl) (fun _ _ _ h => h) (by rfl) ?_ (by assumption) ?_; rotate_left; (focus (intro w0 hSw; (try dsimp only at hSw); go_simp; (try with_reducible rfl))); (try simp only [Act.put, List.setIfInBounds_toArray, List.set_cons_zero, List.set_cons_succ]))
      (refine Rg.tk (i := 4) (d := 31) (v := ?_) rfl rfl (by kernel_rfl) (by kernel_rfl) (by kernel_rfl) (fun _ _ _ h => h) (by rfl) ?_ (by assumption) ?_; rotate_left; (focus (intro w0 hSw; (try dsimp only at hSw); go_simp; (try with_reducible rfl))); (try simp only [Act.put, List.setIfInBounds_toArray, List.set_cons_zero, List.set_cons_succ]))
      (refine Rg.tk (i := 5) (d := 32) (v := ?_) rfl rfl (by kernel_rfl) (by kernel_rfl) (by kernel_rfl) (fun _ _ _ h => h) (by rfl) ?_ (by assumption) ?_; rotate_left; (focus (intro w0 hSw; (try dsimp only at hSw); go_simp; (try with_reducible rfl))); (try simp only [Act.put, List.setIfInBounds_toArray, List.set_cons_zero, List.set_cons_succ]))
      (refine wpAnyH_ready (rs := [2]) (by kernel_rfl) (by simp) ?_; refine AllReadyH.cons (o := _) rfl (fun K hK => ?_) AllReadyH.nil; go_simp)
      refine (digs ad (by omega) (by omega) _).mono ?_
      rintro e v1 ⟨rfl, d1_⟩
      rw [unhide HDA]
      have d1 : Below V0.heap.size V0 v1 := (Below.refl _ _).drew.trans d1_
      have O1 := hide (Ss.own_below (unhide HOA) d1)
      have E1 := hide ((unhide HBA).trans (d1.mono (unhide HBA).size))
      have Y1 := hide ((unhide HXS).below d1)
      clear d1 d1_ hHeld HOA HBA HXS
      refine hK.out _ _ (sBs (unhide Y1)) (fun hHeld => ?_)
      clear hK K
      (try simp only [Act.put, List.setIfInBounds_toArray, List.set_cons_zero, List.set_cons_succ])
      (refine Rg.tk (i := 3) (d := 30) (v := ?_) rfl rfl (by kernel_rfl) (by kernel_rfl) (by kernel_rfl) (fun _ _ _ h => h) (by rfl) ?_ (by assumption) ?_; rotate_left; (focus (intro w0 hSw; (try dsimp only at hSw); go_simp; (try with_reducible rfl))); (try simp only [Act.put, List.setIfInBounds_toArray, List.set_cons_zero, List.set_cons_succ]))
      (refine wpAnyH_ready (rs := [6]) (by kernel_rfl) (by simp) ?_; refine AllReadyH.cons (o := _) rfl (fun K hK => ?_) AllReadyH.nil; go_simp)
      refine (digs an (by omega) (by omega) _).mono ?_
      rintro e v2 ⟨rfl, d2⟩
      rw [unhide HDN]
      have O2 := hide (Ss.own_below (unhide O1) d2)
      have E2 := hide ((unhide E1).trans (d2.mono (unhide E1).size))
      have Y2 := hide ((unhide Y1).below d2)
      clear d2 hHeld O1 E1 Y1
      refine hK.out _ _ (sBs (unhide Y2)) (fun hHeld => ?_)
      clear hK K
      (try simp only [Act.put, List.setIfInBounds_toArray, List.set_cons_zero, List.set_cons_succ])
      (refine Rg.tk (i := 7) (d := 34) (v := ?_) rfl rfl (by kernel_rfl) (by kernel_rfl) (by kernel_rfl) (fun _ _ _ h => h) (by rfl) ?_ (by assumption) ?_; rotate_left; (focus (intro w0 hSw; (try dsimp only at hSw); go_simp; (try with_reducible rfl))); (try simp only [Act.put, List.setIfInBounds_toArray, List.set_cons_zero, List.set_cons_succ]))
      (refine Rg.tk (i := 8) (d := 35) (v := ?_) rfl rfl (by kernel_rfl) (by kernel_rfl) (by kernel_rfl) (fun _ _ _ h => h) (by rfl) ?_ (by assumption) ?_; rotate_left; (focus (intro w0 hSw; (try dsimp only at hSw); go_simp; (try with_reducible rfl))); (try simp only [Act.put, List.setIfInBounds_toArray, List.set_cons_zero, List.set_cons_succ]))
      (refine Rg.tk (i := 9) (d := 7) (v := ?_) rfl rfl (by kernel_rfl) (by kernel_rfl) (by kernel_rfl) (fun _ _ _ h => h) (by rfl) ?_ (by assumption) ?_; rotate_left; (focus (intro w0 hSw; (try dsimp only at hSw); go_simp; (try with_reducible rfl))); (try simp only [Act.put, List.setIfInBounds_toArray, List.set_cons_zero, List.set_cons_succ]))
      refine wpAnyH_done (by kernel_rfl) (NoPanic.normal ?_) _
      clear hHeld
      obtain ⟨y0, y1, y2⟩ := unhide Y2
      obtain ⟨z0, z1⟩ := (unhide HX1).below (unhide E2)
      go_wp2_with fail
      clear y0 y1 y2 z0 z1
      refine (l09Edges _ b es es.length cb ad _ rfl (unhide HTW) ((unhide HR').below ((unhide HB1).trans ((unhide E2).mono (unhide HB1).size)))).mono ?_
      rintro e v3 ⟨vE, rfl, d3, lE⟩
      rw [unhide HFA] at lE
      obtain ⟨aE, cE, rfl, LE⟩ := lE
      have O3 := hide (Ss.own_below (unhide O2) d3)
      have E3 := hide ((unhide E2).trans (d3.mono (unhide E2).size))
      have R3 := hide LE.rm
      clear d3 LE O2 E2 Y2
      obtain ⟨L0, hL0⟩ : ∃ L0, da ++ sAn ++ dn ++ s58 = L0 := ⟨_, rfl⟩
      rw [hL0] at HL0
      try rw [hL0]
      have HLL0 := hide hL0
      clear hL0
      generalize edgF es ad = E at *
      generalize hNE : E.length = ne at *
      have HNE := hide hNE
      clear hNE
      go_wp2_with fail
      clear how hbl HBw hbs qq0 qq1 qq2 sa sn
      go_loopw [7, 9] (fun v i wq => ∃ k : Nat, k ≤ ne ∧ i = .int .i64 k ∧ v = .string (lnN ⟨ad, an, til⟩ E k) ∧ Hid (Below v3.heap.size v3 wq)) (fun _ i _ => ne - (intOf i).toNat)
      case atStart => exact ⟨0, by omega, rfl, by first | (rw [unhide HL0]; done) | (rw [unhide HL0, ← unhide HLL0]), hide (Below.refl _ _)⟩
      case round =>
        obtain ⟨k, hk, rfl, rfl, hblk⟩ := hrel
        by_cases hltk : (k : Int) < (ne : Int)
        · have k1 : (0 : Int) ≤ (k : Int) := by omega
          have hlenk : k < E.length := by rw [unhide HNE]; omega
          obtain ⟨gE, oE, rfl⟩ := (unhide R3).form (by omega)
          have hAt := ((unhide R3).below (unhide hblk)).at hlenk
          have hei := unhide HEI _ (ed_mem hlenk)
          have hls := unhide HLS k (by omega)
          have HSU : Hid (lnN ⟨ad, an, til⟩ E (k + 1) = lnN ⟨ad, an, til⟩ E k ++ edT (E.getD k Ed.R.zero)) := hide rfl
          generalize E.getD k Ed.R.zero = m at *
          obtain ⟨ead, emt⟩ := m
          dsimp only at hei
          have HAt := hide hAt
          clear hAt
          have HET : Hid (edT ⟨ead, emt⟩ = s32 ++ dg ead ++ s32 ++ dg emt) := hide rfl
          rw [unhide HET] at HSU
          have se := dg_size (n := ead) (by omega)
          have sm := dg_size (n := emt) (by omega)
          generalize hde : dg ead = de at *
          have HDE := hide hde
          clear hde
          generalize hdm : dg emt = dm at *
          have HDM := hide hdm
          clear hdm
          obtain ⟨LK, hLK⟩ : ∃ LK, lnN ⟨ad, an, til⟩ E k = LK := ⟨_, rfl⟩
          rw [hLK] at hls HSU
          rw [hLK]
          clear hLK
          have qq0 : ¬ (9223372036854775807 < 1 + de.size) := by omega
          have qq1 : ¬ (9223372036854775807 < 1 + de.size + 1) := by omega
          have qq2 : ¬ (9223372036854775807 < 1 + de.size + 1 + dm.size) := by omega
          have qq3 : ¬ (9223372036854775807 < LK.size + (1 + de.size + 1 + dm.size)) := by omega
          go_wp2_with fail
          refine wp_region_noPanic ?_
          refine wp_region_held_drew (S := fun w' => Ed.At w' gE (oE + k * 2) ⟨ead, emt⟩ ∧ w'.cell? ⟨gE, oE + k * 2, none⟩ = some (.int .i64 ead) ∧ w'.cell? ⟨gE, oE + k * 2 + 1, none⟩ = some (.int .i64 emt)) (by kernel_rfl) (sEt (unhide HAt).drew) (fun hHeld => ?_)
          (refine Rg.tk (i := 0) (d := 46) (v := ?_) rfl rfl (by kernel_rfl) (by kernel_rfl) (by kernel_rfl) (fun _ _ _ h => h) (by rfl) ?_ (by assumption) ?_; rotate_left; (focus (intro w0 hSw; (try dsimp only at hSw); go_simp; (try with_reducible rfl))); (try simp only [Act.put, List.setIfInBounds_toArray, List.set_cons_zero, List.set_cons_succ]))
          (refine Rg.tk (i := 1) (d := 47) (v := ?_) rfl rfl (by kernel_rfl) (by kernel_rfl) (by kernel_rfl) (fun _ _ _ h => h) (by rfl) ?_ (by assumption) ?_; rotate_left; (focus (intro w0 hSw; (try dsimp only at hSw); go_simp; (try with_reducible rfl))); (try simp only [Act.put, List.setIfInBounds_toArray, List.set_cons_zero, List.set_cons_succ]))
          (refine Rg.tk (i := 2) (d := 48) (v := ?_) rfl rfl (by kernel_rfl) (by kernel_rfl) (by kernel_rfl) (fun _ _ _ h => h) (by rfl) ?_ (by assumption) ?_; rotate_left; (focus (intro w0 hSw; (try dsimp only at hSw); go_simp; (try with_reducible rfl))); (try simp only [Act.put, List.setIfInBounds_toArray, List.set_cons_zero, List.set_cons_succ]))
          (refine Rg.tk (i := 3) (d := 49) (v := ?_) rfl rfl (by kernel_rfl) (by kernel_rfl) (by kernel_rfl) (fun _ _ _ h => h) (by rfl) ?_ (by assumption) ?_; rotate_left; (focus (intro w0 hSw; (try dsimp only at hSw); go_simp; (try with_reducible rfl))); (try simp only [Act.put, List.setIfInBounds_toArray, List.set_cons_zero, List.set_cons_succ]))
          (refine Rg.tk (i := 4) (d := 50) (v := ?_) rfl rfl (by kernel_rfl) (by kernel_rfl) (by kernel_rfl) (fun _ _ _ h => h) (by rfl) ?_ (by assumption) ?_; rotate_left; (focus (intro w0 hSw; (try dsimp only at hSw); go_simp; (try with_reducible rfl))); (try simp only [Act.put, List.setIfInBounds_toArray, List.set_cons_zero, List.set_cons_succ]))
          (refine Rg.tk (i := 5) (d := 51) (v := ?_) rfl rfl (by kernel_rfl) (by kernel_rfl) (by kernel_rfl) (fun _ _ _ h => h) (by rfl) ?_ (by assumption) ?_; rotate_left; (focus (intro w0 hSw; (try dsimp only at hSw); go_simp; (try with_reducible rfl))); (try simp only [Act.put, List.setIfInBounds_toArray, List.set_cons_zero, List.set_cons_succ]))
          (refine Rg.tk (i := 9) (d := 55) (v := ?_) rfl rfl (by kernel_rfl) (by kernel_rfl) (by kernel_rfl) (fun _ _ _ h => h) (by rfl) ?_ (by assumption) ?_; rotate_left; (focus (intro w0 hSw; (try dsimp only at hSw); go_simp; (try with_reducible rfl))); (try simp only [Act.put, List.setIfInBounds_toArray, List.set_cons_zero, List.set_cons_succ]))
          (refine Rg.tk (i := 10) (d := 56) (v := ?_) rfl rfl (by kernel_rfl) (by kernel_rfl) (by kernel_rfl) (fun _ _ _ h => h) (by rfl) ?_ (by assumption) ?_; rotate_left; (focus (intro w0 hSw; (try dsimp only at hSw); go_simp; (try with_reducible rfl))); (try simp only [Act.put, List.setIfInBounds_toArray, List.set_cons_zero, List.set_cons_succ]))
          (refine Rg.tk (i := 11) (d := 57) (v := ?_) rfl rfl (by kernel_rfl) (by kernel_rfl) (by kernel_rfl) (fun _ _ _ h => h) (by rfl) ?_ (by assumption) ?_; rotate_left; (focus (intro w0 hSw; (try dsimp only at hSw); go_simp; (try with_reducible rfl))); (try simp only [Act.put, List.setIfInBounds_toArray, List.set_cons_zero, List.set_cons_succ]))
          (refine Rg.tk (i := 12) (d := 58) (v := ?_) rfl rfl (by kernel_rfl) (by kernel_rfl) (by kernel_rfl) (fun _ _ _ h => h) (by rfl) ?_ (by assumption) ?_; rotate_left; (focus (intro w0 hSw; (try dsimp only at hSw); go_simp; (try with_reducible rfl))); (try simp only [Act.put, List.setIfInBounds_toArray, List.set_cons_zero, List.set_cons_succ]))
          (refine Rg.tk (i := 13) (d := 59) (v := ?_) rfl rfl (by kernel_rfl) (by kernel_rfl) (by kernel_rfl) (fun _ _ _ h => h) (by rfl) ?_ (by assumption) ?_; rotate_left; (focus (intro w0 hSw; (try dsimp only at hSw); go_simp; (try with_reducible rfl))); (try simp only [Act.put, List.setIfInBounds_toArray, List.set_cons_zero, List.set_cons_succ]))
          (refine wpAnyH_ready (rs := [6]) (by kernel_rfl) (by simp) ?_; refine AllReadyH.cons (o := _) rfl (fun K hK => ?_) AllReadyH.nil; go_simp)
          refine (digs ead (by omega) (by omega) _).mono ?_
          rintro e x1 ⟨rfl, f1_⟩
          rw [unhide HDE]
          have f1 : Below wr.heap.size wr x1 := (Below.refl _ _).drew.trans f1_
          have F1 := hide ((unhide hblk).trans (f1.mono (unhide hblk).size))
          have X1 := hide ((unhide HAt).below f1)
          clear f1 f1_ hHeld HAt
          refine hK.out _ _ (sEt (unhide X1)) (fun hHeld => ?_)
          clear hK K
          (try simp only [Act.put, List.setIfInBounds_toArray, List.set_cons_zero, List.set_cons_succ])
          (refine Rg.tk (i := 7) (d := 53) (v := ?_) rfl rfl (by kernel_rfl) (by kernel_rfl) (by kernel_rfl) (fun _ _ _ h => h) (by rfl) ?_ (by assumption) ?_; rotate_left; (focus (intro w0 hSw; (try dsimp only at hSw); go_simp; (try with_reducible rfl))); (try simp only [Act.put, List.setIfInBounds_toArray, List.set_cons_zero, List.set_cons_succ]))
          (refine Rg.tk (i := 8) (d := 54) (v := ?_) rfl rfl (by kernel_rfl) (by kernel_rfl) (by kernel_rfl) (fun _ _ _ h => h) (by rfl) ?_ (by assumption) ?_; rotate_left; (focus (intro w0 hSw; (try dsimp only at hSw); go_simp; (try with_reducible rfl))); (try simp only [Act.put, List.setIfInBounds_toArray, List.set_cons_zero, List.set_cons_succ]))
          (refine wpAnyH_ready (rs := [14]) (by kernel_rfl) (by simp) ?_; refine AllReadyH.cons (o := _) rfl (fun K hK => ?_) AllReadyH.nil; go_simp)
          refine (digs emt (by omega) (by omega) _).mono ?_
          rintro e x2 ⟨rfl, f2⟩
          rw [unhide HDM]
          have F2 := hide ((unhide F1).trans (f2.mono (unhide F1).size))
          have X2 := hide ((unhide X1).below f2)
          clear f2 hHeld F1 X1
          refine hK.out _ _ (sEt (unhide X2)) (fun hHeld => ?_)
          clear hK K
          (try simp only [Act.put, List.setIfInBounds_toArray, List.set_cons_zero, List.set_cons_succ])
          (refine Rg.tk (i := 15) (d := 61) (v := ?_) rfl rfl (by kernel_rfl) (by kernel_rfl) (by kernel_rfl) (fun _ _ _ h => h) (by rfl) ?_ (by assumption) ?_; rotate_left; (focus (intro w0 hSw; (try dsimp only at hSw); go_simp; (try with_reducible rfl))); (try simp only [Act.put, List.setIfInBounds_toArray, List.set_cons_zero, List.set_cons_succ]))
          (refine Rg.tk (i := 16) (d := 62) (v := ?_) rfl rfl (by kernel_rfl) (by kernel_rfl) (by kernel_rfl) (fun _ _ _ h => h) (by rfl) ?_ (by assumption) ?_; rotate_left; (focus (intro w0 hSw; (try dsimp only at hSw); go_simp; (try with_reducible rfl))); (try simp only [Act.put, List.setIfInBounds_toArray, List.set_cons_zero, List.set_cons_succ]))
          (refine Rg.tk (i := 17) (d := 7) (v := ?_) rfl rfl (by kernel_rfl) (by kernel_rfl) (by kernel_rfl) (fun _ _ _ h => h) (by rfl) ?_ (by assumption) ?_; rotate_left; (focus (intro w0 hSw; (try dsimp only at hSw); go_simp; (try with_reducible rfl))); (try simp only [Act.put, List.setIfInBounds_toArray, List.set_cons_zero, List.set_cons_succ]))
          refine wpAnyH_done (by kernel_rfl) (NoPanic.normal ?_) _
          clear hHeld
          go_wp2_with fail
          go_roundw
          case rel => exact ⟨k + 1, by omega, by go_num, by rw [unhide HSU], F2⟩
          case measure => simp [intOf]; omega
        · obtain rfl : k = ne := by omega
          have O4 := hide (Ss.own_below (unhide O3) (unhide hblk))
          have E4 := hide ((unhide E3).trans ((unhide hblk).mono (unhide E3).size))
          have E5 := hide ((unhide E4).alloc (unhide E4).size (.cells #[.string (lnN ⟨ad, an, til⟩ E k)] 9))
          have hs5 := (unhide E4).size
          have hs6 := (unhide E5).size
          have O5 := hide ((unhide O4).alloc (.cells #[.string (lnN ⟨ad, an, til⟩ E k)] 9))
          rw [unhide HLT] at HTF
          generalize lnN ⟨ad, an, til⟩ E k = LK at *
          go_wp2_with (at_builtin; refine Ss.wpList_apS (unhide O5) wr.heap.size 0 1 1 [LK] rfl (Ss.rm_new wr LK) (by simp only [List.length_cons, List.length_nil]; omega) hs6 rfl _ _ rfl rfl rfl ?_; intro v' w' ho hg; have HO : Hid (w'.ownsRow w1.heap.size 9 1 v' (txtL ss es (j + 1)).length (Ss.flat (txtL ss es (j + 1)))) := hide (by rw [unhide HTF]; exact ho); have HBB := hide (Ss.below_own (unhide E5) (unhide O5) hg (Nat.le_refl _) hs6); clear ho hg)
          go_roundw
          case rel => exact ⟨j + 1, by omega, by go_num, HO, HBB⟩
          case measure => simp [intOf]; omega
    · obtain rfl : j = n := by omega
      have HLL := hide ((Ss.lst_own rfl (unhide how)).mono hb1 (Nat.le_refl _))
      go_wp2_with fail
      go_ret2
      exact ⟨_, rfl, unhide HBw, unhide HLL⟩
end Tp
end Go.Proofs.YtlcppgnnlgigmaaDoor
