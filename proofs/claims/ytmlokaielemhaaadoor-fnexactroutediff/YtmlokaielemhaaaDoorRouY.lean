/-
  RouteDiff, the program's and the model's. (written by mkrouy.py)
-/
import Derived.Test.YtmlokaielemhaaaDoorRouX
namespace Go.Proofs.YtmlokaielemhaaaDoor
open Go.ChangeShapes Go.WideShapes Go.ChangeAt Go.RowKit
set_option linter.unusedVariables false
set_option linter.unusedSimpArgs false
set_option maxRecDepth 100000
attribute [local go_sem ↓] Go.wp_at_zero Go.wp_at_succ
attribute [local go_sem] ByteArray.size_append
namespace Rw
open W1 Ro
abbrev sMi : ByteArray := ⟨#[45, 32]⟩
abbrev sPl : ByteArray := ⟨#[43, 32]⟩
/-- Whether two routes differ. -/
def neB (m k : R) : Bool := !((m.ds == k.ds) && ((m.nx == k.nx) && ((m.co == k.co) && (m.hp == k.hp))))
/-- What is told of an address; of the first k addresses; what RouteDiff answers. -/
def dl (x y : R) : List ByteArray := (if (neB x y && (x.ds != 0)) = true then [sMi ++ lnT x] else []) ++ (if (neB x y && (y.ds != 0)) = true then [sPl ++ lnT y] else [])
def difN (ms ns : List R) : Nat → List ByteArray
  | 0 => []
  | k + 1 => difN ms ns k ++ dl (fT ms ((k : Int) + 1)) (fT ns ((k : Int) + 1))
def difA (ms ns : List R) : List ByteArray := if codeR2 ms ns = 0 then difN ms ns 8 else []
theorem dl_len (x y : R) : (dl x y).length ≤ 2 := by unfold dl; split <;> split <;> simp
theorem difN_len (ms ns : List R) : ∀ k, (difN ms ns k).length ≤ 2 * k
  | 0 => Nat.le_refl _
  | k + 1 => by have := difN_len ms ns k; have := dl_len (fT ms ((k : Int) + 1)) (fT ns ((k : Int) + 1)); simp only [difN, List.length_append]; omega
theorem dif_len (ms ns : List R) : (difA ms ns).length ≤ 16 := by
  unfold difA; split
  · exact difN_len ms ns 8
  · simp
theorem has_ds {ss : List R} {a : Int} (h1 : 1 ≤ a) : ((fT ss a).ds != 0) = hasT ss a := by
  cases h : hasT ss a
  · rw [fT_none h]; rfl
  · rw [(fT_mem h).2]; simp; omega
/-- The five ways of an address. -/
theorem dl_ways (x y : R) : (((x.ds != 0) = false ∧ (y.ds != 0) = false) ∨ ((x.ds != 0) = true ∧ (y.ds != 0) = false ∧ neB x y = true ∧ dl x y = [sMi ++ lnT x]) ∨ ((x.ds != 0) = false ∧ (y.ds != 0) = true ∧ neB x y = true ∧ dl x y = [sPl ++ lnT y]) ∨ ((x.ds != 0) = true ∧ (y.ds != 0) = true ∧ neB x y = false ∧ dl x y = []) ∨ ((x.ds != 0) = true ∧ (y.ds != 0) = true ∧ neB x y = true ∧ dl x y = [sMi ++ lnT x, sPl ++ lnT y])) := by
  cases e1 : (x.ds != 0)
  · cases e2 : (y.ds != 0)
    · exact .inl ⟨rfl, rfl⟩
    · have hn : neB x y = true := by
        have h1 : x.ds = 0 := by simpa using e1
        have h2 : y.ds ≠ 0 := by simpa using e2
        unfold neB; rw [h1]; simp; omega
      exact .inr (.inr (.inl ⟨rfl, rfl, hn, by unfold dl; rw [hn, e1, e2]; rfl⟩))
  · cases e2 : (y.ds != 0)
    · have hn : neB x y = true := by
        have h1 : x.ds ≠ 0 := by simpa using e1
        have h2 : y.ds = 0 := by simpa using e2
        unfold neB; rw [h2]; simp; omega
      exact .inr (.inl ⟨rfl, rfl, hn, by unfold dl; rw [hn, e1, e2]; rfl⟩)
    · cases hn : neB x y
      · exact .inr (.inr (.inr (.inl ⟨rfl, rfl, rfl, by unfold dl; rw [hn]; rfl⟩)))
      · exact .inr (.inr (.inr (.inr ⟨rfl, rfl, rfl, by unfold dl; rw [hn, e1, e2]; rfl⟩)))
theorem zero_ways {ms ns : List R} {a : Int} (h1 : 1 ≤ a) (hx : ((fT ms a).ds != 0) = false) (hy : ((fT ns a).ds != 0) = false) : neB (fT ms a) (fT ns a) = false ∧ dl (fT ms a) (fT ns a) = [] := by
  rw [has_ds h1] at hx hy
  rw [fT_none hx, fT_none hy]
  exact ⟨rfl, rfl⟩
theorem neqG (x y z u x2 y2 z2 u2 : Int) (w : World) : (binOp .neq 39 (.agg #[.int .i64 x, .int .i64 y, .int .i64 z, .int .i64 u]) (.agg #[.int .i64 x2, .int .i64 y2, .int .i64 z2, .int .i64 u2])).run Tryd.prog w = .ok (.bool (neB ⟨x, y, z, u⟩ ⟨x2, y2, z2, u2⟩)) w := by
  have u3 := Tryd.underlying3
  have a3 := Tryd.isAgg3
  have z3 := Tryd.sizeOf3
  have hS : Tryd.prog.underlying 39 = some (.struct (Tryd.prog.fieldsOf 39)) := by kernel_rfl
  have hp : Tryd.prog.stoodInHeld 39 = false := by kernel_rfl
  rw [run_neq_struct, show (10000 : Nat) = 9999 + 1 from rfl, run_equalIn_agg w 9999 39 _ _ hS hp]
  simp only [Program.fieldsOf, Tryd.underlying39]
  unfold neB
  dsimp only
  cases e1 : (x == x2) <;> cases e2 : (y == y2) <;> cases e3 : (z == z2) <;> cases e4 : (u == u2) <;> (go_simp; try simp_all)
theorem rv_ne {w : World} {b : Nat} {m : R} {base : Nat} {v : Value} {n : Nat} {xs : List Value} (h : RV w b m) (ho : w.ownsRow base 9 1 v n xs) : some b ≠ v.ownBlock := by
  rcases ho.2 with ⟨rfl, _⟩ | ⟨g, cap, cur, rfl, _, hg, _⟩
  · simp [Value.ownBlock]
  · intro e1
    have : b = g := by simpa [Value.ownBlock] using e1
    subst this
    unfold RV at h
    rw [h] at hg
    simp at hg
theorem rv_kept {w w' : World} {b : Nat} {m : R} {r : Option Nat} (h : RV w b m) (hg : w.grownBy w' r) (hne : some b ≠ r) : RV w' b m := (hg.block b h.lt hne).trans h
set_option maxHeartbeats 16000000 in
theorem implDiff (a : Option Addr) (ms : List R) (ca : Nat) (b : Option Addr) (ns : List R) (cb : Nat) (w : World) (hm : ms.length ≤ 1048576) (hn : ns.length ≤ 1048576) (hr : RM w a ms) (hr' : RM w b ns) (hp : TabP w) :
    Calls Tryd.prog 15 #[.slice a ms.length ca, .slice b ns.length cb] w fun e w' => ∃ v, e = .returned (.tuple #[v, .int .i64 (codeR2 ms ns)]) ∧ Below w.heap.size w w' ∧ Ss.LstV w' v (difA ms ns) w.heap.size w'.heap.size := by
  have HP := hide (Lib.tabBelow_of_tabIs hp)
  have HR := hide hr
  have HR' := hide hr'
  clear hr hr' hp
  have KC := hide (fun W => routesCode a ms ca b ns cb W hm hn)
  by_cases hc : codeR2 ms ns = 0
  rotate_left
  · have h1 : difA ms ns = [] := by unfold difA; rw [if_neg hc]
    rw [h1]
    clear h1
    generalize codeR2 ms ns = cd at *
    have q1 : (cd != 0) = true := by simpa using hc
    clear hc
    go_enter Tryd.func15, Tryd.ntmps15
    go_wp2_with fail
    refine (unhide KC _ (unhide HR) (unhide HR')).mono ?_
    rintro e w1 ⟨rfl, b1⟩
    have HB1 := hide b1
    clear b1
    go_wp2_with fail
    go_ret2
    exact ⟨_, rfl, unhide HB1, Ss.lstV_nil _ _ _ _ _⟩
  have hoks : rouB ms = true ∧ rouB ns = true := by
    unfold codeR2 at hc; split at hc
    · cases hc
    · split at hc
      · assumption
      · cases hc
  have h8a := rou_len hoks.1
  have h8b := rou_len hoks.2
  have HOKA := hide hoks.1
  have HOKB := hide hoks.2
  have h1 : difA ms ns = difN ms ns 8 := by unfold difA; rw [if_pos hc]
  rw [h1]
  rw [hc] at KC ⊢
  clear h1 hc hoks
  have OW : Hid (∀ W : World, W.ownsRow w.heap.size 9 1 (.slice none 0 0) (difN ms ns 0).length (Ss.flat (difN ms ns 0))) := hide (fun W => Ss.own_nil W _)
  have KA := hide (fun k W h => routeAt a ms ca k W h (up_rou (unhide HOKA)) (by omega))
  have KB := hide (fun k W h => routeAt b ns cb k W h (up_rou (unhide HOKB)) (by omega))
  go_enter Tryd.func15, Tryd.ntmps15
  go_wp2_with fail
  refine (unhide KC _ (unhide HR) (unhide HR')).mono ?_
  rintro e w1 ⟨rfl, b1⟩
  have DM := hide b1
  clear b1
  go_wp2_with fail
  go_loopw [7, 8] (fun v i wr => ∃ k : Nat, k ≤ 8 ∧ i = .int .i64 ((k : Int) + 1) ∧ Hid (wr.ownsRow w.heap.size 9 1 v (difN ms ns k).length (Ss.flat (difN ms ns k))) ∧ Hid (Below w.heap.size w wr)) (fun _ i _ => 9 - (intOf i).toNat)
  case atStart => exact ⟨0, by omega, rfl, hide (unhide OW _), DM⟩
  case round =>
    obtain ⟨k, hk, rfl, how, hbl⟩ := hrel
    by_cases hlt : (k : Int) + 1 ≤ 8
    · have h1a : (1 : Int) ≤ (k : Int) + 1 := by omega
      have hways := dl_ways (fT ms ((k : Int) + 1)) (fT ns ((k : Int) + 1))
      have HZW := hide (zero_ways (ms := ms) (ns := ns) h1a)
      have HOX : Hid (((fT ms ((k : Int) + 1)).ds != 0) = true → okT (fT ms ((k : Int) + 1)) = true) := hide (fun h => rou_ok (unhide HOKA) _ (fT_mem (by rw [← has_ds h1a]; exact h)).1)
      have HOY : Hid (((fT ns ((k : Int) + 1)).ds != 0) = true → okT (fT ns ((k : Int) + 1)) = true) := hide (fun h => rou_ok (unhide HOKB) _ (fT_mem (by rw [← has_ds h1a]; exact h)).1)
      have HDN : Hid (difN ms ns (k + 1) = difN ms ns k ++ dl (fT ms ((k : Int) + 1)) (fT ns ((k : Int) + 1))) := hide rfl
      have hfl := difN_len ms ns k
      go_wp2_with fail
      refine (unhide KA _ _ ((unhide HR).below (unhide hbl))).mono ?_
      rintro e v1 ⟨rfl, d1⟩
      have O1 := hide (Ss.own_below (unhide how) d1)
      have E1 := hide ((unhide hbl).trans (d1.mono (unhide hbl).size))
      clear d1 how hbl
      go_wp2_with fail
      refine (unhide KB _ _ ((unhide HR').below (unhide E1))).mono ?_
      rintro e v2 ⟨rfl, d2⟩
      have O2 := hide (Ss.own_below (unhide O1) d2)
      have E2 := hide ((unhide E1).trans (d2.mono (unhide E1).size))
      clear d2 O1 E1
      generalize fT ms ((k : Int) + 1) = x at *
      generalize fT ns ((k : Int) + 1) = y at *
      obtain ⟨xd, xn, xc, xh⟩ := x
      obtain ⟨yd, yn, yc, yh⟩ := y
      dsimp only [R.value] at *
      have hnq := neqG xd xn xc xh yd yn yc yh
      have Kx := hide (implLine ⟨xd, xn, xc, xh⟩)
      have Ky := hide (implLine ⟨yd, yn, yc, yh⟩)
      obtain ⟨LX, hLX⟩ : ∃ LX, lnT ⟨xd, xn, xc, xh⟩ = LX := ⟨_, rfl⟩
      obtain ⟨LY, hLY⟩ : ∃ LY, lnT ⟨yd, yn, yc, yh⟩ = LY := ⟨_, rfl⟩
      rw [hLX] at Kx
      rw [hLY] at Ky
      have HLX := hide hLX
      have HLY := hide hLY
      clear hLX hLY
      have X3 := hide ((rv_new v2 ⟨xd, xn, xc, xh⟩).below ((Below.refl _ _).alloc (Nat.le_refl _) (.cells #[.int .i64 yd, .int .i64 yn, .int .i64 yc, .int .i64 yh] 39)))
      have Y3 := hide (rv_new (v2.alloc (.cells #[.int .i64 xd, .int .i64 xn, .int .i64 xc, .int .i64 xh] 39)) ⟨yd, yn, yc, yh⟩)
      have O3 := hide (((unhide O2).alloc (.cells #[.int .i64 xd, .int .i64 xn, .int .i64 xc, .int .i64 xh] 39)).alloc (.cells #[.int .i64 yd, .int .i64 yn, .int .i64 yc, .int .i64 yh] 39))
      have E3 := hide (((unhide E2).alloc (unhide E2).size (.cells #[.int .i64 xd, .int .i64 xn, .int .i64 xc, .int .i64 xh] 39)).alloc ((unhide E2).alloc (unhide E2).size (.cells #[.int .i64 xd, .int .i64 xn, .int .i64 xc, .int .i64 xh] 39)).size (.cells #[.int .i64 yd, .int .i64 yn, .int .i64 yc, .int .i64 yh] 39))
      rw [show (v2.alloc (.cells #[.int .i64 xd, .int .i64 xn, .int .i64 xc, .int .i64 xh] 39)).heap.size = v2.heap.size + 1 by simp] at Y3
      dsimp only at X3 Y3
      clear O2 E2
      rcases hways with ⟨wx, wy⟩ | ⟨wx, wy, hn, hd⟩ | ⟨wx, wy, hn, hd⟩ | ⟨wx, wy, hn, hd⟩ | ⟨wx, wy, hn, hd⟩
      · obtain ⟨hn, hd⟩ := unhide HZW wx wy
        rw [hd, List.append_nil] at HDN
        rw [hn] at hnq
        clear hd hn HZW
        have O9 : Hid (((v2.alloc (.cells #[.int .i64 xd, .int .i64 xn, .int .i64 xc, .int .i64 xh] 39)).alloc (.cells #[.int .i64 yd, .int .i64 yn, .int .i64 yc, .int .i64 yh] 39)).ownsRow w.heap.size 9 1 u7 (difN ms ns (k + 1)).length (Ss.flat (difN ms ns (k + 1)))) := hide (by rw [unhide HDN]; exact unhide O3)
        obtain ⟨x0, x1, x2, x3⟩ := (unhide X3).cells
        obtain ⟨y0, y1, y2, y3⟩ := (unhide Y3).cells
        dsimp only at x0 x1 x2 x3 y0 y1 y2 y3 wx wy
        go_wp2_with fail
        go_roundw
        case rel => exact ⟨k + 1, by omega, by go_num, O9, E3⟩
        case measure => simp [intOf]; omega
      · have OxK := hide (unhide HOX wx)
        have Sx := hide (ln_size (unhide OxK))
        rw [unhide HLX] at hd Sx
        have HTF : Hid (difN ms ns (k + 1) = difN ms ns k ++ [sMi ++ LX]) := hide (by rw [unhide HDN, hd])
        rw [hn] at hnq
        clear hd hn HZW
        obtain ⟨x0, x1, x2, x3⟩ := (unhide X3).cells
        obtain ⟨y0, y1, y2, y3⟩ := (unhide Y3).cells
        dsimp only at x0 x1 x2 x3 y0 y1 y2 y3 wx wy
        go_wp2_with fail
        refine (unhide Kx _ (unhide OxK) (unhide HP _ (unhide E3))).mono ?_
        rintro e v4 ⟨rfl, d4⟩
        have O4 := hide (Ss.own_below (unhide O3) d4)
        have E4 := hide ((unhide E3).trans (d4.mono (unhide E3).size))
        have X4 := hide ((unhide X3).below d4)
        have Y4 := hide ((unhide Y3).below d4)
        clear d4 O3 E3 X3 Y3 x0 x1 x2 x3 y0 y1 y2 y3
        have hq4 : ¬ (9223372036854775807 < 2 + LX.size) := by have := unhide Sx; omega
        have O4a := hide ((unhide O4).alloc (.cells #[.string (sMi ++ LX)] 9))
        have E4a := hide ((unhide E4).alloc (unhide E4).size (.cells #[.string (sMi ++ LX)] 9))
        have X4a := hide ((unhide X4).below ((Below.refl _ _).alloc (Nat.le_refl _) (.cells #[.string (sMi ++ LX)] 9)))
        have Y4a := hide ((unhide Y4).below ((Below.refl _ _).alloc (Nat.le_refl _) (.cells #[.string (sMi ++ LX)] 9)))
        have hs4 := (unhide E4a).size
        go_wp2_with (at_builtin; refine Ss.wpList_apS (unhide O4a) v4.heap.size 0 1 1 [sMi ++ LX] rfl (Ss.rm_new v4 (sMi ++ LX)) (by simp only [List.length_cons, List.length_nil]; omega) hs4 rfl _ _ rfl rfl rfl ?_; intro v' w' ho hg; have O4b : Hid (w'.ownsRow w.heap.size 9 1 v' (difN ms ns (k + 1)).length (Ss.flat (difN ms ns (k + 1)))) := hide (by rw [unhide HTF]; exact ho); have E4b := hide (Ss.below_own (unhide E4a) (unhide O4a) hg (Nat.le_refl _) hs4); have X4b := hide (rv_kept (unhide X4a) hg (rv_ne (unhide X4a) (unhide O4a))); have Y4b := hide (rv_kept (unhide Y4a) hg (rv_ne (unhide Y4a) (unhide O4a))); obtain ⟨x0, x1, x2, x3⟩ := (unhide X4b).cells; obtain ⟨y0, y1, y2, y3⟩ := (unhide Y4b).cells; dsimp only at x0 x1 x2 x3 y0 y1 y2 y3; clear ho hg)
        go_roundw
        case rel => exact ⟨k + 1, by omega, by go_num, O4b, E4b⟩
        case measure => simp [intOf]; omega
      · have OyK := hide (unhide HOY wy)
        have Sy := hide (ln_size (unhide OyK))
        rw [unhide HLY] at hd Sy
        have HTF : Hid (difN ms ns (k + 1) = difN ms ns k ++ [sPl ++ LY]) := hide (by rw [unhide HDN, hd])
        rw [hn] at hnq
        clear hd hn HZW
        obtain ⟨x0, x1, x2, x3⟩ := (unhide X3).cells
        obtain ⟨y0, y1, y2, y3⟩ := (unhide Y3).cells
        dsimp only at x0 x1 x2 x3 y0 y1 y2 y3 wx wy
        go_wp2_with fail
        refine (unhide Ky _ (unhide OyK) (unhide HP _ (unhide E3))).mono ?_
        rintro e v4 ⟨rfl, d4⟩
        have O4 := hide (Ss.own_below (unhide O3) d4)
        have E4 := hide ((unhide E3).trans (d4.mono (unhide E3).size))
        have X4 := hide ((unhide X3).below d4)
        have Y4 := hide ((unhide Y3).below d4)
        clear d4 O3 E3 X3 Y3 x0 x1 x2 x3 y0 y1 y2 y3
        have hq4 : ¬ (9223372036854775807 < 2 + LY.size) := by have := unhide Sy; omega
        have O4a := hide ((unhide O4).alloc (.cells #[.string (sPl ++ LY)] 9))
        have E4a := hide ((unhide E4).alloc (unhide E4).size (.cells #[.string (sPl ++ LY)] 9))
        have X4a := hide ((unhide X4).below ((Below.refl _ _).alloc (Nat.le_refl _) (.cells #[.string (sPl ++ LY)] 9)))
        have Y4a := hide ((unhide Y4).below ((Below.refl _ _).alloc (Nat.le_refl _) (.cells #[.string (sPl ++ LY)] 9)))
        have hs4 := (unhide E4a).size
        go_wp2_with (at_builtin; refine Ss.wpList_apS (unhide O4a) v4.heap.size 0 1 1 [sPl ++ LY] rfl (Ss.rm_new v4 (sPl ++ LY)) (by simp only [List.length_cons, List.length_nil]; omega) hs4 rfl _ _ rfl rfl rfl ?_; intro v' w' ho hg; have O4b : Hid (w'.ownsRow w.heap.size 9 1 v' (difN ms ns (k + 1)).length (Ss.flat (difN ms ns (k + 1)))) := hide (by rw [unhide HTF]; exact ho); have E4b := hide (Ss.below_own (unhide E4a) (unhide O4a) hg (Nat.le_refl _) hs4); have X4b := hide (rv_kept (unhide X4a) hg (rv_ne (unhide X4a) (unhide O4a))); have Y4b := hide (rv_kept (unhide Y4a) hg (rv_ne (unhide Y4a) (unhide O4a))); obtain ⟨x0, x1, x2, x3⟩ := (unhide X4b).cells; obtain ⟨y0, y1, y2, y3⟩ := (unhide Y4b).cells; dsimp only at x0 x1 x2 x3 y0 y1 y2 y3; clear ho hg)
        go_roundw
        case rel => exact ⟨k + 1, by omega, by go_num, O4b, E4b⟩
        case measure => simp [intOf]; omega
      · rw [hd, List.append_nil] at HDN
        rw [hn] at hnq
        clear hd hn HZW
        have O9 : Hid (((v2.alloc (.cells #[.int .i64 xd, .int .i64 xn, .int .i64 xc, .int .i64 xh] 39)).alloc (.cells #[.int .i64 yd, .int .i64 yn, .int .i64 yc, .int .i64 yh] 39)).ownsRow w.heap.size 9 1 u7 (difN ms ns (k + 1)).length (Ss.flat (difN ms ns (k + 1)))) := hide (by rw [unhide HDN]; exact unhide O3)
        obtain ⟨x0, x1, x2, x3⟩ := (unhide X3).cells
        obtain ⟨y0, y1, y2, y3⟩ := (unhide Y3).cells
        dsimp only at x0 x1 x2 x3 y0 y1 y2 y3 wx wy
        go_wp2_with fail
        go_roundw
        case rel => exact ⟨k + 1, by omega, by go_num, O9, E3⟩
        case measure => simp [intOf]; omega
      · have OxK := hide (unhide HOX wx)
        have Sx := hide (ln_size (unhide OxK))
        have OyK := hide (unhide HOY wy)
        have Sy := hide (ln_size (unhide OyK))
        rw [unhide HLX, unhide HLY] at hd
        rw [unhide HLX] at Sx
        rw [unhide HLY] at Sy
        have HTF : Hid (difN ms ns (k + 1) = difN ms ns k ++ [sMi ++ LX] ++ [sPl ++ LY]) := hide (by rw [unhide HDN, hd]; simp)
        rw [hn] at hnq
        clear hd hn HZW
        obtain ⟨x0, x1, x2, x3⟩ := (unhide X3).cells
        obtain ⟨y0, y1, y2, y3⟩ := (unhide Y3).cells
        dsimp only at x0 x1 x2 x3 y0 y1 y2 y3 wx wy
        go_wp2_with fail
        refine (unhide Kx _ (unhide OxK) (unhide HP _ (unhide E3))).mono ?_
        rintro e v4 ⟨rfl, d4⟩
        have O4 := hide (Ss.own_below (unhide O3) d4)
        have E4 := hide ((unhide E3).trans (d4.mono (unhide E3).size))
        have X4 := hide ((unhide X3).below d4)
        have Y4 := hide ((unhide Y3).below d4)
        clear d4 O3 E3 X3 Y3 x0 x1 x2 x3 y0 y1 y2 y3
        have hq4 : ¬ (9223372036854775807 < 2 + LX.size) := by have := unhide Sx; omega
        have O4a := hide ((unhide O4).alloc (.cells #[.string (sMi ++ LX)] 9))
        have E4a := hide ((unhide E4).alloc (unhide E4).size (.cells #[.string (sMi ++ LX)] 9))
        have X4a := hide ((unhide X4).below ((Below.refl _ _).alloc (Nat.le_refl _) (.cells #[.string (sMi ++ LX)] 9)))
        have Y4a := hide ((unhide Y4).below ((Below.refl _ _).alloc (Nat.le_refl _) (.cells #[.string (sMi ++ LX)] 9)))
        have hs4 := (unhide E4a).size
        go_wp2_with (at_builtin; refine Ss.wpList_apS (unhide O4a) v4.heap.size 0 1 1 [sMi ++ LX] rfl (Ss.rm_new v4 (sMi ++ LX)) (by simp only [List.length_cons, List.length_nil]; omega) hs4 rfl _ _ rfl rfl rfl ?_; intro v' w' ho hg; have O4b : Hid (w'.ownsRow w.heap.size 9 1 v' (difN ms ns k ++ [sMi ++ LX]).length (Ss.flat (difN ms ns k ++ [sMi ++ LX]))) := hide (ho); have E4b := hide (Ss.below_own (unhide E4a) (unhide O4a) hg (Nat.le_refl _) hs4); have X4b := hide (rv_kept (unhide X4a) hg (rv_ne (unhide X4a) (unhide O4a))); have Y4b := hide (rv_kept (unhide Y4a) hg (rv_ne (unhide Y4a) (unhide O4a))); obtain ⟨x0, x1, x2, x3⟩ := (unhide X4b).cells; obtain ⟨y0, y1, y2, y3⟩ := (unhide Y4b).cells; dsimp only at x0 x1 x2 x3 y0 y1 y2 y3; clear ho hg)
        have O5 := O4b
        have E5 := E4b
        have X5 := X4b
        have Y5 := Y4b
        clear O4b E4b X4b Y4b
        refine (unhide Ky _ (unhide OyK) (unhide HP _ (unhide E5))).mono ?_
        rintro e v6 ⟨rfl, d6⟩
        have O6 := hide (Ss.own_below (unhide O5) d6)
        have E6 := hide ((unhide E5).trans (d6.mono (unhide E5).size))
        have X6 := hide ((unhide X5).below d6)
        have Y6 := hide ((unhide Y5).below d6)
        clear d6 O5 E5 X5 Y5 x0 x1 x2 x3 y0 y1 y2 y3
        have hq6 : ¬ (9223372036854775807 < 2 + LY.size) := by have := unhide Sy; omega
        have O6a := hide ((unhide O6).alloc (.cells #[.string (sPl ++ LY)] 9))
        have E6a := hide ((unhide E6).alloc (unhide E6).size (.cells #[.string (sPl ++ LY)] 9))
        have X6a := hide ((unhide X6).below ((Below.refl _ _).alloc (Nat.le_refl _) (.cells #[.string (sPl ++ LY)] 9)))
        have Y6a := hide ((unhide Y6).below ((Below.refl _ _).alloc (Nat.le_refl _) (.cells #[.string (sPl ++ LY)] 9)))
        have hs6 := (unhide E6a).size
        go_wp2_with (at_builtin; refine Ss.wpList_apS (unhide O6a) v6.heap.size 0 1 1 [sPl ++ LY] rfl (Ss.rm_new v6 (sPl ++ LY)) (by simp only [List.length_cons, List.length_nil, List.length_append]; omega) hs6 rfl _ _ rfl rfl rfl ?_; intro v' w' ho hg; have O6b : Hid (w'.ownsRow w.heap.size 9 1 v' (difN ms ns (k + 1)).length (Ss.flat (difN ms ns (k + 1)))) := hide (by rw [unhide HTF]; exact ho); have E6b := hide (Ss.below_own (unhide E6a) (unhide O6a) hg (Nat.le_refl _) hs6); have X6b := hide (rv_kept (unhide X6a) hg (rv_ne (unhide X6a) (unhide O6a))); have Y6b := hide (rv_kept (unhide Y6a) hg (rv_ne (unhide Y6a) (unhide O6a))); obtain ⟨x0, x1, x2, x3⟩ := (unhide X6b).cells; obtain ⟨y0, y1, y2, y3⟩ := (unhide Y6b).cells; dsimp only at x0 x1 x2 x3 y0 y1 y2 y3; clear ho hg)
        go_roundw
        case rel => exact ⟨k + 1, by omega, by go_num, O6b, E6b⟩
        case measure => simp [intOf]; omega
    · obtain rfl : k = 8 := by omega
      have HL := hide (Ss.lst_own rfl (unhide how))
      go_wp2_with fail
      go_ret2
      exact ⟨_, rfl, unhide hbl, unhide HL⟩
set_option maxHeartbeats 16000000 in
theorem specDiff (a : Option Addr) (ms : List R) (ca : Nat) (b : Option Addr) (ns : List R) (cb : Nat) (w : World) (hm : ms.length ≤ 1048576) (hn : ns.length ≤ 1048576) (hr : RM w a ms) (hr' : RM w b ns) :
    Calls Tryd.prog 14 #[.slice a ms.length ca, .slice b ns.length cb] w fun e w' => ∃ v, e = .returned (.tuple #[v, .int .i64 (codeR2 ms ns)]) ∧ Below w.heap.size w w' ∧ Ss.LstV w' v (difA ms ns) w.heap.size w'.heap.size := by
  have HR := hide hr
  have HR' := hide hr'
  clear hr hr'
  have KA := hide (fun W => l11OK a ms ca W hm)
  have KB := hide (fun W => l11OK b ns cb W hn)
  have FA := hide (fun k W => l11Find a ms ca k W hm)
  have FB := hide (fun k W => l11Find b ns cb k W hn)
  have HNIL : Hid (codeR2 ms ns ≠ 0 → difA ms ns = []) := hide (fun hc => by unfold difA; rw [if_neg hc])
  by_cases hb1 : (4096 : Int) < ms.length
  · have hc := code2_long (l := ms) (k := ns) (.inl hb1)
    rw [unhide HNIL (by rw [hc]; omega), hc]
    clear hc
    go_enter Tryd.func14, Tryd.ntmps14
    go_wp2_with fail
    go_ret2
    exact ⟨_, rfl, (Below.refl _ _).alloc (Nat.le_refl _) _, Ss.lstV_nil _ _ _ _ _⟩
  by_cases hb2 : (4096 : Int) < ns.length
  · have hc := code2_long (l := ms) (k := ns) (.inr hb2)
    rw [unhide HNIL (by rw [hc]; omega), hc]
    clear hc
    go_enter Tryd.func14, Tryd.ntmps14
    go_wp2_with fail
    go_ret2
    exact ⟨_, rfl, (Below.refl _ _).alloc (Nat.le_refl _) _, Ss.lstV_nil _ _ _ _ _⟩
  cases e1 : rouB ms
  · have hc := code2_bad hb1 hb2 (.inl e1)
    rw [unhide HNIL (by rw [hc]; omega), hc]
    rw [e1] at KA
    clear hc e1
    go_enter Tryd.func14, Tryd.ntmps14
    go_wp2_with fail
    refine (unhide KA _ (unhide HR)).mono ?_
    rintro e w1 ⟨rfl, b1⟩
    have HB1 := hide b1
    clear b1
    go_wp2_with fail
    go_ret2
    exact ⟨_, rfl, (unhide HB1).alloc (unhide HB1).size _, Ss.lstV_nil _ _ _ _ _⟩
  have HOKA := hide e1
  rw [e1] at KA
  cases e2 : rouB ns
  · have hc := code2_bad hb1 hb2 (.inr e2)
    rw [unhide HNIL (by rw [hc]; omega), hc]
    rw [e2] at KB
    clear hc e1 e2
    go_enter Tryd.func14, Tryd.ntmps14
    go_wp2_with fail
    refine (unhide KA _ (unhide HR)).mono ?_
    rintro e w1 ⟨rfl, b1⟩
    have HB1 := hide b1
    clear b1
    go_wp2_with fail
    refine (unhide KB _ ((unhide HR').below (unhide HB1))).mono ?_
    rintro e w2 ⟨rfl, b2⟩
    have HB2 := hide ((unhide HB1).trans (b2.mono (unhide HB1).size))
    clear b2
    go_wp2_with fail
    go_ret2
    exact ⟨_, rfl, (unhide HB2).alloc (unhide HB2).size _, Ss.lstV_nil _ _ _ _ _⟩
  have HOKB := hide e2
  rw [e2] at KB
  have hc := code2_zero e1 e2
  have h1 : difA ms ns = difN ms ns 8 := by unfold difA; rw [if_pos hc]
  rw [h1, hc]
  clear h1 hc e1 e2
  go_enter Tryd.func14, Tryd.ntmps14
  go_wp2_with fail
  refine (unhide KA _ (unhide HR)).mono ?_
  rintro e w1 ⟨rfl, b1⟩
  have HB1 := hide b1
  clear b1
  go_wp2_with fail
  refine (unhide KB _ ((unhide HR').below (unhide HB1))).mono ?_
  rintro e w2 ⟨rfl, b2⟩
  have HB2 := hide ((unhide HB1).trans (b2.mono (unhide HB1).size))
  have hb2s := (unhide HB2).size
  clear b2
  have OW : Hid ((w2.alloc (.cells #[] 9)).ownsRow w.heap.size 9 1 (.slice (some ⟨w2.heap.size, 0, none⟩) 0 0) (difN ms ns 0).length (Ss.flat (difN ms ns 0))) := hide (Ss.own_empty w2 w.heap.size hb2s)
  have DM := hide ((unhide HB2).alloc hb2s (.cells #[] 9))
  go_wp2_with fail
  go_loopw [6, 7] (fun v i wr => ∃ k : Nat, k ≤ 8 ∧ i = .int .i64 ((k : Int) + 1) ∧ Hid (wr.ownsRow w.heap.size 9 1 v (difN ms ns k).length (Ss.flat (difN ms ns k))) ∧ Hid (Below w.heap.size w wr)) (fun _ i _ => 9 - (intOf i).toNat)
  case atStart => exact ⟨0, by omega, rfl, OW, DM⟩
  case round =>
    obtain ⟨k, hk, rfl, how, hbl⟩ := hrel
    by_cases hlt : (k : Int) + 1 ≤ 8
    · have h1a : (1 : Int) ≤ (k : Int) + 1 := by omega
      have hways := dl_ways (fT ms ((k : Int) + 1)) (fT ns ((k : Int) + 1))
      have HZW := hide (zero_ways (ms := ms) (ns := ns) h1a)
      have HOX : Hid (((fT ms ((k : Int) + 1)).ds != 0) = true → okT (fT ms ((k : Int) + 1)) = true) := hide (fun h => rou_ok (unhide HOKA) _ (fT_mem (by rw [← has_ds h1a]; exact h)).1)
      have HOY : Hid (((fT ns ((k : Int) + 1)).ds != 0) = true → okT (fT ns ((k : Int) + 1)) = true) := hide (fun h => rou_ok (unhide HOKB) _ (fT_mem (by rw [← has_ds h1a]; exact h)).1)
      have HDN : Hid (difN ms ns (k + 1) = difN ms ns k ++ dl (fT ms ((k : Int) + 1)) (fT ns ((k : Int) + 1))) := hide rfl
      have hfl := difN_len ms ns k
      have HHX : Hid (hasT ms ((k : Int) + 1) = ((fT ms ((k : Int) + 1)).ds != 0)) := hide (has_ds h1a).symm
      have HHY : Hid (hasT ns ((k : Int) + 1) = ((fT ns ((k : Int) + 1)).ds != 0)) := hide (has_ds h1a).symm
      go_wp2_with fail
      refine (unhide FA _ _ ((unhide HR).below (unhide hbl))).mono ?_
      rintro e v1 ⟨rfl, d1⟩
      have O1 := hide (Ss.own_below (unhide how) d1)
      have E1 := hide ((unhide hbl).trans (d1.mono (unhide hbl).size))
      clear d1 how hbl
      rw [unhide HHX]
      generalize fT ms ((k : Int) + 1) = x at *
      obtain ⟨xd, xn, xc, xh⟩ := x
      dsimp only [R.value] at *
      have X2 := hide (rv_new v1 ⟨xd, xn, xc, xh⟩)
      have O2 := hide ((unhide O1).alloc (.cells #[.int .i64 xd, .int .i64 xn, .int .i64 xc, .int .i64 xh] 39))
      have E2 := hide ((unhide E1).alloc (unhide E1).size (.cells #[.int .i64 xd, .int .i64 xn, .int .i64 xc, .int .i64 xh] 39))
      dsimp only at X2
      clear O1 E1 HHX
      go_wp2_with fail
      generalize hV2 : v1.alloc (.cells #[.int .i64 xd, .int .i64 xn, .int .i64 xc, .int .i64 xh] 39) = V2 at *
      clear hV2
      refine (unhide FB _ _ ((unhide HR').below (unhide E2))).mono ?_
      rintro e v3 ⟨rfl, d3⟩
      have O3 := hide (Ss.own_below (unhide O2) d3)
      have E3 := hide ((unhide E2).trans (d3.mono (unhide E2).size))
      have X3 := hide ((unhide X2).below d3)
      clear d3 O2 E2 X2
      rw [unhide HHY]
      generalize fT ns ((k : Int) + 1) = y at *
      obtain ⟨yd, yn, yc, yh⟩ := y
      dsimp only [R.value] at *
      have hnq := neqG xd xn xc xh yd yn yc yh
      have Kx := hide (specLine ⟨xd, xn, xc, xh⟩)
      have Ky := hide (specLine ⟨yd, yn, yc, yh⟩)
      obtain ⟨LX, hLX⟩ : ∃ LX, lnT ⟨xd, xn, xc, xh⟩ = LX := ⟨_, rfl⟩
      obtain ⟨LY, hLY⟩ : ∃ LY, lnT ⟨yd, yn, yc, yh⟩ = LY := ⟨_, rfl⟩
      rw [hLX] at Kx
      rw [hLY] at Ky
      have HLX := hide hLX
      have HLY := hide hLY
      clear hLX hLY HHY
      have X4 := hide ((unhide X3).below ((Below.refl _ _).alloc (Nat.le_refl _) (.cells #[.int .i64 yd, .int .i64 yn, .int .i64 yc, .int .i64 yh] 39)))
      have Y4 := hide (rv_new v3 ⟨yd, yn, yc, yh⟩)
      have O4 := hide ((unhide O3).alloc (.cells #[.int .i64 yd, .int .i64 yn, .int .i64 yc, .int .i64 yh] 39))
      have E4 := hide ((unhide E3).alloc (unhide E3).size (.cells #[.int .i64 yd, .int .i64 yn, .int .i64 yc, .int .i64 yh] 39))
      dsimp only at X4 Y4
      clear O3 E3 X3
      rcases hways with ⟨wx, wy⟩ | ⟨wx, wy, hn, hd⟩ | ⟨wx, wy, hn, hd⟩ | ⟨wx, wy, hn, hd⟩ | ⟨wx, wy, hn, hd⟩
      · obtain ⟨hn, hd⟩ := unhide HZW wx wy
        rw [hd, List.append_nil] at HDN
        rw [hn] at hnq
        clear hd hn HZW
        have O9 : Hid ((v3.alloc (.cells #[.int .i64 yd, .int .i64 yn, .int .i64 yc, .int .i64 yh] 39)).ownsRow w.heap.size 9 1 u6 (difN ms ns (k + 1)).length (Ss.flat (difN ms ns (k + 1)))) := hide (by rw [unhide HDN]; exact unhide O4)
        obtain ⟨x0, x1, x2, x3⟩ := (unhide X4).cells
        obtain ⟨y0, y1, y2, y3⟩ := (unhide Y4).cells
        dsimp only at x0 x1 x2 x3 y0 y1 y2 y3 wx wy
        go_wp2_with fail
        go_roundw
        case rel => exact ⟨k + 1, by omega, by go_num, O9, E4⟩
        case measure => simp [intOf]; omega
      · have OxK := hide (unhide HOX wx)
        have Sx := hide (ln_size (unhide OxK))
        rw [unhide HLX] at hd Sx
        have HTF : Hid (difN ms ns (k + 1) = difN ms ns k ++ [sMi ++ LX]) := hide (by rw [unhide HDN, hd])
        rw [hn] at hnq
        clear hd hn HZW
        obtain ⟨x0, x1, x2, x3⟩ := (unhide X4).cells
        obtain ⟨y0, y1, y2, y3⟩ := (unhide Y4).cells
        dsimp only at x0 x1 x2 x3 y0 y1 y2 y3 wx wy
        go_wp2_with fail
        refine (unhide Kx _ (unhide OxK)).mono ?_
        rintro e v5 ⟨rfl, d5⟩
        have O5 := hide (Ss.own_below (unhide O4) d5)
        have E5 := hide ((unhide E4).trans (d5.mono (unhide E4).size))
        have X5 := hide ((unhide X4).below d5)
        have Y5 := hide ((unhide Y4).below d5)
        clear d5 O4 E4 X4 Y4 x0 x1 x2 x3 y0 y1 y2 y3
        have hq5 : ¬ (9223372036854775807 < 2 + LX.size) := by have := unhide Sx; omega
        have O5a := hide ((unhide O5).alloc (.cells #[.string (sMi ++ LX)] 9))
        have E5a := hide ((unhide E5).alloc (unhide E5).size (.cells #[.string (sMi ++ LX)] 9))
        have X5a := hide ((unhide X5).below ((Below.refl _ _).alloc (Nat.le_refl _) (.cells #[.string (sMi ++ LX)] 9)))
        have Y5a := hide ((unhide Y5).below ((Below.refl _ _).alloc (Nat.le_refl _) (.cells #[.string (sMi ++ LX)] 9)))
        have hs5 := (unhide E5a).size
        go_wp2_with (at_builtin; refine Ss.wpList_apS (unhide O5a) v5.heap.size 0 1 1 [sMi ++ LX] rfl (Ss.rm_new v5 (sMi ++ LX)) (by simp only [List.length_cons, List.length_nil]; omega) hs5 rfl _ _ rfl rfl rfl ?_; intro v' w' ho hg; have O5b : Hid (w'.ownsRow w.heap.size 9 1 v' (difN ms ns (k + 1)).length (Ss.flat (difN ms ns (k + 1)))) := hide (by rw [unhide HTF]; exact ho); have E5b := hide (Ss.below_own (unhide E5a) (unhide O5a) hg (Nat.le_refl _) hs5); have X5b := hide (rv_kept (unhide X5a) hg (rv_ne (unhide X5a) (unhide O5a))); have Y5b := hide (rv_kept (unhide Y5a) hg (rv_ne (unhide Y5a) (unhide O5a))); obtain ⟨x0, x1, x2, x3⟩ := (unhide X5b).cells; obtain ⟨y0, y1, y2, y3⟩ := (unhide Y5b).cells; dsimp only at x0 x1 x2 x3 y0 y1 y2 y3; clear ho hg)
        go_roundw
        case rel => exact ⟨k + 1, by omega, by go_num, O5b, E5b⟩
        case measure => simp [intOf]; omega
      · have OyK := hide (unhide HOY wy)
        have Sy := hide (ln_size (unhide OyK))
        rw [unhide HLY] at hd Sy
        have HTF : Hid (difN ms ns (k + 1) = difN ms ns k ++ [sPl ++ LY]) := hide (by rw [unhide HDN, hd])
        rw [hn] at hnq
        clear hd hn HZW
        obtain ⟨x0, x1, x2, x3⟩ := (unhide X4).cells
        obtain ⟨y0, y1, y2, y3⟩ := (unhide Y4).cells
        dsimp only at x0 x1 x2 x3 y0 y1 y2 y3 wx wy
        go_wp2_with fail
        refine (unhide Ky _ (unhide OyK)).mono ?_
        rintro e v5 ⟨rfl, d5⟩
        have O5 := hide (Ss.own_below (unhide O4) d5)
        have E5 := hide ((unhide E4).trans (d5.mono (unhide E4).size))
        have X5 := hide ((unhide X4).below d5)
        have Y5 := hide ((unhide Y4).below d5)
        clear d5 O4 E4 X4 Y4 x0 x1 x2 x3 y0 y1 y2 y3
        have hq5 : ¬ (9223372036854775807 < 2 + LY.size) := by have := unhide Sy; omega
        have O5a := hide ((unhide O5).alloc (.cells #[.string (sPl ++ LY)] 9))
        have E5a := hide ((unhide E5).alloc (unhide E5).size (.cells #[.string (sPl ++ LY)] 9))
        have X5a := hide ((unhide X5).below ((Below.refl _ _).alloc (Nat.le_refl _) (.cells #[.string (sPl ++ LY)] 9)))
        have Y5a := hide ((unhide Y5).below ((Below.refl _ _).alloc (Nat.le_refl _) (.cells #[.string (sPl ++ LY)] 9)))
        have hs5 := (unhide E5a).size
        go_wp2_with (at_builtin; refine Ss.wpList_apS (unhide O5a) v5.heap.size 0 1 1 [sPl ++ LY] rfl (Ss.rm_new v5 (sPl ++ LY)) (by simp only [List.length_cons, List.length_nil]; omega) hs5 rfl _ _ rfl rfl rfl ?_; intro v' w' ho hg; have O5b : Hid (w'.ownsRow w.heap.size 9 1 v' (difN ms ns (k + 1)).length (Ss.flat (difN ms ns (k + 1)))) := hide (by rw [unhide HTF]; exact ho); have E5b := hide (Ss.below_own (unhide E5a) (unhide O5a) hg (Nat.le_refl _) hs5); have X5b := hide (rv_kept (unhide X5a) hg (rv_ne (unhide X5a) (unhide O5a))); have Y5b := hide (rv_kept (unhide Y5a) hg (rv_ne (unhide Y5a) (unhide O5a))); obtain ⟨x0, x1, x2, x3⟩ := (unhide X5b).cells; obtain ⟨y0, y1, y2, y3⟩ := (unhide Y5b).cells; dsimp only at x0 x1 x2 x3 y0 y1 y2 y3; clear ho hg)
        go_roundw
        case rel => exact ⟨k + 1, by omega, by go_num, O5b, E5b⟩
        case measure => simp [intOf]; omega
      · rw [hd, List.append_nil] at HDN
        rw [hn] at hnq
        clear hd hn HZW
        have O9 : Hid ((v3.alloc (.cells #[.int .i64 yd, .int .i64 yn, .int .i64 yc, .int .i64 yh] 39)).ownsRow w.heap.size 9 1 u6 (difN ms ns (k + 1)).length (Ss.flat (difN ms ns (k + 1)))) := hide (by rw [unhide HDN]; exact unhide O4)
        obtain ⟨x0, x1, x2, x3⟩ := (unhide X4).cells
        obtain ⟨y0, y1, y2, y3⟩ := (unhide Y4).cells
        dsimp only at x0 x1 x2 x3 y0 y1 y2 y3 wx wy
        go_wp2_with fail
        go_roundw
        case rel => exact ⟨k + 1, by omega, by go_num, O9, E4⟩
        case measure => simp [intOf]; omega
      · have OxK := hide (unhide HOX wx)
        have Sx := hide (ln_size (unhide OxK))
        have OyK := hide (unhide HOY wy)
        have Sy := hide (ln_size (unhide OyK))
        rw [unhide HLX, unhide HLY] at hd
        rw [unhide HLX] at Sx
        rw [unhide HLY] at Sy
        have HTF : Hid (difN ms ns (k + 1) = difN ms ns k ++ [sMi ++ LX] ++ [sPl ++ LY]) := hide (by rw [unhide HDN, hd]; simp)
        rw [hn] at hnq
        clear hd hn HZW
        obtain ⟨x0, x1, x2, x3⟩ := (unhide X4).cells
        obtain ⟨y0, y1, y2, y3⟩ := (unhide Y4).cells
        dsimp only at x0 x1 x2 x3 y0 y1 y2 y3 wx wy
        go_wp2_with fail
        refine (unhide Kx _ (unhide OxK)).mono ?_
        rintro e v5 ⟨rfl, d5⟩
        have O5 := hide (Ss.own_below (unhide O4) d5)
        have E5 := hide ((unhide E4).trans (d5.mono (unhide E4).size))
        have X5 := hide ((unhide X4).below d5)
        have Y5 := hide ((unhide Y4).below d5)
        clear d5 O4 E4 X4 Y4 x0 x1 x2 x3 y0 y1 y2 y3
        have hq5 : ¬ (9223372036854775807 < 2 + LX.size) := by have := unhide Sx; omega
        have O5a := hide ((unhide O5).alloc (.cells #[.string (sMi ++ LX)] 9))
        have E5a := hide ((unhide E5).alloc (unhide E5).size (.cells #[.string (sMi ++ LX)] 9))
        have X5a := hide ((unhide X5).below ((Below.refl _ _).alloc (Nat.le_refl _) (.cells #[.string (sMi ++ LX)] 9)))
        have Y5a := hide ((unhide Y5).below ((Below.refl _ _).alloc (Nat.le_refl _) (.cells #[.string (sMi ++ LX)] 9)))
        have hs5 := (unhide E5a).size
        go_wp2_with (at_builtin; refine Ss.wpList_apS (unhide O5a) v5.heap.size 0 1 1 [sMi ++ LX] rfl (Ss.rm_new v5 (sMi ++ LX)) (by simp only [List.length_cons, List.length_nil]; omega) hs5 rfl _ _ rfl rfl rfl ?_; intro v' w' ho hg; have O5b : Hid (w'.ownsRow w.heap.size 9 1 v' (difN ms ns k ++ [sMi ++ LX]).length (Ss.flat (difN ms ns k ++ [sMi ++ LX]))) := hide (ho); have E5b := hide (Ss.below_own (unhide E5a) (unhide O5a) hg (Nat.le_refl _) hs5); have X5b := hide (rv_kept (unhide X5a) hg (rv_ne (unhide X5a) (unhide O5a))); have Y5b := hide (rv_kept (unhide Y5a) hg (rv_ne (unhide Y5a) (unhide O5a))); obtain ⟨x0, x1, x2, x3⟩ := (unhide X5b).cells; obtain ⟨y0, y1, y2, y3⟩ := (unhide Y5b).cells; dsimp only at x0 x1 x2 x3 y0 y1 y2 y3; clear ho hg)
        have O6 := O5b
        have E6 := E5b
        have X6 := X5b
        have Y6 := Y5b
        clear O5b E5b X5b Y5b
        refine (unhide Ky _ (unhide OyK)).mono ?_
        rintro e v7 ⟨rfl, d7⟩
        have O7 := hide (Ss.own_below (unhide O6) d7)
        have E7 := hide ((unhide E6).trans (d7.mono (unhide E6).size))
        have X7 := hide ((unhide X6).below d7)
        have Y7 := hide ((unhide Y6).below d7)
        clear d7 O6 E6 X6 Y6 x0 x1 x2 x3 y0 y1 y2 y3
        have hq7 : ¬ (9223372036854775807 < 2 + LY.size) := by have := unhide Sy; omega
        have O7a := hide ((unhide O7).alloc (.cells #[.string (sPl ++ LY)] 9))
        have E7a := hide ((unhide E7).alloc (unhide E7).size (.cells #[.string (sPl ++ LY)] 9))
        have X7a := hide ((unhide X7).below ((Below.refl _ _).alloc (Nat.le_refl _) (.cells #[.string (sPl ++ LY)] 9)))
        have Y7a := hide ((unhide Y7).below ((Below.refl _ _).alloc (Nat.le_refl _) (.cells #[.string (sPl ++ LY)] 9)))
        have hs7 := (unhide E7a).size
        go_wp2_with (at_builtin; refine Ss.wpList_apS (unhide O7a) v7.heap.size 0 1 1 [sPl ++ LY] rfl (Ss.rm_new v7 (sPl ++ LY)) (by simp only [List.length_cons, List.length_nil, List.length_append]; omega) hs7 rfl _ _ rfl rfl rfl ?_; intro v' w' ho hg; have O7b : Hid (w'.ownsRow w.heap.size 9 1 v' (difN ms ns (k + 1)).length (Ss.flat (difN ms ns (k + 1)))) := hide (by rw [unhide HTF]; exact ho); have E7b := hide (Ss.below_own (unhide E7a) (unhide O7a) hg (Nat.le_refl _) hs7); have X7b := hide (rv_kept (unhide X7a) hg (rv_ne (unhide X7a) (unhide O7a))); have Y7b := hide (rv_kept (unhide Y7a) hg (rv_ne (unhide Y7a) (unhide O7a))); obtain ⟨x0, x1, x2, x3⟩ := (unhide X7b).cells; obtain ⟨y0, y1, y2, y3⟩ := (unhide Y7b).cells; dsimp only at x0 x1 x2 x3 y0 y1 y2 y3; clear ho hg)
        go_roundw
        case rel => exact ⟨k + 1, by omega, by go_num, O7b, E7b⟩
        case measure => simp [intOf]; omega
    · obtain rfl : k = 8 := by omega
      have HL := hide (Ss.lst_own rfl (unhide how))
      go_wp2_with fail
      go_ret2
      exact ⟨_, rfl, unhide hbl, unhide HL⟩
end Rw
end Go.Proofs.YtmlokaielemhaaaDoor
