/-
  Proved here: for all slices of bytes, laws.FnSet returns true (what is put is found, dropped it is not; keys rise, others stay) and leaves the slices as they were. No condition. (The walk is written by mkfnset.py.)
-/
import Derived.Test.YtpknahhdapmcoaaSrcTc
import Derived.Test.YtpknahhdapmcoaaSetV
import Derived.Test.YtpknahhdapmcoaaSetW
import Derived.Test.YtpknahhdapmcoaaSetU
import Derived.Test.YtpknahhdapmcoaaSetZc
import Derived.Test.YtpknahhdapmcoaaSetO
import Derived.Test.YtpknahhdapmcoaaSetS
import Derived.Test.YtpknahhdapmcoaaSetJ
import Derived.Test.YtpknahhdapmcoaaAt
namespace Go.Proofs.Ytpknahhdapmcoaa.fnSet
open Go.ChangeShapes Go.WideShapes Go.ChangeAt Go.RowKit
open W1 By Tu St Sr
set_option linter.unusedVariables false
set_option linter.unusedSimpArgs false
attribute [local go_sem ↓] Go.wp_at_zero Go.wp_at_succ
theorem own : ownKnob Try.prog.godebug = none := by kernel_rfl
theorem laidOut : laidOutB Try.prog = true := by kernel_rfl
theorem bx_new (w : World) (key til val : Int) : Bx (w.alloc (.cells #[.int .i64 key, .int .i64 til, .int .i64 val] 41)) w.heap.size ⟨key, til, val⟩ := by refine ⟨?_, ?_, ?_⟩ <;> simp [World.cell?_alloc_new]
theorem sSet {w : World} {b b' g5 o5 : Nat} {key til val : Int} (h : Bx w b ⟨key, til, val⟩) (h' : Bx w b' ⟨key, til, val⟩) (hn : RM w (some ⟨g5, o5, none⟩) [⟨key, til, val⟩]) :
    (Bx w b ⟨key, til, val⟩ ∧ Bx w b' ⟨key, til, val⟩) ∧ w.cell? ⟨b, 0, none⟩ = some (.int .i64 key) ∧ w.cell? ⟨b, 1, none⟩ = some (.int .i64 til) ∧ w.cell? ⟨b, 2, none⟩ = some (.int .i64 val) ∧ w.cell? ⟨b', 0, none⟩ = some (.int .i64 key) ∧ w.cell? ⟨b', 1, none⟩ = some (.int .i64 til) ∧ w.cell? ⟨b', 2, none⟩ = some (.int .i64 val) ∧ w.cell? ⟨g5, o5, none⟩ = some (.int .i64 key) ∧ w.cell? ⟨g5, o5 + 1, none⟩ = some (.int .i64 til) ∧ w.cell? ⟨g5, o5 + 2, none⟩ = some (.int .i64 val) := by
  have hA := hn.at (i := 0) (by simp)
  rw [Nat.zero_mul, Nat.add_zero] at hA
  exact ⟨⟨h, h'⟩, h.1, h.2.1, h.2.2, h'.1, h'.2.1, h'.2.2, hA.1, hA.2.1, hA.2.2⟩
theorem sTwo {w : World} {b b' g o : Nat} {key til val k1 t1 v1 y0 y1 y2 : Int} (h : Bx w b ⟨key, til, val⟩) (h' : Bx w b' ⟨y0, y1, y2⟩) (hA : At w g o ⟨k1, t1, v1⟩) :
    (Bx w b ⟨key, til, val⟩ ∧ Bx w b' ⟨y0, y1, y2⟩) ∧ w.cell? ⟨b, 0, none⟩ = some (.int .i64 key) ∧ w.cell? ⟨b, 1, none⟩ = some (.int .i64 til) ∧ w.cell? ⟨b, 2, none⟩ = some (.int .i64 val) ∧ w.cell? ⟨b', 0, none⟩ = some (.int .i64 y0) ∧ w.cell? ⟨b', 1, none⟩ = some (.int .i64 y1) ∧ w.cell? ⟨b', 2, none⟩ = some (.int .i64 y2) ∧ w.cell? ⟨g, o, none⟩ = some (.int .i64 k1) ∧ w.cell? ⟨g, o + 1, none⟩ = some (.int .i64 t1) ∧ w.cell? ⟨g, o + 2, none⟩ = some (.int .i64 v1) :=
  ⟨⟨h, h'⟩, h.1, h.2.1, h.2.2, h'.1, h'.2.1, h'.2.2, hA.1, hA.2.1, hA.2.2⟩
theorem implFindA {w : World} {a : Option Addr} {ms : List R} {c : Nat} {k : Int} (hm : ms.length ≤ 1048576) (ha : a = none ∨ ∃ g, a = some ⟨g, 0, none⟩) (hr : RM w a ms) (h : dropE ms k = 5 ∧ findA ms k = R.zero) :
    Calls Try.prog 25 #[.slice a ms.length c, .int .i64 k] w fun e w' => e = .returned (.tuple #[.agg #[.int .i64 0, .int .i64 0, .int .i64 0], .int .i64 5]) ∧ Below w.heap.size w w' := by
  rcases ha with rfl | ⟨g, rfl⟩
  · have : ms = [] := by
      rcases hr with h | ⟨g, off, e, _⟩
      · exact h
      · cases e
    subst this
    exact implFind0 c k w
  · have := implFind g 0 ms c k w hm hr
    rw [h.1, h.2] at this
    exact this
set_option maxRecDepth 100000 in
set_option maxHeartbeats 8000000 in
theorem walk (a : Option Addr) (bs : List UInt8) (cap : Nat) (hm : bs.length ≤ maxLen) (a' : Option Addr) (bs' : List UInt8) (cap' : Nat) (hm' : bs'.length ≤ maxLen) (w : World) (hr : Reads w a bs) (hr' : Reads w a' bs') :
    Calls Try.prog 6 #[.slice a bs.length cap, .slice a' bs'.length cap'] w fun e w' => e = .returned (.bool true) ∧ Below w.heap.size w w' := by
  have HR := hide hr
  have HR' := hide hr'
  clear hr hr'
  unfold maxLen at hm hm'
  by_cases hbig : (1048576 : Int) < bs.length
  · go_enter Try.func6, Try.ntmps6
    go_wp2
    go_ret
    exact ⟨rfl, Below.refl _ _⟩
  by_cases hbig' : (1048576 : Int) < bs'.length
  · go_enter Try.func6, Try.ntmps6
    go_wp2
    go_ret
    exact ⟨rfl, Below.refl _ _⟩
  have hml : bs.length ≤ 1048576 := by omega
  have hml' : bs'.length ≤ 1048576 := by omega
  go_enter Try.func6, Try.ntmps6
  go_wp2_with fail
  refine (setOfC a bs cap _ hml (by exact unhide HR)).mono ?_
  rintro e w1 ⟨v, ms, rfl, hv, hset, hl, b1⟩
  obtain ⟨g, c, rfl, hc1, hc2, hg1, hg2, hrm⟩ := hv
  have B1 := hide b1
  have R1 := hide hrm
  have HS := hide hset
  have hsz : ms.length ≤ 1048576 := by omega
  have hl64 : ms.length < 64 := by omega
  clear b1 hrm hset
  go_wp2_with fail
  refine (tupleOf a' bs' cap' _ hml' (by exact reads_under (unhide HR') (unhide B1))).mono ?_
  rintro e w2 ⟨key', til', val', rfl, hk, ht, hv, b2⟩
  have HOK := hide (small_ok hk ht hv)
  generalize (key' : Int) = key at *
  generalize (til' : Int) = til at *
  generalize (val' : Int) = val at *
  have hput := put_code (unhide HS) (unhide HOK) hl64
  have hps := put_set (unhide HS) (unhide HOK) hl64
  have hmem := put_mem (x := ⟨key, til, val⟩) (unhide HS) hl64
  have HKP : Hid (∀ y, y ∈ ms → dropE (putL ms ⟨key, til, val⟩) y.key = 0 ∧ (y.key ≠ key → findA (putL ms ⟨key, til, val⟩) y.key = y)) := hide (fun y hy => put_keeps (unhide HS) (unhide HOK) hl64 hy)
  have hrg := put_range (unhide HS) (unhide HOK) hl64
  have hpl := put_le ms ⟨key, til, val⟩
  have hpn := put_ne ms ⟨key, til, val⟩
  have HPE := hide hput
  obtain ⟨PL, hPL⟩ : ∃ PL, putL ms ⟨key, til, val⟩ = PL := ⟨_, rfl⟩
  rw [hPL] at HPE hps hmem HKP hrg hpl hpn
  clear hput hPL
  have HFX := hide (mem_find hps hmem)
  have HDG := hide (drop_gone hps (mem_find hps hmem).2.2)
  have HGN := hide (gone_none (unhide HDG).2.2.1 (unhide HDG).2.2.2)
  have HKL := hide (keys_leng hps)
  have HRG := hide hrg
  have HPS := hide hps
  have HDL := hide (drop_len PL key)
  have hp16 : PL.length ≤ 1048576 := by omega
  clear hps hmem hrg
  have Q2 := hide (bx_new w2 key til val)
  have BA := hide ((unhide B1).trans (b2.mono (unhide B1).size))
  have B2 := hide ((unhide BA).alloc (unhide BA).size (.cells #[.int .i64 key, .int .i64 til, .int .i64 val] 41))
  have R2 := hide ((unhide R1).below (b2.trans (((Below.refl _ _).alloc (Nat.le_refl _) (.cells #[.int .i64 key, .int .i64 til, .int .i64 val] 41)).mono b2.size)))
  obtain ⟨W2, hW2⟩ : ∃ W2, w2.alloc (.cells #[.int .i64 key, .int .i64 til, .int .i64 val] 41) = W2 := ⟨_, rfl⟩
  have HW2 := hide hW2
  rw [hW2] at Q2 B2 R2
  clear hW2 BA B1 R1 b2
  go_wp2_with fail
  rw [unhide HW2]
  refine (implPutC g 0 ms c ⟨key, til, val⟩ _ hc1 hc2 hsz (unhide R2)).mono ?_
  rintro e w3 ⟨v3, rfl, b3, l3, sh3⟩
  rw [(unhide HPE).1]
  rw [(unhide HPE).2] at l3
  obtain ⟨a3, c3, rfl, L3⟩ := l3
  obtain ⟨hd1, hd2, _⟩ := sh3.at
  obtain ⟨g3, o3, rfl⟩ := L3.rm.form hpn
  have P3 := hide L3.rm
  clear L3 sh3
  have B3 := hide ((unhide B2).trans (b3.mono (unhide B2).size))
  have Q3 := hide ((unhide Q2).below b3)
  have R3 := hide ((unhide R2).below b3)
  clear b3 B2 Q2 R2
  obtain ⟨z0, z1, z2⟩ := unhide Q3
  dsimp only at z0 z1 z2
  go_wp2_with fail
  clear z0 z1 z2
  refine (specPutC g 0 ms c ⟨key, til, val⟩ _ hsz (unhide R3)).mono ?_
  rintro e w4 ⟨v4, rfl, b4, l4⟩
  rw [(unhide HPE).1]
  rw [(unhide HPE).2] at l4
  obtain ⟨a4, c4, rfl, L4⟩ := l4
  have W4 := hide L4.rm
  clear L4
  have B4 := hide ((unhide B3).trans (b4.mono (unhide B3).size))
  have Q4 := hide ((unhide Q3).below b4)
  have R4 := hide ((unhide R3).below b4)
  have P4 := hide ((unhide P3).below b4)
  clear b4 B3 Q3 R3 P3
  obtain ⟨z0, z1, z2⟩ := unhide Q4
  dsimp only at z0 z1 z2
  go_wp2_with fail
  clear z0 z1 z2
  refine (implFind g3 o3 PL c3 key _ hp16 (unhide P4)).mono ?_
  rintro e w5 ⟨rfl, b5⟩
  rw [(unhide HFX).1, (unhide HFX).2.1]
  unfold R.value
  dsimp only
  have B5 := hide ((unhide B4).trans (b5.mono (unhide B4).size))
  have Q5 := hide ((unhide Q4).below b5)
  have R5 := hide ((unhide R4).below b5)
  have P5 := hide ((unhide P4).below b5)
  have W5 := hide ((unhide W4).below b5)
  clear b5 B4 Q4 R4 P4 W4
  have F6 := hide (bx_new w5 key til val)
  have b6 : Below w5.heap.size w5 (w5.alloc (.cells #[.int .i64 key, .int .i64 til, .int .i64 val] 41)) := (Below.refl _ _).alloc (Nat.le_refl _) _
  obtain ⟨w6, hw6⟩ : ∃ w6, w5.alloc (.cells #[.int .i64 key, .int .i64 til, .int .i64 val] 41) = w6 := ⟨_, rfl⟩
  have HW6 := hide hw6
  rw [hw6] at F6 b6
  clear hw6
  obtain ⟨z0, z1, z2⟩ := unhide Q5
  dsimp only at z0 z1 z2
  have zl := World.block_lt_of_cell? _ _ z0
  dsimp only at zl
  have B6 := hide ((unhide B5).trans (b6.mono (unhide B5).size))
  have Q6 := hide ((unhide Q5).below b6)
  have R6 := hide ((unhide R5).below b6)
  have P6 := hide ((unhide P5).below b6)
  have W6 := hide ((unhide W5).below b6)
  clear b6 B5 Q5 R5 P5 W5
  go_wp2_with fail
  clear z0 z1 z2 zl
  rw [unhide HW6]
  refine (implDropC g3 o3 PL c3 key _ hd1 hd2 hp16 (unhide P6)).mono ?_
  rintro e w7 ⟨v7, rfl, b7, l7, sh7⟩
  rw [(unhide HDG).2.1]
  obtain ⟨a7, c7, rfl, L7⟩ := l7
  obtain ⟨_, _, hs7⟩ := sh7.at
  have D7 := hide L7.rm
  clear L7 sh7
  have B7 := hide ((unhide B6).trans (b7.mono (unhide B6).size))
  have Q7 := hide ((unhide Q6).below b7)
  have R7 := hide ((unhide R6).below b7)
  have P7 := hide ((unhide P6).below b7)
  have W7 := hide ((unhide W6).below b7)
  have F7 := hide ((unhide F6).below b7)
  clear b7 B6 Q6 R6 P6 W6 F6
  obtain ⟨z0, z1, z2⟩ := unhide Q7
  dsimp only at z0 z1 z2
  go_wp2_with fail
  clear z0 z1 z2
  refine (implFindA (Nat.le_trans (unhide HDL) hp16) hs7 (unhide D7) (by rw [(unhide HDG).1]; exact unhide HGN)).mono ?_
  rintro e w8 ⟨rfl, b8⟩
  have B8 := hide ((unhide B7).trans (b8.mono (unhide B7).size))
  have Q8 := hide ((unhide Q7).below b8)
  have R8 := hide ((unhide R7).below b8)
  have P8 := hide ((unhide P7).below b8)
  have W8 := hide ((unhide W7).below b8)
  have F8 := hide ((unhide F7).below b8)
  have D8 := hide ((unhide D7).below b8)
  clear b8 B7 Q7 R7 P7 W7 F7 D7
  clear D8
  have b9 : Below w8.heap.size w8 (w8.alloc (.cells #[.int .i64 0, .int .i64 0, .int .i64 0] 41)) := (Below.refl _ _).alloc (Nat.le_refl _) _
  obtain ⟨w9, hw9⟩ : ∃ w9, w8.alloc (.cells #[.int .i64 0, .int .i64 0, .int .i64 0] 41) = w9 := ⟨_, rfl⟩
  have HW9 := hide hw9
  rw [hw9] at b9
  clear hw9
  have B9 := hide ((unhide B8).trans (b9.mono (unhide B8).size))
  have Q9 := hide ((unhide Q8).below b9)
  have R9 := hide ((unhide R8).below b9)
  have P9 := hide ((unhide P8).below b9)
  have W9 := hide ((unhide W8).below b9)
  have F9 := hide ((unhide F8).below b9)
  clear b9 B8 Q8 R8 P8 W8 F8
  go_wp2_with fail
  rw [unhide HW9]
  refine (implKeys g3 o3 PL c3 _ hp16 (unhide P9)).mono ?_
  rintro e w10 ⟨v10, rfl, b10, l10⟩
  rw [code_zero (unhide HPS)]
  obtain ⟨a10, c10, rfl, _⟩ := l10
  rw [unhide HKL]
  have B10 := hide ((unhide B9).trans (b10.mono (unhide B9).size))
  have Q10 := hide ((unhide Q9).below b10)
  have R10 := hide ((unhide R9).below b10)
  have P10 := hide ((unhide P9).below b10)
  have W10 := hide ((unhide W9).below b10)
  have F10 := hide ((unhide F9).below b10)
  clear b10 B9 Q9 R9 P9 W9 F9
  obtain ⟨z0, z1, z2⟩ := unhide Q10
  dsimp only at z0 z1 z2
  go_wp2_with fail
  clear z0 z1 z2
  refine (implRangeC g3 o3 PL c3 key key _ hd1 hd2 hp16 (unhide P10)).mono ?_
  rintro e w11 ⟨v11, rfl, b11, l11⟩
  rw [code_zero (unhide HPS)]
  rw [unhide HRG] at l11
  obtain ⟨a11, c11, rfl, L11⟩ := l11
  obtain ⟨g5, o5, rfl⟩ := L11.rm.form (by simp)
  have N11 := hide L11.rm
  clear L11
  have B11 := hide ((unhide B10).trans (b11.mono (unhide B10).size))
  have Q11 := hide ((unhide Q10).below b11)
  have R11 := hide ((unhide R10).below b11)
  have P11 := hide ((unhide P10).below b11)
  have W11 := hide ((unhide W10).below b11)
  have F11 := hide ((unhide F10).below b11)
  clear b11 B10 Q10 R10 P10 W10 F10
  obtain ⟨n, hn⟩ : ∃ n, PL.length = n := ⟨_, rfl⟩
  have HN := hide hn
  have hSame : Hid (∀ W, RM W (some ⟨g3, o3, none⟩) PL → RM W a4 PL → Calls Try.prog 29 #[.slice (some ⟨g3, o3, none⟩) n c3, .slice a4 n c4] W fun e w' => e = .returned (.bool true) ∧ Below W.heap.size W w') := hide (fun W h h' => by have := sameSet (some ⟨g3, o3, none⟩) a4 PL c3 c4 W hp16 h h'; rw [hn] at this; exact this)
  have hOK : Hid (∀ W, RM W (some ⟨g3, o3, none⟩) PL → Calls Try.prog 30 #[.slice (some ⟨g3, o3, none⟩) n c3] W fun e w' => e = .returned (.bool true) ∧ Below W.heap.size W w') := hide (fun W h => by have := implOK (some ⟨g3, o3, none⟩) PL c3 W hp16 h; rw [hn, unhide HPS] at this; exact this)
  have hFind : Hid (∀ W q, RM W (some ⟨g3, o3, none⟩) PL → Calls Try.prog 25 #[.slice (some ⟨g3, o3, none⟩) n c3, .int .i64 q] W fun e w' => e = .returned (.tuple #[(findA PL q).value, .int .i64 (dropE PL q)]) ∧ Below W.heap.size W w') := hide (fun W q h => by have := implFind g3 o3 PL c3 q W hp16 h; rw [hn] at this; exact this)
  rw [hn] at hpl hpn hp16 ⊢
  clear hn
  obtain ⟨k, hk⟩ : ∃ k, ms.length = k := ⟨_, rfl⟩
  have HK := hide hk
  rw [hk] at hl hsz hl64 ⊢
  have HMJ : Hid (∀ j, j < k → ms.getD j R.zero ∈ ms) := hide (fun j h => by rw [getD_get (by omega)]; exact List.getElem_mem _)
  clear hk
  have b0 : Below w11.heap.size w11 w11.drew := (Below.refl _ _).drew
  have HB0 := hide b0
  clear b0
  go_wp2_with fail
  refine wp_region_noPanic ?_
  refine wp_region_held_drew (S := fun w' => (Bx w' w2.heap.size ⟨key, til, val⟩ ∧ Bx w' w5.heap.size ⟨key, til, val⟩) ∧ w'.cell? ⟨w2.heap.size, 0, none⟩ = some (.int .i64 key) ∧ w'.cell? ⟨w2.heap.size, 1, none⟩ = some (.int .i64 til) ∧ w'.cell? ⟨w2.heap.size, 2, none⟩ = some (.int .i64 val) ∧ w'.cell? ⟨w5.heap.size, 0, none⟩ = some (.int .i64 key) ∧ w'.cell? ⟨w5.heap.size, 1, none⟩ = some (.int .i64 til) ∧ w'.cell? ⟨w5.heap.size, 2, none⟩ = some (.int .i64 val) ∧ w'.cell? ⟨g5, o5, none⟩ = some (.int .i64 key) ∧ w'.cell? ⟨g5, o5 + 1, none⟩ = some (.int .i64 til) ∧ w'.cell? ⟨g5, o5 + 2, none⟩ = some (.int .i64 val)) (by kernel_rfl) (sSet ((unhide Q11).below (unhide HB0)) ((unhide F11).below (unhide HB0)) ((unhide N11).below (unhide HB0))) (fun hHeld => ?_)
  (refine Rg.tk (i := 0) (d := 83) (v := ?_) rfl rfl (by kernel_rfl) (by kernel_rfl) (by kernel_rfl) (fun _ _ _ h => h) (by rfl) ?_ (by assumption) ?_; rotate_left; (focus (intro w0 hSw; (try dsimp only at hSw); go_simp; (try with_reducible rfl))); (try simp only [Act.put, List.setIfInBounds_toArray, List.set_cons_zero, List.set_cons_succ]))
  (refine Rg.tk (i := 1) (d := 84) (v := ?_) rfl rfl (by kernel_rfl) (by kernel_rfl) (by kernel_rfl) (fun _ _ _ h => h) (by rfl) ?_ (by assumption) ?_; rotate_left; (focus (intro w0 hSw; (try dsimp only at hSw); go_simp; (try with_reducible rfl))); (try simp only [Act.put, List.setIfInBounds_toArray, List.set_cons_zero, List.set_cons_succ]))
  (refine Rg.tk (i := 2) (d := 85) (v := ?_) rfl rfl (by kernel_rfl) (by kernel_rfl) (by kernel_rfl) (fun _ _ _ h => h) (by rfl) ?_ (by assumption) ?_; rotate_left; (focus (intro w0 hSw; (try dsimp only at hSw); go_simp; (try with_reducible rfl))); (try simp only [Act.put, List.setIfInBounds_toArray, List.set_cons_zero, List.set_cons_succ]))
  (refine Rg.tk (i := 3) (d := 86) (v := ?_) rfl rfl (by kernel_rfl) (by kernel_rfl) (by kernel_rfl) (fun _ _ _ h => h) (by rfl) ?_ (by assumption) ?_; rotate_left; (focus (intro w0 hSw; (try dsimp only at hSw); go_simp; (try with_reducible rfl))); (try simp only [Act.put, List.setIfInBounds_toArray, List.set_cons_zero, List.set_cons_succ]))
  (refine Rg.tk (i := 4) (d := 87) (v := ?_) rfl rfl (by kernel_rfl) (by kernel_rfl) (by kernel_rfl) (fun _ _ _ h => h) (by rfl) ?_ (by assumption) ?_; rotate_left; (focus (intro w0 hSw; (try dsimp only at hSw); go_simp; (try with_reducible rfl))); (try simp only [Act.put, List.setIfInBounds_toArray, List.set_cons_zero, List.set_cons_succ]))
  (refine wpAnyH_ready (rs := [5]) (by kernel_rfl) (by simp) ?_; refine AllReadyH.cons (o := _) rfl (fun K hK => ?_) AllReadyH.nil; go_simp)
  refine (unhide hSame _ ((unhide P11).below (unhide HB0)) ((unhide W11).below (unhide HB0))).mono ?_
  rintro e w12 ⟨rfl, b12_⟩
  have b12 : Below w11.heap.size w11 w12 := (unhide HB0).trans b12_
  clear hHeld b12_
  have B12 := hide ((unhide B11).trans (b12.mono (unhide B11).size))
  have Q12 := hide ((unhide Q11).below b12)
  have R12 := hide ((unhide R11).below b12)
  have P12 := hide ((unhide P11).below b12)
  have W12 := hide ((unhide W11).below b12)
  have F12 := hide ((unhide F11).below b12)
  have N12 := hide ((unhide N11).below b12)
  clear b12 B11 Q11 R11 P11 W11 F11 N11
  refine hK.out _ _ (sSet (unhide Q12) (unhide F12) (unhide N12)) (fun hHeld => ?_)
  clear hK K
  (try simp only [Act.put, List.setIfInBounds_toArray, List.set_cons_zero, List.set_cons_succ])
  (refine Rg.tk (i := 6) (d := 89) (v := ?_) rfl rfl (by kernel_rfl) (by kernel_rfl) (by kernel_rfl) (fun _ _ _ h => h) (by rfl) ?_ (by assumption) ?_; rotate_left; (focus (intro w0 hSw; (try dsimp only at hSw); go_simp; (try with_reducible rfl))); (try simp only [Act.put, List.setIfInBounds_toArray, List.set_cons_zero, List.set_cons_succ]))
  (refine Rg.tk (i := 7) (d := 90) (v := ?_) rfl rfl (by kernel_rfl) (by kernel_rfl) (by kernel_rfl) (fun _ _ _ h => h) (by rfl) ?_ (by assumption) ?_; rotate_left; (focus (intro w0 hSw; (try dsimp only at hSw); go_simp; (try with_reducible rfl))); (try simp only [Act.put, List.setIfInBounds_toArray, List.set_cons_zero, List.set_cons_succ]))
  (refine Rg.tk (i := 8) (d := 91) (v := ?_) rfl rfl (by kernel_rfl) (by kernel_rfl) (by kernel_rfl) (fun _ _ _ h => h) (by rfl) ?_ (by assumption) ?_; rotate_left; (focus (intro w0 hSw; (try dsimp only at hSw); go_simp; (try with_reducible rfl))); (try simp only [Act.put, List.setIfInBounds_toArray, List.set_cons_zero, List.set_cons_succ]))
  (refine Rg.tk (i := 9) (d := 92) (v := ?_) rfl rfl (by kernel_rfl) (by kernel_rfl) (by kernel_rfl) (fun _ _ _ h => h) (by rfl) ?_ (by assumption) ?_; rotate_left; (focus (intro w0 hSw; (try dsimp only at hSw); go_simp; (try with_reducible rfl))); (try simp only [Act.put, List.setIfInBounds_toArray, List.set_cons_zero, List.set_cons_succ]))
  (refine wpAnyH_ready (rs := [10]) (by kernel_rfl) (by simp) ?_; refine AllReadyH.cons (o := _) rfl (fun K hK => ?_) AllReadyH.nil; go_simp)
  refine (unhide hOK _ (unhide P12)).mono ?_
  rintro e w13 ⟨rfl, b13⟩
  clear hHeld
  have B13 := hide ((unhide B12).trans (b13.mono (unhide B12).size))
  have Q13 := hide ((unhide Q12).below b13)
  have R13 := hide ((unhide R12).below b13)
  have P13 := hide ((unhide P12).below b13)
  have W13 := hide ((unhide W12).below b13)
  have F13 := hide ((unhide F12).below b13)
  have N13 := hide ((unhide N12).below b13)
  clear b13 B12 Q12 R12 P12 W12 F12 N12
  refine hK.out _ _ (sSet (unhide Q13) (unhide F13) (unhide N13)) (fun hHeld => ?_)
  clear hK K
  (try simp only [Act.put, List.setIfInBounds_toArray, List.set_cons_zero, List.set_cons_succ])
  (refine Rg.tk (i := 11) (d := 94) (v := ?_) rfl rfl (by kernel_rfl) (by kernel_rfl) (by kernel_rfl) (fun _ _ _ h => h) (by rfl) ?_ (by assumption) ?_; rotate_left; (focus (intro w0 hSw; (try dsimp only at hSw); go_simp; (try with_reducible rfl))); (try simp only [Act.put, List.setIfInBounds_toArray, List.set_cons_zero, List.set_cons_succ]))
  (refine Rg.tk (i := 12) (d := 95) (v := ?_) rfl rfl (by kernel_rfl) (by kernel_rfl) (by kernel_rfl) (fun _ _ _ h => h) (by rfl) ?_ (by assumption) ?_; rotate_left; (focus (intro w0 hSw; (try dsimp only at hSw); go_simp; (try with_reducible rfl))); (try simp only [Act.put, List.setIfInBounds_toArray, List.set_cons_zero, List.set_cons_succ]))
  (refine Rg.tk (i := 13) (d := 96) (v := ?_) rfl rfl (by kernel_rfl) (by kernel_rfl) (by kernel_rfl) (fun _ _ _ h => h) (by rfl) ?_ (by assumption) ?_; rotate_left; (focus (intro w0 hSw; (try dsimp only at hSw); go_simp; (try with_reducible rfl))); (try simp only [Act.put, List.setIfInBounds_toArray, List.set_cons_zero, List.set_cons_succ]))
  (refine Rg.tk (i := 14) (d := 97) (v := ?_) rfl rfl (by kernel_rfl) (by kernel_rfl) (by kernel_rfl) (fun _ _ _ h => h) (by rfl) ?_ (by assumption) ?_; rotate_left; (focus (intro w0 hSw; (try dsimp only at hSw); go_simp; (try with_reducible rfl))); (try simp only [Act.put, List.setIfInBounds_toArray, List.set_cons_zero, List.set_cons_succ]))
  (refine Rg.tk (i := 15) (d := 98) (v := ?_) rfl rfl (by kernel_rfl) (by kernel_rfl) (by kernel_rfl) (fun _ _ _ h => h) (by rfl) ?_ (by assumption) ?_; rotate_left; (focus (intro w0 hSw; (try dsimp only at hSw); go_simp; (try with_reducible rfl))); (try simp only [Act.put, List.setIfInBounds_toArray, List.set_cons_zero, List.set_cons_succ]))
  (refine Rg.tk (i := 16) (d := 99) (v := ?_) rfl rfl (by kernel_rfl) (by kernel_rfl) (by kernel_rfl) (fun _ _ _ h => h) (by rfl) ?_ (by assumption) ?_; rotate_left; (focus (intro w0 hSw; (try dsimp only at hSw); go_simp; (try with_reducible rfl))); (try simp only [Act.put, List.setIfInBounds_toArray, List.set_cons_zero, List.set_cons_succ]))
  (refine Rg.tk (i := 17) (d := 100) (v := ?_) rfl rfl (by kernel_rfl) (by kernel_rfl) (by kernel_rfl) (fun _ _ _ h => h) (by rfl) ?_ (by assumption) ?_; rotate_left; (focus (intro w0 hSw; (try dsimp only at hSw); go_simp; (try with_reducible rfl))); (try simp only [Act.put, List.setIfInBounds_toArray, List.set_cons_zero, List.set_cons_succ]))
  (refine Rg.tk (i := 18) (d := 101) (v := ?_) rfl rfl (by kernel_rfl) (by kernel_rfl) (by kernel_rfl) (fun _ _ _ h => h) (by rfl) ?_ (by assumption) ?_; rotate_left; (focus (intro w0 hSw; (try dsimp only at hSw); go_simp; (try with_reducible rfl))); (try simp only [Act.put, List.setIfInBounds_toArray, List.set_cons_zero, List.set_cons_succ]))
  (refine Rg.tk (i := 19) (d := 102) (v := ?_) rfl rfl (by kernel_rfl) (by kernel_rfl) (by kernel_rfl) (fun _ _ _ h => h) (by rfl) ?_ (by assumption) ?_; rotate_left; (focus (intro w0 hSw; (try dsimp only at hSw); go_simp; (try with_reducible rfl))); (try simp only [Act.put, List.setIfInBounds_toArray, List.set_cons_zero, List.set_cons_succ]))
  (refine Rg.tk (i := 20) (d := 103) (v := ?_) rfl rfl (by kernel_rfl) (by kernel_rfl) (by kernel_rfl) (fun _ _ _ h => h) (by rfl) ?_ (by assumption) ?_; rotate_left; (focus (intro w0 hSw; (try dsimp only at hSw); go_simp; (try with_reducible rfl))); (try simp only [Act.put, List.setIfInBounds_toArray, List.set_cons_zero, List.set_cons_succ]))
  (refine Rg.tk (i := 21) (d := 104) (v := ?_) rfl rfl (by kernel_rfl) (by kernel_rfl) (by kernel_rfl) (fun _ _ _ h => h) (by rfl) ?_ (by assumption) ?_; rotate_left; (focus (intro w0 hSw; (try dsimp only at hSw); go_simp; (try with_reducible rfl))); (try simp only [Act.put, List.setIfInBounds_toArray, List.set_cons_zero, List.set_cons_succ]))
  (refine Rg.tk (i := 22) (d := 105) (v := ?_) rfl rfl (by kernel_rfl) (by kernel_rfl) (by kernel_rfl) (fun _ _ _ h => h) (by rfl) ?_ (by assumption) ?_; rotate_left; (focus (intro w0 hSw; (try dsimp only at hSw); go_simp; (try with_reducible rfl))); (try simp only [Act.put, List.setIfInBounds_toArray, List.set_cons_zero, List.set_cons_succ]))
  (refine Rg.tk (i := 23) (d := 106) (v := ?_) rfl rfl (by kernel_rfl) (by kernel_rfl) (by kernel_rfl) (fun _ _ _ h => h) (by rfl) ?_ (by assumption) ?_; rotate_left; (focus (intro w0 hSw; (try dsimp only at hSw); go_simp; (try with_reducible rfl))); (try simp only [Act.put, List.setIfInBounds_toArray, List.set_cons_zero, List.set_cons_succ]))
  (refine Rg.tk (i := 24) (d := 107) (v := ?_) rfl rfl (by kernel_rfl) (by kernel_rfl) (by kernel_rfl) (fun _ _ _ h => h) (by rfl) ?_ (by assumption) ?_; rotate_left; (focus (intro w0 hSw; (try dsimp only at hSw); go_simp; (try with_reducible rfl))); (try simp only [Act.put, List.setIfInBounds_toArray, List.set_cons_zero, List.set_cons_succ]))
  (refine Rg.tk (i := 25) (d := 108) (v := ?_) rfl rfl (by kernel_rfl) (by kernel_rfl) (by kernel_rfl) (fun _ _ _ h => h) (by rfl) ?_ (by assumption) ?_; rotate_left; (focus (intro w0 hSw; (try dsimp only at hSw); go_simp; (try with_reducible rfl))); (try simp only [Act.put, List.setIfInBounds_toArray, List.set_cons_zero, List.set_cons_succ]))
  (refine Rg.tk (i := 26) (d := 109) (v := ?_) rfl rfl (by kernel_rfl) (by kernel_rfl) (by kernel_rfl) (fun _ _ _ h => h) (by rfl) ?_ (by assumption) ?_; rotate_left; (focus (intro w0 hSw; (try dsimp only at hSw); go_simp; (try with_reducible rfl))); (try simp only [Act.put, List.setIfInBounds_toArray, List.set_cons_zero, List.set_cons_succ]))
  (refine Rg.tk (i := 27) (d := 110) (v := ?_) rfl rfl (by kernel_rfl) (by kernel_rfl) (by kernel_rfl) (fun _ _ _ h => h) (by rfl) ?_ (by assumption) ?_; rotate_left; (focus (intro w0 hSw; (try dsimp only at hSw); go_simp; (try with_reducible rfl))); (try simp only [Act.put, List.setIfInBounds_toArray, List.set_cons_zero, List.set_cons_succ]))
  (refine Rg.tk (i := 28) (d := 111) (v := ?_) rfl rfl (by kernel_rfl) (by kernel_rfl) (by kernel_rfl) (fun _ _ _ h => h) (by rfl) ?_ (by assumption) ?_; rotate_left; (focus (intro w0 hSw; (try dsimp only at hSw); go_simp; (try with_reducible rfl))); (try simp only [Act.put, List.setIfInBounds_toArray, List.set_cons_zero, List.set_cons_succ]))
  (refine Rg.tk (i := 29) (d := 112) (v := ?_) rfl rfl (by kernel_rfl) (by kernel_rfl) (by kernel_rfl) (fun _ _ _ h => h) (by rfl) ?_ (by assumption) ?_; rotate_left; (focus (intro w0 hSw; (try dsimp only at hSw); go_simp; (try with_reducible rfl))); (try simp only [Act.put, List.setIfInBounds_toArray, List.set_cons_zero, List.set_cons_succ]))
  (refine Rg.tk (i := 30) (d := 113) (v := ?_) rfl rfl (by kernel_rfl) (by kernel_rfl) (by kernel_rfl) (fun _ _ _ h => h) (by rfl) ?_ (by assumption) ?_; rotate_left; (focus (intro w0 hSw; (try dsimp only at hSw); go_simp; (try with_reducible rfl))); (try simp only [Act.put, List.setIfInBounds_toArray, List.set_cons_zero, List.set_cons_succ]))
  (refine Rg.tk (i := 31) (d := 114) (v := ?_) rfl rfl (by kernel_rfl) (by kernel_rfl) (by kernel_rfl) (fun _ _ _ h => h) (by rfl) ?_ (by assumption) ?_; rotate_left; (focus (intro w0 hSw; (try dsimp only at hSw); go_simp; (try with_reducible rfl))); (try simp only [Act.put, List.setIfInBounds_toArray, List.set_cons_zero, List.set_cons_succ]))
  (refine Rg.tk (i := 32) (d := 115) (v := ?_) rfl rfl (by kernel_rfl) (by kernel_rfl) (by kernel_rfl) (fun _ _ _ h => h) (by rfl) ?_ (by assumption) ?_; rotate_left; (focus (intro w0 hSw; (try dsimp only at hSw); go_simp; (try with_reducible rfl))); (try simp only [Act.put, List.setIfInBounds_toArray, List.set_cons_zero, List.set_cons_succ]))
  (refine Rg.tk (i := 33) (d := 116) (v := ?_) rfl rfl (by kernel_rfl) (by kernel_rfl) (by kernel_rfl) (fun _ _ _ h => h) (by rfl) ?_ (by assumption) ?_; rotate_left; (focus (intro w0 hSw; (try dsimp only at hSw); go_simp; (try with_reducible rfl))); (try simp only [Act.put, List.setIfInBounds_toArray, List.set_cons_zero, List.set_cons_succ]))
  (refine Rg.tk (i := 34) (d := 117) (v := ?_) rfl rfl (by kernel_rfl) (by kernel_rfl) (by kernel_rfl) (fun _ _ _ h => h) (by rfl) ?_ (by assumption) ?_; rotate_left; (focus (intro w0 hSw; (try dsimp only at hSw); go_simp; (try with_reducible rfl))); (try simp only [Act.put, List.setIfInBounds_toArray, List.set_cons_zero, List.set_cons_succ]))
  (refine Rg.tk (i := 35) (d := 118) (v := ?_) rfl rfl (by kernel_rfl) (by kernel_rfl) (by kernel_rfl) (fun _ _ _ h => h) (by rfl) ?_ (by assumption) ?_; rotate_left; (focus (intro w0 hSw; (try dsimp only at hSw); go_simp; (try with_reducible rfl))); (try simp only [Act.put, List.setIfInBounds_toArray, List.set_cons_zero, List.set_cons_succ]))
  (refine Rg.tk (i := 36) (d := 119) (v := ?_) rfl rfl (by kernel_rfl) (by kernel_rfl) (by kernel_rfl) (fun _ _ _ h => h) (by rfl) ?_ (by assumption) ?_; rotate_left; (focus (intro w0 hSw; (try dsimp only at hSw); go_simp; (try with_reducible rfl))); (try simp only [Act.put, List.setIfInBounds_toArray, List.set_cons_zero, List.set_cons_succ]))
  (refine Rg.tk (i := 37) (d := 120) (v := ?_) rfl rfl (by kernel_rfl) (by kernel_rfl) (by kernel_rfl) (fun _ _ _ h => h) (by rfl) ?_ (by assumption) ?_; rotate_left; (focus (intro w0 hSw; (try dsimp only at hSw); go_simp; (try with_reducible rfl))); (try simp only [Act.put, List.setIfInBounds_toArray, List.set_cons_zero, List.set_cons_succ]))
  (refine Rg.tk (i := 38) (d := 121) (v := ?_) rfl rfl (by kernel_rfl) (by kernel_rfl) (by kernel_rfl) (fun _ _ _ h => h) (by rfl) ?_ (by assumption) ?_; rotate_left; (focus (intro w0 hSw; (try dsimp only at hSw); go_simp; (try with_reducible rfl))); (try simp only [Act.put, List.setIfInBounds_toArray, List.set_cons_zero, List.set_cons_succ]))
  (refine Rg.tk (i := 39) (d := 122) (v := ?_) rfl rfl (by kernel_rfl) (by kernel_rfl) (by kernel_rfl) (fun _ _ _ h => h) (by rfl) ?_ (by assumption) ?_; rotate_left; (focus (intro w0 hSw; (try dsimp only at hSw); go_simp; (try with_reducible rfl))); (try simp only [Act.put, List.setIfInBounds_toArray, List.set_cons_zero, List.set_cons_succ]))
  (refine Rg.tk (i := 40) (d := 123) (v := ?_) rfl rfl (by kernel_rfl) (by kernel_rfl) (by kernel_rfl) (fun _ _ _ h => h) (by rfl) ?_ (by assumption) ?_; rotate_left; (focus (intro w0 hSw; (try dsimp only at hSw); go_simp; (try with_reducible rfl))); (try simp only [Act.put, List.setIfInBounds_toArray, List.set_cons_zero, List.set_cons_succ]))
  (refine Rg.tk (i := 41) (d := 124) (v := ?_) rfl rfl (by kernel_rfl) (by kernel_rfl) (by kernel_rfl) (fun _ _ _ h => h) (by rfl) ?_ (by assumption) ?_; rotate_left; (focus (intro w0 hSw; (try dsimp only at hSw); go_simp; (try with_reducible rfl))); (try simp only [Act.put, List.setIfInBounds_toArray, List.set_cons_zero, List.set_cons_succ]))
  (refine Rg.tk (i := 42) (d := 125) (v := ?_) rfl rfl (by kernel_rfl) (by kernel_rfl) (by kernel_rfl) (fun _ _ _ h => h) (by rfl) ?_ (by assumption) ?_; rotate_left; (focus (intro w0 hSw; (try dsimp only at hSw); go_simp; (try with_reducible rfl))); (try simp only [Act.put, List.setIfInBounds_toArray, List.set_cons_zero, List.set_cons_succ]))
  (refine Rg.tk (i := 43) (d := 126) (v := ?_) rfl rfl (by kernel_rfl) (by kernel_rfl) (by kernel_rfl) (fun _ _ _ h => h) (by rfl) ?_ (by assumption) ?_; rotate_left; (focus (intro w0 hSw; (try dsimp only at hSw); go_simp; (try with_reducible rfl))); (try simp only [Act.put, List.setIfInBounds_toArray, List.set_cons_zero, List.set_cons_succ]))
  (refine Rg.tk (i := 44) (d := 127) (v := ?_) rfl rfl (by kernel_rfl) (by kernel_rfl) (by kernel_rfl) (fun _ _ _ h => h) (by rfl) ?_ (by assumption) ?_; rotate_left; (focus (intro w0 hSw; (try dsimp only at hSw); go_simp; (try with_reducible rfl))); (try simp only [Act.put, List.setIfInBounds_toArray, List.set_cons_zero, List.set_cons_succ]))
  (refine Rg.tk (i := 45) (d := 128) (v := ?_) rfl rfl (by kernel_rfl) (by kernel_rfl) (by kernel_rfl) (fun _ _ _ h => h) (by rfl) ?_ (by assumption) ?_; rotate_left; (focus (intro w0 hSw; (try dsimp only at hSw); go_simp; (try with_reducible rfl))); (try simp only [Act.put, List.setIfInBounds_toArray, List.set_cons_zero, List.set_cons_succ]))
  (refine Rg.tk (i := 46) (d := 129) (v := ?_) rfl rfl (by kernel_rfl) (by kernel_rfl) (by kernel_rfl) (fun _ _ _ h => h) (by rfl) ?_ (by assumption) ?_; rotate_left; (focus (intro w0 hSw; (try dsimp only at hSw); go_simp; (try with_reducible rfl))); (try simp only [Act.put, List.setIfInBounds_toArray, List.set_cons_zero, List.set_cons_succ]))
  (refine Rg.tk (i := 47) (d := 130) (v := ?_) rfl rfl (by kernel_rfl) (by kernel_rfl) (by kernel_rfl) (fun _ _ _ h => h) (by rfl) ?_ (by assumption) ?_; rotate_left; (focus (intro w0 hSw; (try dsimp only at hSw); go_simp; (try with_reducible rfl))); (try simp only [Act.put, List.setIfInBounds_toArray, List.set_cons_zero, List.set_cons_succ]))
  (refine Rg.tk (i := 48) (d := 131) (v := ?_) rfl rfl (by kernel_rfl) (by kernel_rfl) (by kernel_rfl) (fun _ _ _ h => h) (by rfl) ?_ (by assumption) ?_; rotate_left; (focus (intro w0 hSw; (try dsimp only at hSw); go_simp; (try with_reducible rfl))); (try simp only [Act.put, List.setIfInBounds_toArray, List.set_cons_zero, List.set_cons_succ]))
  (refine Rg.tk (i := 49) (d := 132) (v := ?_) rfl rfl (by kernel_rfl) (by kernel_rfl) (by kernel_rfl) (fun _ _ _ h => h) (by rfl) ?_ (by assumption) ?_; rotate_left; (focus (intro w0 hSw; (try dsimp only at hSw); go_simp; (try with_reducible rfl))); (try simp only [Act.put, List.setIfInBounds_toArray, List.set_cons_zero, List.set_cons_succ]))
  (refine Rg.tk (i := 50) (d := 133) (v := ?_) rfl rfl (by kernel_rfl) (by kernel_rfl) (by kernel_rfl) (fun _ _ _ h => h) (by rfl) ?_ (by assumption) ?_; rotate_left; (focus (intro w0 hSw; (try dsimp only at hSw); go_simp; (try with_reducible rfl))); (try simp only [Act.put, List.setIfInBounds_toArray, List.set_cons_zero, List.set_cons_succ]))
  (refine Rg.tk (i := 51) (d := 134) (v := ?_) rfl rfl (by kernel_rfl) (by kernel_rfl) (by kernel_rfl) (fun _ _ _ h => h) (by rfl) ?_ (by assumption) ?_; rotate_left; (focus (intro w0 hSw; (try dsimp only at hSw); go_simp; (try with_reducible rfl))); (try simp only [Act.put, List.setIfInBounds_toArray, List.set_cons_zero, List.set_cons_succ]))
  (refine Rg.tk (i := 52) (d := 135) (v := ?_) rfl rfl (by kernel_rfl) (by kernel_rfl) (by kernel_rfl) (fun _ _ _ h => h) (by rfl) ?_ (by assumption) ?_; rotate_left; (focus (intro w0 hSw; (try dsimp only at hSw); go_simp; (try with_reducible rfl))); (try simp only [Act.put, List.setIfInBounds_toArray, List.set_cons_zero, List.set_cons_succ]))
  (refine Rg.tk (i := 53) (d := 136) (v := ?_) rfl rfl (by kernel_rfl) (by kernel_rfl) (by kernel_rfl) (fun _ _ _ h => h) (by rfl) ?_ (by assumption) ?_; rotate_left; (focus (intro w0 hSw; (try dsimp only at hSw); go_simp; (try with_reducible rfl))); (try simp only [Act.put, List.setIfInBounds_toArray, List.set_cons_zero, List.set_cons_succ]))
  (refine Rg.tk (i := 54) (d := 137) (v := ?_) rfl rfl (by kernel_rfl) (by kernel_rfl) (by kernel_rfl) (fun _ _ _ h => h) (by rfl) ?_ (by assumption) ?_; rotate_left; (focus (intro w0 hSw; (try dsimp only at hSw); go_simp; (try with_reducible rfl))); (try simp only [Act.put, List.setIfInBounds_toArray, List.set_cons_zero, List.set_cons_succ]))
  (refine Rg.tk (i := 55) (d := 138) (v := ?_) rfl rfl (by kernel_rfl) (by kernel_rfl) (by kernel_rfl) (fun _ _ _ h => h) (by rfl) ?_ (by assumption) ?_; rotate_left; (focus (intro w0 hSw; (try dsimp only at hSw); go_simp; (try with_reducible rfl))); (try simp only [Act.put, List.setIfInBounds_toArray, List.set_cons_zero, List.set_cons_succ]))
  (refine Rg.tk (i := 56) (d := 139) (v := ?_) rfl rfl (by kernel_rfl) (by kernel_rfl) (by kernel_rfl) (fun _ _ _ h => h) (by rfl) ?_ (by assumption) ?_; rotate_left; (focus (intro w0 hSw; (try dsimp only at hSw); go_simp; (try with_reducible rfl))); (try simp only [Act.put, List.setIfInBounds_toArray, List.set_cons_zero, List.set_cons_succ]))
  refine wpAnyH_done (by kernel_rfl) (NoPanic.normal ?_) _
  clear hHeld F13 N13 W13 hSame hOK
  go_wp2_with fail
  go_loopw [21] (fun i wr => ∃ j : Nat, j ≤ k ∧ i = .int .i64 j ∧ Hid (Below w13.heap.size w13 wr)) (fun i _ => k - (intOf i).toNat)
  case atStart => exact ⟨0, by omega, rfl, hide (Below.refl _ _)⟩
  case round =>
    obtain ⟨j, hj, rfl, hbl⟩ := hrel
    by_cases hlt : (j : Int) < (k : Int)
    · have k0 : (0 : Int) ≤ (j : Int) := by omega
      have hjn : j < k := by omega
      have hA0 := ((unhide R13).below (unhide hbl)).at (i := j) (by rw [unhide HK]; exact hjn)
      rw [Nat.zero_add] at hA0
      have HKJ := hide (unhide HKP _ (unhide HMJ j hjn))
      generalize ms.getD j R.zero = m at *
      obtain ⟨k1, t1, v1⟩ := m
      have HA := hide hA0
      obtain ⟨c0, c1, c2⟩ := hA0
      dsimp only at c0 c1 c2
      go_wp2_with fail
      clear c0 c1 c2
      refine (unhide hFind _ k1 ((unhide P13).below (unhide hbl))).mono ?_
      rintro e w14 ⟨rfl, b14⟩
      rw [show dropE PL k1 = 0 from (unhide HKJ).1]
      have BL := hide ((unhide hbl).trans (b14.mono (unhide hbl).size))
      have A14 := hide ((unhide HA).below b14)
      by_cases hkk : k1 = key
      · subst hkk
        obtain ⟨y, hy⟩ : ∃ y, findA PL k1 = y := ⟨_, rfl⟩
        rw [hy]
        clear hy
        obtain ⟨y0, y1, y2⟩ := y
        unfold R.value
        dsimp only
        have b15 : Below w14.heap.size w14 (w14.alloc (.cells #[.int .i64 y0, .int .i64 y1, .int .i64 y2] 41)).drew := ((Below.refl _ _).alloc (Nat.le_refl _) _).drew
        have Y15 : Hid (Bx (w14.alloc (.cells #[.int .i64 y0, .int .i64 y1, .int .i64 y2] 41)).drew w14.heap.size ⟨y0, y1, y2⟩) := hide (bx_new w14 y0 y1 y2).drew
        have HB15 := hide b15
        have A15 := hide ((unhide A14).below b15)
        have Q15 := hide (((unhide Q13).below (unhide BL)).below b15)
        clear b14 b15
        go_wp2_with fail
        refine wp_region_noPanic ?_
        refine wp_region_held_drew (S := fun w' => (Bx w' w2.heap.size ⟨k1, til, val⟩ ∧ Bx w' w14.heap.size ⟨y0, y1, y2⟩) ∧ w'.cell? ⟨w2.heap.size, 0, none⟩ = some (.int .i64 k1) ∧ w'.cell? ⟨w2.heap.size, 1, none⟩ = some (.int .i64 til) ∧ w'.cell? ⟨w2.heap.size, 2, none⟩ = some (.int .i64 val) ∧ w'.cell? ⟨w14.heap.size, 0, none⟩ = some (.int .i64 y0) ∧ w'.cell? ⟨w14.heap.size, 1, none⟩ = some (.int .i64 y1) ∧ w'.cell? ⟨w14.heap.size, 2, none⟩ = some (.int .i64 y2) ∧ w'.cell? ⟨g, j * 3, none⟩ = some (.int .i64 k1) ∧ w'.cell? ⟨g, j * 3 + 1, none⟩ = some (.int .i64 t1) ∧ w'.cell? ⟨g, j * 3 + 2, none⟩ = some (.int .i64 v1)) (by kernel_rfl) (sTwo (unhide Q15) (unhide Y15) (unhide A15)) (fun hHeld => ?_)
        (refine Rg.tk (i := 0) (d := 156) (v := ?_) rfl rfl (by kernel_rfl) (by kernel_rfl) (by kernel_rfl) (fun _ _ _ h => h) (by rfl) ?_ (by assumption) ?_; rotate_left; (focus (intro w0 hSw; (try dsimp only at hSw); go_simp; (try with_reducible rfl))); (try simp only [Act.put, List.setIfInBounds_toArray, List.set_cons_zero, List.set_cons_succ]))
        (refine Rg.tk (i := 1) (d := 157) (v := ?_) rfl rfl (by kernel_rfl) (by kernel_rfl) (by kernel_rfl) (fun _ _ _ h => h) (by rfl) ?_ (by assumption) ?_; rotate_left; (focus (intro w0 hSw; (try dsimp only at hSw); go_simp; (try with_reducible rfl))); (try simp only [Act.put, List.setIfInBounds_toArray, List.set_cons_zero, List.set_cons_succ]))
        (refine Rg.tk (i := 2) (d := 158) (v := ?_) rfl rfl (by kernel_rfl) (by kernel_rfl) (by kernel_rfl) (fun _ _ _ h => h) (by rfl) ?_ (by assumption) ?_; rotate_left; (focus (intro w0 hSw; (try dsimp only at hSw); go_simp; (try with_reducible rfl))); (try simp only [Act.put, List.setIfInBounds_toArray, List.set_cons_zero, List.set_cons_succ]))
        (refine Rg.tk (i := 3) (d := 159) (v := ?_) rfl rfl (by kernel_rfl) (by kernel_rfl) (by kernel_rfl) (fun _ _ _ h => h) (by rfl) ?_ (by assumption) ?_; rotate_left; (focus (intro w0 hSw; (try dsimp only at hSw); go_simp; (try with_reducible rfl))); (try simp only [Act.put, List.setIfInBounds_toArray, List.set_cons_zero, List.set_cons_succ]))
        (refine Rg.tk (i := 4) (d := 160) (v := ?_) rfl rfl (by kernel_rfl) (by kernel_rfl) (by kernel_rfl) (fun _ _ _ h => h) (by rfl) ?_ (by assumption) ?_; rotate_left; (focus (intro w0 hSw; (try dsimp only at hSw); go_simp; (try with_reducible rfl))); (try simp only [Act.put, List.setIfInBounds_toArray, List.set_cons_zero, List.set_cons_succ]))
        (refine Rg.tk (i := 5) (d := 161) (v := ?_) rfl rfl (by kernel_rfl) (by kernel_rfl) (by kernel_rfl) (fun _ _ _ h => h) (by rfl) ?_ (by assumption) ?_; rotate_left; (focus (intro w0 hSw; (try dsimp only at hSw); go_simp; (try with_reducible rfl))); (try simp only [Act.put, List.setIfInBounds_toArray, List.set_cons_zero, List.set_cons_succ]))
        (refine Rg.tk (i := 6) (d := 162) (v := ?_) rfl rfl (by kernel_rfl) (by kernel_rfl) (by kernel_rfl) (fun _ _ _ h => h) (by rfl) ?_ (by assumption) ?_; rotate_left; (focus (intro w0 hSw; (try dsimp only at hSw); go_simp; (try with_reducible rfl))); (try simp only [Act.put, List.setIfInBounds_toArray, List.set_cons_zero, List.set_cons_succ]))
        (refine Rg.tk (i := 7) (d := 163) (v := ?_) rfl rfl (by kernel_rfl) (by kernel_rfl) (by kernel_rfl) (fun _ _ _ h => h) (by rfl) ?_ (by assumption) ?_; rotate_left; (focus (intro w0 hSw; (try dsimp only at hSw); go_simp; (try with_reducible rfl))); (try simp only [Act.put, List.setIfInBounds_toArray, List.set_cons_zero, List.set_cons_succ]))
        (refine Rg.tk (i := 8) (d := 164) (v := ?_) rfl rfl (by kernel_rfl) (by kernel_rfl) (by kernel_rfl) (fun _ _ _ h => h) (by rfl) ?_ (by assumption) ?_; rotate_left; (focus (intro w0 hSw; (try dsimp only at hSw); go_simp; (try with_reducible rfl))); (try simp only [Act.put, List.setIfInBounds_toArray, List.set_cons_zero, List.set_cons_succ]))
        (refine Rg.tk (i := 9) (d := 165) (v := ?_) rfl rfl (by kernel_rfl) (by kernel_rfl) (by kernel_rfl) (fun _ _ _ h => h) (by rfl) ?_ (by assumption) ?_; rotate_left; (focus (intro w0 hSw; (try dsimp only at hSw); go_simp; (try with_reducible rfl))); (try simp only [Act.put, List.setIfInBounds_toArray, List.set_cons_zero, List.set_cons_succ]))
        (refine Rg.tk (i := 10) (d := 166) (v := ?_) rfl rfl (by kernel_rfl) (by kernel_rfl) (by kernel_rfl) (fun _ _ _ h => h) (by rfl) ?_ (by assumption) ?_; rotate_left; (focus (intro w0 hSw; (try dsimp only at hSw); go_simp; (try with_reducible rfl))); (try simp only [Act.put, List.setIfInBounds_toArray, List.set_cons_zero, List.set_cons_succ]))
        (refine Rg.tk (i := 11) (d := 167) (v := ?_) rfl rfl (by kernel_rfl) (by kernel_rfl) (by kernel_rfl) (fun _ _ _ h => h) (by rfl) ?_ (by assumption) ?_; rotate_left; (focus (intro w0 hSw; (try dsimp only at hSw); go_simp; (try with_reducible rfl))); (try simp only [Act.put, List.setIfInBounds_toArray, List.set_cons_zero, List.set_cons_succ]))
        (refine Rg.sk (i := 12) (d := 168) rfl rfl (by kernel_rfl) (by kernel_rfl) (by kernel_rfl) (fun _ _ _ h => h) (by first | kernel_rfl | rfl) (by assumption) ?_; (try simp only [Act.put, List.setIfInBounds_toArray, List.set_cons_zero, List.set_cons_succ]))
        (refine Rg.sk (i := 13) (d := 169) rfl rfl (by kernel_rfl) (by kernel_rfl) (by kernel_rfl) (fun _ _ _ h => h) (by first | kernel_rfl | rfl) (by assumption) ?_; (try simp only [Act.put, List.setIfInBounds_toArray, List.set_cons_zero, List.set_cons_succ]))
        (refine Rg.sk (i := 14) (d := 170) rfl rfl (by kernel_rfl) (by kernel_rfl) (by kernel_rfl) (fun _ _ _ h => h) (by first | kernel_rfl | rfl) (by assumption) ?_; (try simp only [Act.put, List.setIfInBounds_toArray, List.set_cons_zero, List.set_cons_succ]))
        (refine Rg.sk (i := 15) (d := 171) rfl rfl (by kernel_rfl) (by kernel_rfl) (by kernel_rfl) (fun _ _ _ h => h) (by first | kernel_rfl | rfl) (by assumption) ?_; (try simp only [Act.put, List.setIfInBounds_toArray, List.set_cons_zero, List.set_cons_succ]))
        (refine Rg.sk (i := 16) (d := 172) rfl rfl (by kernel_rfl) (by kernel_rfl) (by kernel_rfl) (fun _ _ _ h => h) (by first | kernel_rfl | rfl) (by assumption) ?_; (try simp only [Act.put, List.setIfInBounds_toArray, List.set_cons_zero, List.set_cons_succ]))
        (refine Rg.sk (i := 17) (d := 173) rfl rfl (by kernel_rfl) (by kernel_rfl) (by kernel_rfl) (fun _ _ _ h => h) (by first | kernel_rfl | rfl) (by assumption) ?_; (try simp only [Act.put, List.setIfInBounds_toArray, List.set_cons_zero, List.set_cons_succ]))
        (refine Rg.tk (i := 18) (d := 174) (v := ?_) rfl rfl (by kernel_rfl) (by kernel_rfl) (by kernel_rfl) (fun _ _ _ h => h) (by rfl) ?_ (by assumption) ?_; rotate_left; (focus (intro w0 hSw; (try dsimp only at hSw); go_simp; (try with_reducible rfl))); (try simp only [Act.put, List.setIfInBounds_toArray, List.set_cons_zero, List.set_cons_succ]))
        (refine Rg.tk (i := 19) (d := 175) (v := ?_) rfl rfl (by kernel_rfl) (by kernel_rfl) (by kernel_rfl) (fun _ _ _ h => h) (by rfl) ?_ (by assumption) ?_; rotate_left; (focus (intro w0 hSw; (try dsimp only at hSw); go_simp; (try with_reducible rfl))); (try simp only [Act.put, List.setIfInBounds_toArray, List.set_cons_zero, List.set_cons_succ]))
        refine wpAnyH_done (by kernel_rfl) (NoPanic.normal ?_) _
        clear hHeld
        have HBL : Hid (Below w13.heap.size w13 (w14.alloc (.cells #[.int .i64 y0, .int .i64 y1, .int .i64 y2] 41)).drew) := hide ((unhide BL).trans ((unhide HB15).mono (unhide BL).size))
        go_wp2_with fail
        go_roundw
        case rel => exact ⟨j + 1, by omega, by go_num, HBL⟩
        case measure => simp [intOf]; omega
      · rw [(unhide HKJ).2 hkk]
        unfold R.value
        dsimp only
        have hkb : (k1 == key) = false := by simpa using hkk
        have hkn : (k1 != key) = true := by simp [bne, hkb]
        have b15 : Below w14.heap.size w14 (w14.alloc (.cells #[.int .i64 k1, .int .i64 t1, .int .i64 v1] 41)).drew := ((Below.refl _ _).alloc (Nat.le_refl _) _).drew
        have Y15 : Hid (Bx (w14.alloc (.cells #[.int .i64 k1, .int .i64 t1, .int .i64 v1] 41)).drew w14.heap.size ⟨k1, t1, v1⟩) := hide (bx_new w14 k1 t1 v1).drew
        have HB15 := hide b15
        have A15 := hide ((unhide A14).below b15)
        have Q15 := hide (((unhide Q13).below (unhide BL)).below b15)
        clear b14 b15
        go_wp2_with fail
        refine wp_region_noPanic ?_
        refine wp_region_held_drew (S := fun w' => (Bx w' w2.heap.size ⟨key, til, val⟩ ∧ Bx w' w14.heap.size ⟨k1, t1, v1⟩) ∧ w'.cell? ⟨w2.heap.size, 0, none⟩ = some (.int .i64 key) ∧ w'.cell? ⟨w2.heap.size, 1, none⟩ = some (.int .i64 til) ∧ w'.cell? ⟨w2.heap.size, 2, none⟩ = some (.int .i64 val) ∧ w'.cell? ⟨w14.heap.size, 0, none⟩ = some (.int .i64 k1) ∧ w'.cell? ⟨w14.heap.size, 1, none⟩ = some (.int .i64 t1) ∧ w'.cell? ⟨w14.heap.size, 2, none⟩ = some (.int .i64 v1) ∧ w'.cell? ⟨g, j * 3, none⟩ = some (.int .i64 k1) ∧ w'.cell? ⟨g, j * 3 + 1, none⟩ = some (.int .i64 t1) ∧ w'.cell? ⟨g, j * 3 + 2, none⟩ = some (.int .i64 v1)) (by kernel_rfl) (sTwo (unhide Q15) (unhide Y15) (unhide A15)) (fun hHeld => ?_)
        (refine Rg.tk (i := 0) (d := 156) (v := ?_) rfl rfl (by kernel_rfl) (by kernel_rfl) (by kernel_rfl) (fun _ _ _ h => h) (by rfl) ?_ (by assumption) ?_; rotate_left; (focus (intro w0 hSw; (try dsimp only at hSw); go_simp; (try with_reducible rfl))); (try simp only [Act.put, List.setIfInBounds_toArray, List.set_cons_zero, List.set_cons_succ]))
        (refine Rg.tk (i := 1) (d := 157) (v := ?_) rfl rfl (by kernel_rfl) (by kernel_rfl) (by kernel_rfl) (fun _ _ _ h => h) (by rfl) ?_ (by assumption) ?_; rotate_left; (focus (intro w0 hSw; (try dsimp only at hSw); go_simp; (try with_reducible rfl))); (try simp only [Act.put, List.setIfInBounds_toArray, List.set_cons_zero, List.set_cons_succ]))
        (refine Rg.tk (i := 2) (d := 158) (v := ?_) rfl rfl (by kernel_rfl) (by kernel_rfl) (by kernel_rfl) (fun _ _ _ h => h) (by rfl) ?_ (by assumption) ?_; rotate_left; (focus (intro w0 hSw; (try dsimp only at hSw); go_simp; (try with_reducible rfl))); (try simp only [Act.put, List.setIfInBounds_toArray, List.set_cons_zero, List.set_cons_succ]))
        (refine Rg.tk (i := 3) (d := 159) (v := ?_) rfl rfl (by kernel_rfl) (by kernel_rfl) (by kernel_rfl) (fun _ _ _ h => h) (by rfl) ?_ (by assumption) ?_; rotate_left; (focus (intro w0 hSw; (try dsimp only at hSw); go_simp; (try with_reducible rfl))); (try simp only [Act.put, List.setIfInBounds_toArray, List.set_cons_zero, List.set_cons_succ]))
        (refine Rg.tk (i := 4) (d := 160) (v := ?_) rfl rfl (by kernel_rfl) (by kernel_rfl) (by kernel_rfl) (fun _ _ _ h => h) (by rfl) ?_ (by assumption) ?_; rotate_left; (focus (intro w0 hSw; (try dsimp only at hSw); go_simp; (try with_reducible rfl))); (try simp only [Act.put, List.setIfInBounds_toArray, List.set_cons_zero, List.set_cons_succ]))
        (refine Rg.tk (i := 5) (d := 161) (v := ?_) rfl rfl (by kernel_rfl) (by kernel_rfl) (by kernel_rfl) (fun _ _ _ h => h) (by rfl) ?_ (by assumption) ?_; rotate_left; (focus (intro w0 hSw; (try dsimp only at hSw); go_simp; (try with_reducible rfl))); (try simp only [Act.put, List.setIfInBounds_toArray, List.set_cons_zero, List.set_cons_succ]))
        (refine Rg.tk (i := 6) (d := 162) (v := ?_) rfl rfl (by kernel_rfl) (by kernel_rfl) (by kernel_rfl) (fun _ _ _ h => h) (by rfl) ?_ (by assumption) ?_; rotate_left; (focus (intro w0 hSw; (try dsimp only at hSw); go_simp; (try with_reducible rfl))); (try simp only [Act.put, List.setIfInBounds_toArray, List.set_cons_zero, List.set_cons_succ]))
        (refine Rg.tk (i := 7) (d := 163) (v := ?_) rfl rfl (by kernel_rfl) (by kernel_rfl) (by kernel_rfl) (fun _ _ _ h => h) (by rfl) ?_ (by assumption) ?_; rotate_left; (focus (intro w0 hSw; (try dsimp only at hSw); go_simp; (try with_reducible rfl))); (try simp only [Act.put, List.setIfInBounds_toArray, List.set_cons_zero, List.set_cons_succ]))
        (refine Rg.tk (i := 8) (d := 164) (v := ?_) rfl rfl (by kernel_rfl) (by kernel_rfl) (by kernel_rfl) (fun _ _ _ h => h) (by rfl) ?_ (by assumption) ?_; rotate_left; (focus (intro w0 hSw; (try dsimp only at hSw); go_simp; (try with_reducible rfl))); (try simp only [Act.put, List.setIfInBounds_toArray, List.set_cons_zero, List.set_cons_succ]))
        (refine Rg.tk (i := 9) (d := 165) (v := ?_) rfl rfl (by kernel_rfl) (by kernel_rfl) (by kernel_rfl) (fun _ _ _ h => h) (by rfl) ?_ (by assumption) ?_; rotate_left; (focus (intro w0 hSw; (try dsimp only at hSw); go_simp; (try with_reducible rfl))); (try simp only [Act.put, List.setIfInBounds_toArray, List.set_cons_zero, List.set_cons_succ]))
        (refine Rg.tk (i := 10) (d := 166) (v := ?_) rfl rfl (by kernel_rfl) (by kernel_rfl) (by kernel_rfl) (fun _ _ _ h => h) (by rfl) ?_ (by assumption) ?_; rotate_left; (focus (intro w0 hSw; (try dsimp only at hSw); go_simp; (try with_reducible rfl))); (try simp only [Act.put, List.setIfInBounds_toArray, List.set_cons_zero, List.set_cons_succ]))
        (refine Rg.tk (i := 11) (d := 167) (v := ?_) rfl rfl (by kernel_rfl) (by kernel_rfl) (by kernel_rfl) (fun _ _ _ h => h) (by rfl) ?_ (by assumption) ?_; rotate_left; (focus (intro w0 hSw; (try dsimp only at hSw); go_simp; (try with_reducible rfl))); (try simp only [Act.put, List.setIfInBounds_toArray, List.set_cons_zero, List.set_cons_succ]))
        (refine Rg.tk (i := 12) (d := 168) (v := ?_) rfl rfl (by kernel_rfl) (by kernel_rfl) (by kernel_rfl) (fun _ _ _ h => h) (by rfl) ?_ (by assumption) ?_; rotate_left; (focus (intro w0 hSw; (try dsimp only at hSw); go_simp; (try with_reducible rfl))); (try simp only [Act.put, List.setIfInBounds_toArray, List.set_cons_zero, List.set_cons_succ]))
        (refine Rg.tk (i := 13) (d := 169) (v := ?_) rfl rfl (by kernel_rfl) (by kernel_rfl) (by kernel_rfl) (fun _ _ _ h => h) (by rfl) ?_ (by assumption) ?_; rotate_left; (focus (intro w0 hSw; (try dsimp only at hSw); go_simp; (try with_reducible rfl))); (try simp only [Act.put, List.setIfInBounds_toArray, List.set_cons_zero, List.set_cons_succ]))
        (refine Rg.tk (i := 14) (d := 170) (v := ?_) rfl rfl (by kernel_rfl) (by kernel_rfl) (by kernel_rfl) (fun _ _ _ h => h) (by rfl) ?_ (by assumption) ?_; rotate_left; (focus (intro w0 hSw; (try dsimp only at hSw); go_simp; (try with_reducible rfl))); (try simp only [Act.put, List.setIfInBounds_toArray, List.set_cons_zero, List.set_cons_succ]))
        (refine Rg.tk (i := 15) (d := 171) (v := ?_) rfl rfl (by kernel_rfl) (by kernel_rfl) (by kernel_rfl) (fun _ _ _ h => h) (by rfl) ?_ (by assumption) ?_; rotate_left; (focus (intro w0 hSw; (try dsimp only at hSw); go_simp; (try with_reducible rfl))); (try simp only [Act.put, List.setIfInBounds_toArray, List.set_cons_zero, List.set_cons_succ]))
        (refine Rg.tk (i := 16) (d := 172) (v := ?_) rfl rfl (by kernel_rfl) (by kernel_rfl) (by kernel_rfl) (fun _ _ _ h => h) (by rfl) ?_ (by assumption) ?_; rotate_left; (focus (intro w0 hSw; (try dsimp only at hSw); go_simp; (try with_reducible rfl))); (try simp only [Act.put, List.setIfInBounds_toArray, List.set_cons_zero, List.set_cons_succ]))
        (refine Rg.tk (i := 17) (d := 173) (v := ?_) rfl rfl (by kernel_rfl) (by kernel_rfl) (by kernel_rfl) (fun _ _ _ h => h) (by rfl) ?_ (by assumption) ?_; rotate_left; (focus (intro w0 hSw; (try dsimp only at hSw); go_simp; (try with_reducible rfl))); (try simp only [Act.put, List.setIfInBounds_toArray, List.set_cons_zero, List.set_cons_succ]))
        (refine Rg.tk (i := 18) (d := 174) (v := ?_) rfl rfl (by kernel_rfl) (by kernel_rfl) (by kernel_rfl) (fun _ _ _ h => h) (by rfl) ?_ (by assumption) ?_; rotate_left; (focus (intro w0 hSw; (try dsimp only at hSw); go_simp; (try with_reducible rfl))); (try simp only [Act.put, List.setIfInBounds_toArray, List.set_cons_zero, List.set_cons_succ]))
        (refine Rg.tk (i := 19) (d := 175) (v := ?_) rfl rfl (by kernel_rfl) (by kernel_rfl) (by kernel_rfl) (fun _ _ _ h => h) (by rfl) ?_ (by assumption) ?_; rotate_left; (focus (intro w0 hSw; (try dsimp only at hSw); go_simp; (try with_reducible rfl))); (try simp only [Act.put, List.setIfInBounds_toArray, List.set_cons_zero, List.set_cons_succ]))
        refine wpAnyH_done (by kernel_rfl) (NoPanic.normal ?_) _
        clear hHeld
        have HBL : Hid (Below w13.heap.size w13 (w14.alloc (.cells #[.int .i64 k1, .int .i64 t1, .int .i64 v1] 41)).drew) := hide ((unhide BL).trans ((unhide HB15).mono (unhide BL).size))
        go_wp2_with fail
        go_roundw
        case rel => exact ⟨j + 1, by omega, by go_num, HBL⟩
        case measure => simp [intOf]; omega
    · obtain rfl : j = k := by omega
      have HF2 := hide ((unhide B13).trans ((unhide hbl).mono (unhide B13).size))
      go_wp2_with fail
      go_ret
      exact ⟨rfl, unhide HF2⟩

set_option maxRecDepth 100000 in
theorem lifted (os : Os) (started : os.Started) (H : Type) (enc : TypeId × Value → H) :
    ReturnsInHanded {} Try.checked os 6 .any (Rows.fnSetSpec.pre6 enc Try.prog Try.f6 Rows.fnSetRow.domain false) (Rows.fnSetSpec.post enc Try.prog Try.f6 false true false false) := by
  refine returnsInHanded_of_change (C := Try.checked) own started (by kernel_rfl) Try.func6
    (ChangeSpec.witness6 (enc := enc) (C := Try.checked) false ⟨#[], #[.slice none 0 0, .slice none 0 0], []⟩ 8 (by kernel_rfl) (by kernel_rfl) (by kernel_rfl) (by kernel_rfl)) ?_
  intro W base args ds gs before hval0 hW hcnd _
  have hval : ∀ (j : Nat) t v, Try.f6.params[j]? = some t → args[j]? = some v → Value.okWide Try.prog W .any base t v := hval0
  have hW' := hW
  obtain ⟨p, q, hA0, hV, rfl, hfz, hnd⟩ := hW
  have hA : DataW.TrodAll enc Try.prog W 0 (fun _ => true) true Try.f6.params.toList args.toList ds p := hA0
  rw [Try.params6] at hA hval
  obtain ⟨v0, vs0, d0, ds0, p0, q0, hargs0, rfl, rfl, h0, r0⟩ := trodAll_cons hA
  obtain ⟨v1, vs1, d1, ds1, p1, q1, hargs1, rfl, rfl, h1, r1⟩ := trodAll_cons r0
  obtain ⟨rfl, rfl, rfl⟩ := trodAll_nil r1
  obtain rfl : args = #[v0, v1] := by cases args; simp_all
  obtain ⟨rfl, rfl⟩ := trodVars_none hV
  have k0 := h0
  have lt0 : ∀ x ∈ p0, x.block < W.heap.size := by obtain ⟨m, hm⟩ := k0; exact DataW.trod_lt m _ _ _ hm
  have k1 := h1
  have lt1 : ∀ x ∈ p1, x.block < W.heap.size := by obtain ⟨m, hm⟩ := k1; exact DataW.trod_lt m _ _ _ hm
  obtain ⟨a0, len0, cap0, rfl⟩ := okWide_slice Try.underlying22 (hval 0 22 v0 rfl rfl)
  obtain ⟨bs0, hlen0, hmx0, hrd0⟩ := Op.open_bytes h0
  subst hlen0
  obtain ⟨a1, len1, cap1, rfl⟩ := okWide_slice Try.underlying22 (hval 1 22 v1 rfl rfl)
  obtain ⟨bs1, hlen1, hmx1, hrd1⟩ := Op.open_bytes h1
  subst hlen1
  clear hA0 hval0
  refine (walk a0 bs0 cap0 hmx0 a1 bs1 cap1 hmx1 W hrd0 hrd1).mono fun e W' ⟨he, bel⟩ => ?_
  subst he
  exact ⟨_, rfl, _, _, _, [], _, [], hW', trodAll_mk1 (shut_bool Try.underlying4 _), (trodAll_cons_mk (Below.trod laidOut (by kernel_rfl) (of_decide_eq_true (by kernel_rfl)) k0 bel lt0) (trodAll_cons_mk (Below.trod laidOut (by kernel_rfl) (of_decide_eq_true (by kernel_rfl)) k1 bel lt1) trodAll_mk0)), rfl, bel.frame _, fun h => by cases h⟩

theorem over : Rows.fnSetRow.holds Try.pinned (OpenSpec.ofChange Rows.fnSetSpec) :=
  OpenClaim.holds_of_wide 6 Try.f6 rfl rfl rfl rfl rfl rfl rfl ⟨rfl, rfl, rfl, rfl, rfl⟩ rfl rfl rfl rfl rfl (by kernel_rfl) Try.func6 (by kernel_rfl)
    (of_decide_eq_true (by kernel_rfl)) (by unfold Func.isWrapper; first | (rw [if_pos (by decide +kernel)]; kernel_rfl) | (rw [if_neg (by decide +kernel)]; exact ⟨rfl, rfl⟩))
    (fun os started H enc _ => lifted os started H enc)
end Go.Proofs.Ytpknahhdapmcoaa.fnSet
namespace Go.Proofs.Ytpknahhdapmcoaa
/-- For all bytes: what is put is found, dropped it is not; keys rise, others stay. -/
theorem fnSet_holds : Rows.FnSetSaid := fnSet.over
end Go.Proofs.Ytpknahhdapmcoaa
