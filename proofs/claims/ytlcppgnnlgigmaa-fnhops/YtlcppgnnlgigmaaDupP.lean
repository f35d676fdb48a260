/-
  Contracts of DupMark, the program's and the model's.
-/
import Derived.Test.YtlcppgnnlgigmaaDupO
import Derived.Test.YtlcppgnnlgigmaaDupS
import Derived.Test.YtlcppgnnlgigmaaSetY
namespace Go.Proofs.Ytlcppgnnlgigmaa
open Go.ChangeShapes Go.WideShapes Go.ChangeAt Go.RowKit
set_option linter.unusedVariables false
set_option linter.unusedSimpArgs false
set_option maxRecDepth 100000
attribute [local go_sem ↓] Go.wp_at_zero Go.wp_at_succ
namespace Du
open W1 Tu St Mm
theorem put_rise {ms : List R} {x : R} (h : setB ms = true) (hl : thereB ms x.key = true ∨ ms.length < 64) : Rise (putL ms x) := by
  have hr := rise_of h
  have hrt : ∀ n, Rise (ms.take n) := fun n => List.Pairwise.sublist (List.take_sublist _ _) hr
  have hrd : ∀ n, Rise (ms.drop n) := fun n => List.Pairwise.sublist (List.drop_sublist _ _) hr
  unfold putL
  cases ht : thereB ms x.key
  · rw [if_neg (by simp), if_neg (by rcases hl with hl | hl; (rw [ht] at hl; cases hl); omega)]
    exact rise_three (hrt _) (hrd _) (fun m hm => lt_place hm) (fun m hm => gt_place' hr ht hm)
  · rw [if_pos rfl]
    exact rise_three (hrt _) (hrd _) (fun m hm => lt_place hm) (fun m hm => gt_place hr ht hm)
theorem put_length {ms : List R} {x : R} (hl : thereB ms x.key = true ∨ ms.length < 64) : (putL ms x).length = if thereB ms x.key = true then ms.length else ms.length + 1 := by
  have hp := placeP_le (atKey x.key) ms
  unfold putL
  cases ht : thereB ms x.key
  · rw [if_neg (by simp), if_neg (by rcases hl with hl | hl; (rw [ht] at hl; cases hl); omega), if_neg (by simp)]
    simp only [List.length_append, List.length_take, List.length_drop, List.length_cons, List.length_nil]; unfold place at *; omega
  · have hq := (there_at ht).1
    rw [if_pos rfl, if_pos rfl]
    simp only [List.length_append, List.length_take, List.length_drop, List.length_cons, List.length_nil]; unfold place at *; omega
theorem mem_put {L : List R} {x m : R} (h : m ∈ putL L x) : m = x ∨ m ∈ L := by
  unfold putL at h
  split at h
  · rcases List.mem_append.1 h with h | h
    · rcases List.mem_append.1 h with h | h
      · exact .inr (List.mem_of_mem_take h)
      · exact .inl (by simpa using h)
    · exact .inr (List.mem_of_mem_drop h)
  · split at h
    · exact .inr h
    · rcases List.mem_append.1 h with h | h
      · rcases List.mem_append.1 h with h | h
        · exact .inr (List.mem_of_mem_take h)
        · exact .inl (by simpa using h)
      · exact .inr (List.mem_of_mem_drop h)
theorem put_lm {ms : List R} {x : R} (h : setB ms = true) (hl : thereB ms x.key = true ∨ ms.length < 64) (h0 : 0 ≤ x.key) (h1 : x.key ≤ 1000000) : Mm.Lm (putL ms x) := by
  refine ⟨put_rise h hl, fun m hm => ?_⟩
  rcases mem_put hm with rfl | hm
  · exact ⟨h0, h1⟩
  · have := ok_bounds (ok_of h m hm); omega
theorem mark_len (ms : List R) (og sq now : Int) (s : Bool) : (markA ms og sq now s).length ≤ 65 := by
  unfold markA
  split
  · rename_i hc
    have h1 := (codeN_zero hc).1
    have h64 := setB_len (code_set (codeD_zero h1).1)
    exact Nat.le_trans (put_le ms _) (by omega)
  · simp
theorem Bm.but {w w' : World} {b : Nat} {og sq : Int} (h : Bm w b og sq) (hb : w'.heap[b]? = w.heap[b]?) : Bm w' b og sq :=
  ⟨(World.cell?_of_block (a := ⟨b, 0, none⟩) hb).trans h.1, (World.cell?_of_block (a := ⟨b, 1, none⟩) hb).trans h.2⟩
theorem sBm {w : World} {b : Nat} {og sq : Int} (h : Bm w b og sq) : Bm w b og sq ∧ w.cell? ⟨b, 0, none⟩ = some (.int .i64 og) ∧ w.cell? ⟨b, 1, none⟩ = some (.int .i64 sq) := ⟨h, h⟩
set_option maxHeartbeats 1000000 in
theorem l01Bit (s : Bool) (w : World) : Calls Try.prog 128 #[.bool s] w fun e w' => e = .returned (.int .i64 (bitD s)) ∧ w' = w := by
  cases s
  all_goals
    go_enter Try.func128, Try.ntmps128
    go_wp2
    go_ret
    exact ⟨rfl, rfl⟩
set_option maxHeartbeats 2000000 in
theorem l10Mark (g off : Nat) (ms : List R) (cap : Nat) (og sq now : Int) (s : Bool) (w : World) (ha : askB og sq = true) (h0 : 0 ≤ now) (h1 : now ≤ 1000000) (hm : ms.length ≤ 64) (hr : RM w (some ⟨g, off, none⟩) ms) :
    Calls Try.prog 72 #[.slice (some ⟨g, off, none⟩) ms.length cap, .int .i64 og, .int .i64 sq, .int .i64 now, .bool s] w fun e w' => ∃ v, e = .returned (.tuple #[v, .int .i64 (putC ms (newD og sq now s))]) ∧ Below w.heap.size w w' ∧ LstV w' v (putL ms (newD og sq now s)) w.heap.size w'.heap.size := by
  have HR := hide hr
  have HQ := hide ha
  clear hr ha
  unfold newD
  obtain ⟨K, hK⟩ : ∃ K, keyD og sq = K := ⟨_, rfl⟩
  obtain ⟨B, hB⟩ : ∃ B, bitD s = B := ⟨_, rfl⟩
  obtain ⟨T, hT⟩ : ∃ T, now + 30 = T := ⟨_, rfl⟩
  have HT : Hid (putC ms ⟨keyD og sq, now + 30, bitD s⟩ = putC ms ⟨K, T, B⟩ ∧ putL ms ⟨keyD og sq, now + 30, bitD s⟩ = putL ms ⟨K, T, B⟩) := hide (by rw [hK, hB, hT]; exact ⟨rfl, rfl⟩)
  rw [(unhide HT).1, (unhide HT).2]
  have HK := hide hK
  have HBB := hide hB
  have HTT := hide hT
  clear hK hB hT HT
  obtain ⟨C, hC⟩ : ∃ C, putC ms ⟨K, T, B⟩ = C := ⟨_, rfl⟩
  rw [hC]
  have HC := hide hC
  clear hC
  go_enter Try.func72, Try.ntmps72
  go_wp2_with fail
  refine (l10Key og sq _ (unhide HQ)).mono ?_
  rintro e w0 ⟨rfl, rfl⟩
  rw [unhide HK]
  go_wp2_with fail
  refine (l01Bit s _).mono ?_
  rintro e w0 ⟨rfl, rfl⟩
  rw [unhide HBB]
  try rw [unhide HTT]
  go_wp2_with fail
  try rw [unhide HTT]
  refine (l03Put g off ms cap K T B _ hm (unhide HR)).mono ?_
  rintro e w1 ⟨v, rfl, b1, l1⟩
  rw [unhide HC]
  have HB1 := hide b1
  have HL1 := hide l1
  clear b1 l1
  go_wp2_with fail
  go_ret2
  exact ⟨_, rfl, unhide HB1, unhide HL1⟩
set_option maxHeartbeats 2000000 in
theorem specMark (g off : Nat) (ms : List R) (cap : Nat) (og sq now : Int) (s : Bool) (w : World) (hm : ms.length ≤ 1048576) (hr : RM w (some ⟨g, off, none⟩) ms) :
    Calls Try.prog 20 #[.slice (some ⟨g, off, none⟩) ms.length cap, .int .i64 og, .int .i64 sq, .int .i64 now, .bool s] w fun e w' => ∃ v, e = .returned (.tuple #[v, .int .i64 (markE ms og sq now s)]) ∧ Below w.heap.size w w' ∧ LstV w' v (markA ms og sq now s) w.heap.size w'.heap.size := by
  have HR := hide hr
  clear hr
  have bad : ∀ c, codeN ms og sq now = c → c ≠ 0 → markE ms og sq now s = c ∧ markA ms og sq now s = [] := fun c hc h0 => by
    unfold markE markA
    rw [hc, if_neg h0, if_neg h0]
    exact ⟨rfl, rfl⟩
  have HE : Hid (Below w.heap.size w (w.alloc (.cells #[] 57))) := hide ((Below.refl _ _).alloc (Nat.le_refl _) _)
  by_cases hbig : (4096 : Int) < ms.length
  · have hc : codeN ms og sq now = 2 := by unfold codeN codeD; rw [code_long (by omega)]; rfl
    obtain ⟨q1, q2⟩ := bad _ hc (by omega)
    rw [q1, q2]
    clear bad hc q1 q2
    go_enter Try.func20, Try.ntmps20
    go_wp2_with fail
    go_ret2
    exact ⟨_, rfl, unhide HE, lstV_nil _ _ _ _ _⟩
  cases hs : setB ms
  · have hc : codeN ms og sq now = 1 := by unfold codeN codeD; rw [code_bad (by omega) hs]; rfl
    obtain ⟨q1, q2⟩ := bad _ hc (by omega)
    rw [q1, q2]
    have HS := hide hs
    clear bad hc q1 q2 hs
    go_enter Try.func20, Try.ntmps20
    go_wp2_with fail
    refine (St.specOK _ ms cap _ hm (unhide HR)).mono ?_
    rintro e w1 ⟨rfl, b1⟩
    rw [unhide HS]
    have HB := hide (b1.alloc b1.size (.cells #[] 57))
    clear b1
    go_wp2_with fail
    go_ret2
    exact ⟨_, rfl, unhide HB, lstV_nil _ _ _ _ _⟩
  have hc0 := code_zero hs
  have h64 := setB_len hs
  cases ha : askB og sq
  · have hc : codeN ms og sq now = 4 := by unfold codeN codeD; rw [hc0, ha]; rfl
    obtain ⟨q1, q2⟩ := bad _ hc (by omega)
    rw [q1, q2]
    have HS := hide hs
    have HA := hide ha
    clear bad hc q1 q2 hs ha hc0
    go_enter Try.func20, Try.ntmps20
    go_wp2_with fail
    refine (St.specOK _ ms cap _ hm (unhide HR)).mono ?_
    rintro e w1 ⟨rfl, b1⟩
    rw [unhide HS]
    have HB := hide (b1.alloc b1.size (.cells #[] 57))
    clear b1
    go_wp2_with fail
    refine (l10Ask og sq _).mono ?_
    rintro e w2 ⟨rfl, rfl⟩
    rw [unhide HA]
    go_wp2_with fail
    go_ret2
    exact ⟨_, rfl, unhide HB, lstV_nil _ _ _ _ _⟩
  have hcd := codeD_of hc0 ha
  cases hnw : inB now 0 1000000
  · have hc : codeN ms og sq now = 4 := by unfold codeN; rw [hcd, hnw]; rfl
    obtain ⟨q1, q2⟩ := bad _ hc (by omega)
    rw [q1, q2]
    have HS := hide hs
    have HA := hide ha
    have HW := hide hnw
    clear bad hc q1 q2 hs ha hc0 hcd hnw
    go_enter Try.func20, Try.ntmps20
    go_wp2_with fail
    refine (St.specOK _ ms cap _ hm (unhide HR)).mono ?_
    rintro e w1 ⟨rfl, b1⟩
    rw [unhide HS]
    have HB := hide (b1.alloc b1.size (.cells #[] 57))
    clear b1
    go_wp2_with fail
    refine (l10Ask og sq _).mono ?_
    rintro e w2 ⟨rfl, rfl⟩
    rw [unhide HA]
    go_wp2_with fail
    refine (l01In now 0 1000000 _).mono ?_
    rintro e w3 ⟨rfl, rfl⟩
    rw [unhide HW]
    go_wp2_with fail
    go_ret2
    exact ⟨_, rfl, unhide HB, lstV_nil _ _ _ _ _⟩
  · have hc : codeN ms og sq now = 0 := by unfold codeN; rw [hcd, hnw]; rfl
    have q1 : markE ms og sq now s = putC ms (newD og sq now s) := by unfold markE; rw [if_pos hc]
    have q2 : markA ms og sq now s = putL ms (newD og sq now s) := by unfold markA; rw [if_pos hc]
    rw [q1, q2]
    obtain ⟨C, hC⟩ : ∃ C, putC ms (newD og sq now s) = C := ⟨_, rfl⟩
    rw [hC]
    have HC := hide hC
    have hnb : 0 ≤ now ∧ now ≤ 1000000 := by unfold inB at hnw; simpa using hnw
    have HS := hide hs
    have HA := hide ha
    have HW := hide hnw
    clear bad hc q1 q2 hs ha hc0 hcd hnw hC
    go_enter Try.func20, Try.ntmps20
    go_wp2_with fail
    refine (St.specOK _ ms cap _ hm (unhide HR)).mono ?_
    rintro e w1 ⟨rfl, b1⟩
    rw [unhide HS]
    have HB := hide b1
    clear b1
    go_wp2_with fail
    refine (l10Ask og sq _).mono ?_
    rintro e w2 ⟨rfl, rfl⟩
    rw [unhide HA]
    go_wp2_with fail
    refine (l01In now 0 1000000 _).mono ?_
    rintro e w3 ⟨rfl, rfl⟩
    rw [unhide HW]
    go_wp2_with fail
    refine (l10Mark g off ms cap og sq now s _ (unhide HA) hnb.1 hnb.2 h64 ((unhide HR).below (unhide HB))).mono ?_
    rintro e w4 ⟨v, rfl, b4, l4⟩
    rw [unhide HC]
    have HB4 := hide ((unhide HB).trans (b4.mono (unhide HB).size))
    have HL4 := hide (l4.mono (unhide HB).size (Nat.le_refl _))
    clear b4 l4
    go_wp2_with fail
    go_ret2
    exact ⟨_, rfl, unhide HB4, unhide HL4⟩
theorem isNow (n : Int) (w : World) : Calls Try.prog 65 #[.int .i64 n] w fun e w' => e = .returned (.bool (inB n 0 1000000)) ∧ w' = w := by
  go_enter Try.func65, Try.ntmps65
  go_wp2_with (go_at_call 62; refine (within _ _ _ _).mono ?_; rintro e w' ⟨rfl, rfl⟩)
  go_ret
  exact ⟨rfl, rfl⟩
set_option maxHeartbeats 4000000 in
theorem implMark (g off : Nat) (ms : List R) (cap : Nat) (og sq now : Int) (s : Bool) (w : World) (hm : ms.length ≤ 1048576) (hr : RM w (some ⟨g, off, none⟩) ms) :
    Calls Try.prog 19 #[.slice (some ⟨g, off, none⟩) ms.length cap, .int .i64 og, .int .i64 sq, .int .i64 now, .bool s] w fun e w' => ∃ v, e = .returned (.tuple #[v, .int .i64 (markE ms og sq now s)]) ∧ Below w.heap.size w w' ∧ LstV w' v (markA ms og sq now s) w.heap.size w'.heap.size := by
  have HR := hide hr
  clear hr
  have bad : ∀ c, codeN ms og sq now = c → c ≠ 0 → markE ms og sq now s = c ∧ markA ms og sq now s = [] := fun c hc h0 => by
    unfold markE markA
    rw [hc, if_neg h0, if_neg h0]
    exact ⟨rfl, rfl⟩
  have HB : Hid (Below w.heap.size w (w.alloc (.cells #[.int .i64 og, .int .i64 sq] 110))) := hide ((Below.refl _ _).alloc (Nat.le_refl _) _)
  have HV : Hid (Bm (w.alloc (.cells #[.int .i64 og, .int .i64 sq] 110)) w.heap.size og sq) := hide (bm_new _ _ _ _)
  obtain ⟨c, hc⟩ : ∃ c, codeD ms og sq = c := ⟨_, rfl⟩
  by_cases h0 : c = 0
  rotate_left
  · have hcn : codeN ms og sq now = c := by unfold codeN; rw [hc, if_neg h0]
    obtain ⟨q1, q2⟩ := bad _ hcn h0
    rw [q1, q2]
    have hne : (c != 0) = true := by simpa using h0
    have hnq : (c == 0) = false := by simpa using h0
    have HC := hide hc
    clear hc h0 bad hcn q1 q2
    go_enter Try.func19, Try.ntmps19
    go_wp2_with fail
    refine (markCode _ ms cap og sq _ hm ((unhide HR).below (unhide HB))).mono ?_
    rintro e w1 ⟨rfl, b1⟩
    rw [unhide HC]
    have HB1 := hide ((unhide HB).trans (b1.mono (unhide HB).size))
    clear b1
    go_wp2_with fail
    go_ret2
    exact ⟨_, rfl, unhide HB1, lstV_nil _ _ _ _ _⟩
  subst h0
  cases hnw : inB now 0 1000000
  · have hcn : codeN ms og sq now = 4 := by unfold codeN; rw [hc, hnw]; rfl
    obtain ⟨q1, q2⟩ := bad _ hcn (by omega)
    rw [q1, q2]
    have HC := hide hc
    have HW := hide hnw
    clear hc bad hcn q1 q2 hnw
    go_enter Try.func19, Try.ntmps19
    go_wp2_with fail
    refine (markCode _ ms cap og sq _ hm ((unhide HR).below (unhide HB))).mono ?_
    rintro e w1 ⟨rfl, b1⟩
    rw [unhide HC]
    have HB1 := hide ((unhide HB).trans (b1.mono (unhide HB).size))
    clear b1
    go_wp2_with fail
    refine (isNow now _).mono ?_
    rintro e w2 ⟨rfl, rfl⟩
    rw [unhide HW]
    go_wp2_with fail
    go_ret2
    exact ⟨_, rfl, unhide HB1, lstV_nil _ _ _ _ _⟩
  have hcn : codeN ms og sq now = 0 := by unfold codeN; rw [hc, hnw]; rfl
  have q1 : markE ms og sq now s = putC ms (newD og sq now s) := by unfold markE; rw [if_pos hcn]
  have q2 : markA ms og sq now s = putL ms (newD og sq now s) := by unfold markA; rw [if_pos hcn]
  rw [q1, q2]
  obtain ⟨hc0, hask⟩ := codeD_zero hc
  have hab := ask_bounds hask
  have hs := code_set hc0
  have h64 := setB_len hs
  have hnb : 0 ≤ now ∧ now ≤ 1000000 := by unfold inB at hnw; simpa using hnw
  have hx : newD og sq now s = ⟨keyD og sq, now + 30, bitD s⟩ := rfl
  have hxk : (newD og sq now s).key = keyD og sq := rfl
  have hh := hv_new (now := now) (s := s) hask
  have HTF := hide (there_find hs (newD og sq now s))
  rw [hh.1, hh.2, hxk] at HTF
  have HFP := hide (fun hl => find_put hs (newD og sq now s) hl)
  rw [hh.1, hh.2, hxk] at HFP
  have HPL := hide (fun hl => put_length (ms := ms) (x := newD og sq now s) hl)
  rw [hxk] at HPL
  have HLM := hide (fun hl => put_lm (x := newD og sq now s) hs hl (by rw [hxk]; unfold keyD; omega) (by rw [hxk]; unfold keyD; omega))
  rw [hxk] at HLM
  have HPC : Hid (putC ms (newD og sq now s) = if thereB ms (keyD og sq) = true then 0 else if ms.length = 64 then 7 else 0) := hide rfl
  have HPF : Hid (thereB ms (keyD og sq) = false → ms.length = 64 → putL ms (newD og sq now s) = ms) := hide (fun h1 h2 => by unfold putL; rw [hxk, h1, if_neg (by simp), if_pos h2])
  have hkb : 0 ≤ keyD og sq ∧ keyD og sq ≤ 1000000 := by unfold keyD; omega
  obtain ⟨KK, hKK⟩ : ∃ KK, keyD og sq = KK := ⟨_, rfl⟩
  obtain ⟨B, hB⟩ : ∃ B, bitD s = B := ⟨_, rfl⟩
  obtain ⟨T, hT⟩ : ∃ T, now + 30 = T := ⟨_, rfl⟩
  rw [hKK, hB, hT] at hx
  rw [hKK] at HTF HFP HPL HLM HPC HPF hkb
  rw [hx] at HFP HPL HLM HPC HPF ⊢
  have HK := hide hKK
  have HBB := hide hB
  have HTT := hide hT
  have HS := hide hs
  have HC := hide hc
  have HW := hide hnw
  obtain ⟨n1, hn1⟩ : ∃ n1 : Nat, (if thereB ms KK = true then ms.length else ms.length + 1) = n1 := ⟨_, rfl⟩
  have HN1 : Hid ((if (findT ms og sq).isSome = true then ms.length else ms.length + 1) = n1) := hide (by rw [unhide HTF]; exact hn1)
  have hn65 : n1 ≤ 65 := by rw [← hn1]; split <;> omega
  have hn0 : ms.length ≤ n1 := by rw [← hn1]; split <;> omega
  clear hc hnw bad hcn q1 q2 hc0 hask hs hx hxk hh hKK hB hT
  obtain ⟨Cd, hCd⟩ : ∃ Cd, putC ms ⟨KK, T, B⟩ = Cd := ⟨_, rfl⟩
  rw [hCd]
  rw [hCd] at HPC
  clear hCd
  obtain ⟨A, hA⟩ : ∃ A, putL ms ⟨KK, T, B⟩ = A := ⟨_, rfl⟩
  rw [hA]
  rw [hA] at HFP HPL HLM HPF
  clear hA
  have hsplit : (64 < n1 ∧ Cd = 7 ∧ A = ms) ∨ (n1 ≤ 64 ∧ Cd = 0 ∧ A.length = n1 ∧ Mm.Lm A ∧ updT (findT ms) og sq ⟨KK, T, B⟩ = findT A) := by
    have e2 := unhide HPC
    cases ht : thereB ms KK
    · rw [ht, if_neg (by simp)] at e2
      rw [ht, if_neg (by simp)] at hn1
      by_cases h : ms.length = 64
      · exact .inl ⟨by omega, by rw [e2, if_pos h], unhide HPF ht h⟩
      · have hl : thereB ms KK = true ∨ ms.length < 64 := .inr (by omega)
        have e3 := unhide HPL hl
        rw [ht, if_neg (by simp)] at e3
        exact .inr ⟨by omega, by rw [e2, if_neg h], by omega, unhide HLM hl, (unhide HFP hl).symm⟩
    · rw [ht, if_pos rfl] at e2
      rw [ht, if_pos rfl] at hn1
      have hl : thereB ms KK = true ∨ ms.length < 64 := .inl ht
      have e3 := unhide HPL hl
      rw [ht, if_pos rfl] at e3
      exact .inr ⟨by omega, e2, by omega, unhide HLM hl, (unhide HFP hl).symm⟩
  have HSP := hide hsplit
  have HWR : Hid (IntKind.i64.wrap (now + 30) = now + 30) := hide (by rw [IntWalk.i64_left]; unfold wrap64; omega)
  clear hsplit HPC HPL HLM HFP HPF HTF hn1
  go_enter Try.func19, Try.ntmps19
  go_wp2_with fail
  refine (markCode _ ms cap og sq _ hm ((unhide HR).below (unhide HB))).mono ?_
  rintro e w1 ⟨rfl, b1⟩
  rw [unhide HC]
  have HB1 := hide ((unhide HB).trans (b1.mono (unhide HB).size))
  have HV1 := hide ((unhide HV).below b1)
  clear b1 HB HV
  go_wp2_with fail
  refine (isNow now _).mono ?_
  rintro e w2 ⟨rfl, rfl⟩
  rw [unhide HW]
  go_wp2_with fail
  refine (tuplesByMark _ ms cap _ (unhide HS) ((unhide HR).below (unhide HB1))).mono ?_
  rintro e w3 ⟨bm, rfl, hlo, om3, b3⟩
  have HB3 := hide ((unhide HB1).trans (b3.mono (unhide HB1).size))
  have HV3 := hide ((unhide HV1).below b3)
  have hblo := (unhide HV1).lt
  have HO3 := hide om3
  clear b3 om3 HV1
  go_wp2_with fail
  refine wp_region_noPanic ?_
  refine wp_region_held_drew (S := fun w' => Bm w' w.heap.size og sq ∧ w'.cell? ⟨w.heap.size, 0, none⟩ = some (.int .i64 og) ∧ w'.cell? ⟨w.heap.size, 1, none⟩ = some (.int .i64 sq)) (by kernel_rfl) (sBm (unhide HV3).drew) (fun hHeld => ?_)
  (refine Rg.tk (i := 0) (d := 33) (v := ?_) rfl rfl (by kernel_rfl) (by kernel_rfl) (by kernel_rfl) (fun _ _ _ h => h) (by rfl) ?_ (by assumption) ?_; rotate_left; (focus (intro w0 hSw; (try dsimp only at hSw); go_simp; (try with_reducible rfl))); (try simp only [Act.put, List.setIfInBounds_toArray, List.set_cons_zero, List.set_cons_succ]))
  (refine Rg.tk (i := 1) (d := 34) (v := ?_) rfl rfl (by kernel_rfl) (by kernel_rfl) (by kernel_rfl) (fun _ _ _ h => h) (by rfl) ?_ (by assumption) ?_; rotate_left; (focus (intro w0 hSw; (try dsimp only at hSw); go_simp; (try with_reducible rfl))); (try simp only [Act.put, List.setIfInBounds_toArray, List.set_cons_zero, List.set_cons_succ]))
  (refine Rg.tk (i := 2) (d := 35) (v := ?_) rfl rfl (by kernel_rfl) (by kernel_rfl) (by kernel_rfl) (fun _ _ _ h => h) (by rfl) ?_ (by assumption) ?_; rotate_left; (focus (intro w0 hSw; (try dsimp only at hSw); go_simp; (try with_reducible rfl))); (try simp only [Act.put, List.setIfInBounds_toArray, List.set_cons_zero, List.set_cons_succ]))
  (refine Rg.tk (i := 4) (d := 37) (v := ?_) rfl rfl (by kernel_rfl) (by kernel_rfl) (by kernel_rfl) (fun _ _ _ h => h) (by rfl) ?_ (by assumption) ?_; rotate_left; (focus (intro w0 hSw; (try dsimp only at hSw); go_simp; (try with_reducible rfl))); (try simp only [Act.put, List.setIfInBounds_toArray, List.set_cons_zero, List.set_cons_succ]))
  (refine Rg.tk (i := 5) (d := 38) (v := ?_) rfl rfl (by kernel_rfl) (by kernel_rfl) (by kernel_rfl) (fun _ _ _ h => h) (by rfl) ?_ (by assumption) ?_; rotate_left; (focus (intro w0 hSw; (try dsimp only at hSw); go_simp; (try with_reducible rfl))); (try simp only [Act.put, List.setIfInBounds_toArray, List.set_cons_zero, List.set_cons_succ]))
  (refine Rg.tk (i := 6) (d := 39) (v := ?_) rfl rfl (by kernel_rfl) (by kernel_rfl) (by kernel_rfl) (fun _ _ _ h => h) (by rfl) ?_ (by assumption) ?_; rotate_left; (focus (intro w0 hSw; (try dsimp only at hSw); go_simp; (try with_reducible rfl))); (try simp only [Act.put, List.setIfInBounds_toArray, List.set_cons_zero, List.set_cons_succ]))
  (refine wpAnyH_ready (rs := [3]) (by kernel_rfl) (by simp) ?_; refine AllReadyH.cons (o := _) rfl (fun K hK => ?_) AllReadyH.nil; go_simp)
  refine (keyOfMark og sq _ (by omega) (by omega) (by omega) (by omega)).mono ?_
  rintro e w4 ⟨rfl, b4_⟩
  rw [unhide HK]
  have b4 : Below w3.heap.size w3 w4 := (Below.refl _ _).drew.trans b4_
  have HB4 := hide ((unhide HB3).trans (b4.mono (unhide HB3).size))
  have HV4 := hide ((unhide HV3).below b4)
  have HO4 := hide ((unhide HO3).below b4)
  clear b4 b4_ hHeld
  refine hK.out _ _ (sBm (unhide HV4)) (fun hHeld => ?_)
  clear hK K
  (try simp only [Act.put, List.setIfInBounds_toArray, List.set_cons_zero, List.set_cons_succ])
  (refine wpAnyH_ready (rs := [7]) (by kernel_rfl) (by simp) ?_; refine AllReadyH.cons (o := _) rfl (fun K hK => ?_) AllReadyH.nil; go_simp)
  refine (markValue s _).mono ?_
  rintro e w5 ⟨rfl, hw5⟩
  subst hw5
  rw [unhide HBB]
  clear hHeld
  refine hK.out _ _ (sBm (unhide HV4)) (fun hHeld => ?_)
  clear hK K
  (try simp only [Act.put, List.setIfInBounds_toArray, List.set_cons_zero, List.set_cons_succ])
  (refine Rg.tk (i := 8) (d := 41) (v := ?_) rfl rfl (by kernel_rfl) (by kernel_rfl) (by kernel_rfl) (fun _ _ _ h => h) (by rfl) ?_ (by assumption) ?_; rotate_left; (focus (intro w0 hSw; (try dsimp only at hSw); go_simp; (try with_reducible rfl))); (try simp only [Act.put, List.setIfInBounds_toArray, List.set_cons_zero, List.set_cons_succ]))
  (refine wpAnyH_ready (rs := [9]) (by kernel_rfl) (by simp) ?_; refine AllReadyH.cons (o := _) rfl (fun K hK => ?_) AllReadyH.nil; rw [if_pos (by rfl)])
  refine wp_put _ _ _ _ rfl rfl bm ms.length _ rfl (unhide HO4) (by unfold maxLen; omega) og sq (wfI (by omega) (by omega)) (wfI (by omega) (by omega)) ⟨KK, T, B⟩ rfl (by rw [← unhide HTT]; show Value.agg #[.int .i64 KK, .int .i64 (IntKind.i64.wrap (now + 30)), .int .i64 B] = _; rw [unhide HWR]; rfl) ?_
  intro w6 om6 g6
  rw [unhide HN1] at om6
  have HO6 := hide om6
  have HB6 := hide (om_grown (unhide HB4) (Nat.le_refl _) (Nat.le_trans (unhide HB1).size hlo) g6)
  have HV6 := hide ((unhide HV4).but (g6.block w.heap.size (unhide HV4).lt (by intro e; cases e; omega)))
  clear om6 g6 hHeld
  refine hK.out _ _ (sBm (unhide HV6)) (fun hHeld => ?_)
  clear hK K hHeld
  (try simp only [Act.put, List.setIfInBounds_toArray, List.set_cons_zero, List.set_cons_succ])
  refine wpAnyH_done (by kernel_rfl) (NoPanic.normal ?_) _
  have hlen := (unhide HO6).len
  rcases unhide HSP with ⟨hgt, rfl, rfl⟩ | ⟨hle, rfl, hAl, hAL, hup⟩
  · have hgt' : (64 : Int) < (n1 : Int) := by omega
    go_wp2_with fail
    refine (copied g off A cap _ _ rfl (by omega) ((unhide HR).below (unhide HB6))).mono ?_
    rintro e w7 ⟨v, rfl, b7, l7⟩
    have HB7 := hide ((unhide HB6).trans (b7.mono (unhide HB6).size))
    have HL7 := hide (l7.mono (unhide HB6).size (Nat.le_refl _))
    clear b7 l7
    go_wp2_with fail
    go_ret2
    exact ⟨_, rfl, unhide HB7, unhide HL7⟩
  · have hgt' : ¬ (64 : Int) < (n1 : Int) := by omega
    rw [hup] at HO6
    have HAL := hide hAL
    have HAl := hide hAl
    have h01 : 0 < n1 := by
      rcases Nat.eq_zero_or_pos n1 with h | h
      · exfalso
        have h2 := (unhide HN1).symm
        rw [h] at h2
        split at h2
        · rename_i hsome
          rw [show ms = [] from List.eq_nil_of_length_eq_zero h2.symm] at hsome
          cases hsome
        · omega
      · exact h
    clear hAL hAl hup
    go_wp2_with fail
    refine (marksInOrder bm n1 A _ (unhide HAL) (unhide HAl) h01 (by omega) (unhide HO6)).mono ?_
    rintro e w7 ⟨v, rfl, b7, l7⟩
    have HB7 := hide ((unhide HB6).trans (b7.mono (unhide HB6).size))
    have HL7 := hide (l7.mono (unhide HB6).size (Nat.le_refl _))
    clear b7 l7
    go_wp2_with fail
    go_ret2
    exact ⟨_, rfl, unhide HB7, unhide HL7⟩
end Du
end Go.Proofs.Ytlcppgnnlgigmaa
