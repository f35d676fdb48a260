/-
  Of the texts SpB0, SpcB, SpcC, NetS, NetZ, NetO, NetE, ExTrueDistanceW: what this claim needs of them. (put together by mkprune.py)
-/
import Derived.Test.YtfooahhdikobeaaGreatQt8
import Derived.Deep.Cut
import Derived.BigRegion
import Derived.Deep.MidRow
import Derived.Deep.DeepHandedRow
namespace Go.Proofs.YtfooahhdikobeaaGreat
open Go.ChangeShapes Go.WideShapes Go.ChangeAt Go.RowKit
set_option linter.unusedVariables false
set_option linter.unusedSimpArgs false
set_option maxRecDepth 100000
attribute [local go_sem ↓] Go.wp_at_zero Go.wp_at_succ
namespace Wd
open W1 Ro Rw Tw
/-- Nine routes, nine marks lie there, and all below B is as it was. -/
def Nin (w : World) (B D : Nat) (bs : List R) (ds : List Bool) : Prop := BV w B bs ∧ DV w D ds
theorem Nin.below {w w' : World} {B D : Nat} {bs : List R} {ds : List Bool} (h : Nin w B D bs ds) (hb : Below w.heap.size w w') : Nin w' B D bs ds := ⟨h.1.below hb, h.2.below hb⟩
theorem Nin.drew {w : World} {B D : Nat} {bs : List R} {ds : List Bool} (h : Nin w B D bs ds) : Nin w.drew B D bs ds := h
theorem infoT : Tryz.prog.underlying 87 = some (Tryz.prog.underlying 87).get! ∧ ((Tryz.prog.underlying 87).get!).isRow = true ∧ (Tryz.prog.info? 87).map (·.size) = some 4 := ⟨by kernel_rfl, by kernel_rfl, by kernel_rfl⟩
/-- A route is read whole, written whole. -/
theorem wpList_loadR {ops : Array Oper} {rest : List Oper} {op : Oper} {a : Act} {w : World} {Q : Exit → Act → World → Prop} (x : Operand) (hgd : op.guard = none) (ho : op.op = .load 87 x) {b : Nat} {m : R} (hx : a.eval x = .pointer (some ⟨b, 0, none⟩)) (h : Bx w b m)
    (hk : wpList Tryz.prog ops Q rest (a.put op.dst (.agg #[.int .i64 m.ds, .int .i64 m.nx, .int .i64 m.co, .int .i64 m.hp])) w) : wpList Tryz.prog ops Q (op :: rest) a w := by
  refine wpList_load_mid hgd 87 x ho b 0 hx m.cells _ (fun j v hv => ?_) infoT.1 infoT.2.1 (by rw [infoT.2.2]; rfl) hk
  rw [Nat.zero_add]
  obtain ⟨h0, h1, h2, h3⟩ := h
  unfold R.cells at hv
  match j, hv with
  | 0, hv => simp at hv; rw [← hv]; exact h0
  | 1, hv => simp at hv; rw [← hv]; exact h1
  | 2, hv => simp at hv; rw [← hv]; exact h2
  | 3, hv => simp at hv; rw [← hv]; exact h3
  | n + 4, hv => simp at hv
theorem wpList_storeR {ops : Array Oper} {rest : List Oper} {op : Oper} {a : Act} {w : World} {Q : Exit → Act → World → Prop} (x y : Operand) (hgd : op.guard = none) (ho : op.op = .store 87 x y) {b t : Nat} {m : R} {bs : List R} (hx : a.eval x = .pointer (some ⟨b, t * 4, none⟩)) (hy : a.eval y = .agg #[.int .i64 m.ds, .int .i64 m.nx, .int .i64 m.co, .int .i64 m.hp]) (h : BV w b bs) (ht : t < bs.length)
    (hk : wpList Tryz.prog ops Q rest (a.put op.dst undef) (put w b (t * 4) m)) : wpList Tryz.prog ops Q (op :: rest) a w := by
  refine wpList_store_mid hgd 87 x y ho b (t * 4) #[.int .i64 m.ds, .int .i64 m.nx, .int .i64 m.co, .int .i64 m.hp] hx hy (fun j hj => ⟨?_, h.free _⟩) (by rw [infoT.2.2]; rfl) (by kernel_rfl) hk
  have hj4 : j < 4 := hj
  rw [h.cell, flat_get bs t j hj4 ht]
  unfold R.cells
  match j, hj4 with
  | 0, _ | 1, _ | 2, _ | 3, _ => rfl
theorem nin_new (w : World) : Nin ((w.alloc (.cells (flat (bs9 0)).toArray 87)).alloc (.cells (fs9.map Value.bool).toArray 4)) w.heap.size (w.heap.size + 1) (bs9 0) fs9 := by
  have a1 : BV (w.alloc (.cells (flat (bs9 0)).toArray 87)) w.heap.size (bs9 0) := heap_alloc_new w _
  refine ⟨a1.below ((Below.refl _ _).alloc (Nat.le_refl _) _), ?_⟩
  have := heap_alloc_new (w.alloc (.cells (flat (bs9 0)).toArray 87)) (.cells (fs9.map Value.bool).toArray 4); rw [World.size_alloc] at this; exact this
def sP (w : World) (B D j k : Nat) (dj : Bool) (x y : R) : Prop := w.cell? ⟨D, j, none⟩ = some (.bool dj) ∧ At w B (j * 4) x ∧ At w B (k * 4) y
theorem sP_of {w : World} {B D j k : Nat} {bs : List R} {ds : List Bool} (h : Nin w B D bs ds) (hb : bs.length = 9) (hd : ds.length = 9) (hj : j < 9) (hk : k < 9) : sP w B D j k (dn ds j) (at' bs j) (at' bs k) := ⟨h.2.at (by omega), h.1.at (by omega), h.1.at (by omega)⟩
theorem sP.below {w w' : World} {B D j k : Nat} {dj : Bool} {x y : R} (h : sP w B D j k dj x y) (hb : Below w.heap.size w w') : sP w' B D j k dj x y :=
  ⟨(hb.cell (p := ⟨D, j, none⟩) (World.block_lt_of_cell? _ _ h.1)).trans h.1, h.2.1.below hb, h.2.2.below hb⟩
theorem sPc {w : World} {B D j k : Nat} {dj : Bool} {xa xn xc xh ya yn yc yh : Int} (h : sP w B D j k dj ⟨xa, xn, xc, xh⟩ ⟨ya, yn, yc, yh⟩) : sP w B D j k dj ⟨xa, xn, xc, xh⟩ ⟨ya, yn, yc, yh⟩ ∧ w.cell? ⟨D, j, none⟩ = some (.bool dj) ∧ w.cell? ⟨B, j * 4, none⟩ = some (.int .i64 xa) ∧ w.cell? ⟨B, j * 4 + 1, none⟩ = some (.int .i64 xn) ∧ w.cell? ⟨B, j * 4 + 2, none⟩ = some (.int .i64 xc) ∧ w.cell? ⟨B, j * 4 + 3, none⟩ = some (.int .i64 xh) ∧ w.cell? ⟨B, k * 4, none⟩ = some (.int .i64 ya) ∧ w.cell? ⟨B, k * 4 + 1, none⟩ = some (.int .i64 yn) ∧ w.cell? ⟨B, k * 4 + 2, none⟩ = some (.int .i64 yc) ∧ w.cell? ⟨B, k * 4 + 3, none⟩ = some (.int .i64 yh) :=
  ⟨h, h.1, h.2.1.1, h.2.1.2.1, h.2.1.2.2.1, h.2.1.2.2.2, h.2.2.1, h.2.2.2.1, h.2.2.2.2.1, h.2.2.2.2.2⟩
def sQ (w : World) (B D j X : Nat) (dj : Bool) (x y : R) : Prop := w.cell? ⟨D, j, none⟩ = some (.bool dj) ∧ At w B (j * 4) y ∧ Bx w X x
theorem sQ_of {w : World} {B D j X : Nat} {bs : List R} {ds : List Bool} {x : R} (h : Nin w B D bs ds) (hb : bs.length = 9) (hd : ds.length = 9) (hj : j < 9) (hx : Bx w X x) : sQ w B D j X (dn ds j) x (at' bs j) := ⟨h.2.at (by omega), h.1.at (by omega), hx⟩
theorem sQ.below {w w' : World} {B D j X : Nat} {dj : Bool} {x y : R} (h : sQ w B D j X dj x y) (hb : Below w.heap.size w w') : sQ w' B D j X dj x y :=
  ⟨(hb.cell (p := ⟨D, j, none⟩) (World.block_lt_of_cell? _ _ h.1)).trans h.1, h.2.1.below hb, h.2.2.below hb⟩
theorem sQc {w : World} {B D j X : Nat} {dj : Bool} {xa xn xc xh ya yn yc yh : Int} (h : sQ w B D j X dj ⟨xa, xn, xc, xh⟩ ⟨ya, yn, yc, yh⟩) : sQ w B D j X dj ⟨xa, xn, xc, xh⟩ ⟨ya, yn, yc, yh⟩ ∧ w.cell? ⟨D, j, none⟩ = some (.bool dj) ∧ w.cell? ⟨B, j * 4, none⟩ = some (.int .i64 ya) ∧ w.cell? ⟨B, j * 4 + 1, none⟩ = some (.int .i64 yn) ∧ w.cell? ⟨B, j * 4 + 2, none⟩ = some (.int .i64 yc) ∧ w.cell? ⟨B, j * 4 + 3, none⟩ = some (.int .i64 yh) ∧ w.cell? ⟨X, 0, none⟩ = some (.int .i64 xa) ∧ w.cell? ⟨X, 1, none⟩ = some (.int .i64 xn) ∧ w.cell? ⟨X, 2, none⟩ = some (.int .i64 xc) ∧ w.cell? ⟨X, 3, none⟩ = some (.int .i64 xh) :=
  ⟨h, h.1, h.2.1.1, h.2.1.2.1, h.2.1.2.2.1, h.2.1.2.2.2, h.2.2.1, h.2.2.2.1, h.2.2.2.2.1, h.2.2.2.2.2⟩
/-- A region of a function's text, by its number. -/
def regOf (n : Nat) : Code → Option Code
  | .region i ops d => match Nat.beq i n with
    | true => some (.region i ops d)
    | false => none
  | .loop c => regOf n c
  | .seq a b => match regOf n a with
    | some c => some c
    | none => regOf n b
  | .block _ c => regOf n c
  | .scope c => regOf n c
  | .cond _ a b => match regOf n a with
    | some c => some c
    | none => regOf n b
  | _ => none
noncomputable def reg (n : Nat) : Code := ((Tryz.f64.body.bind (regOf n)).getD .skip)
set_option maxHeartbeats 8000000 in
theorem r12a (KK : Act → World → Prop) (Q' : Exit → Act → World → Prop) (p0 p1 p2 p3 p4 p7 p10 p11 p12 p13 p14 p15 p16 p17 p18 p19 p20 p21 p22 p23 p24 p25 p26 p27 p28 p29 p30 p31 p32 p33 p34 p35 p36 p37 p38 p39 p40 p41 p42 p43 p44 p45 p46 p47 p48 p49 p50 p51 p52 p53 p54 p55 p56 p57 p58 p59 p60 p61 p62 p63 p64 p65 p66 p67 p68 p69 p70 p71 p72 p73 p74 p75 p76 p77 p78 p79 p80 p81 p82 p83 p84 p85 p86 p87 p88 p89 p90 p91 p92 p93 p94 p95 p96 p97 p98 p99 p100 p101 p102 p103 p104 p105 p106 p107 p108 p109 p110 p111 p112 p113 p114 p115 p116 p117 p118 p119 p120 p121 p122 p123 p124 p125 p126 p127 p128 p129 p130 p131 p132 p133 p134 p135 p136 p137 p138 p139 p140 : Value) (B D j k : Nat) (xa xn xc xh ya yn yc yh : Int) (w : World)
    (HSP : Hid (sP w B D j k true ⟨xa, xn, xc, xh⟩ ⟨ya, yn, yc, yh⟩)) (j0 : (0 : Int) ≤ (j : Int)) (j9 : (j : Int) < 9) (k0 : (0 : Int) ≤ (k : Int)) (k9 : (k : Int) < 9)
    (hKK : ∀ (r32 r33 r34 r35 r36 r37 r38 r39 r40 r41 r42 r43 r44 r45 r46 r47 r48 r49 r50 r51 r52 r53 r54 r55 r56 r57 r58 : Value) (wz : World), wz = w.drew → KK ⟨#[p0, p1, p2, p3, p4, .slice (some ⟨B, 0, none⟩) 9 9, .slice (some ⟨D, 0, none⟩) 9 9, p7, .int .i64 (k : Int), .int .i64 (j : Int), p10, p11, p12, p13, p14, p15, p16, p17, p18, p19, p20, p21, p22, p23, p24, p25, p26, p27, p28, p29, p30, p31, r32, r33, r34, r35, r36, r37, r38, r39, r40, r41, r42, r43, r44, r45, r46, r47, r48, r49, r50, r51, r52, r53, r54, r55, r56, r57, r58, .bool false, p60, p61, p62, p63, p64, p65, p66, p67, p68, p69, p70, p71, p72, p73, p74, p75, p76, p77, p78, p79, p80, p81, p82, p83, p84, p85, p86, p87, p88, p89, p90, p91, p92, p93, p94, p95, p96, p97, p98, p99, p100, p101, p102, p103, p104, p105, p106, p107, p108, p109, p110, p111, p112, p113, p114, p115, p116, p117, p118, p119, p120, p121, p122, p123, p124, p125, p126, p127, p128, p129, p130, p131, p132, p133, p134, p135, p136, p137, p138, p139, p140], []⟩ wz) :
    Code.wp Tryz.prog (reg 12) (Exit.then KK Q') ⟨#[p0, p1, p2, p3, p4, .slice (some ⟨B, 0, none⟩) 9 9, .slice (some ⟨D, 0, none⟩) 9 9, p7, .int .i64 (k : Int), .int .i64 (j : Int), p10, p11, p12, p13, p14, p15, p16, p17, p18, p19, p20, p21, p22, p23, p24, p25, p26, p27, p28, p29, p30, p31, p32, p33, p34, p35, p36, p37, p38, p39, p40, p41, p42, p43, p44, p45, p46, p47, p48, p49, p50, p51, p52, p53, p54, p55, p56, p57, p58, p59, p60, p61, p62, p63, p64, p65, p66, p67, p68, p69, p70, p71, p72, p73, p74, p75, p76, p77, p78, p79, p80, p81, p82, p83, p84, p85, p86, p87, p88, p89, p90, p91, p92, p93, p94, p95, p96, p97, p98, p99, p100, p101, p102, p103, p104, p105, p106, p107, p108, p109, p110, p111, p112, p113, p114, p115, p116, p117, p118, p119, p120, p121, p122, p123, p124, p125, p126, p127, p128, p129, p130, p131, p132, p133, p134, p135, p136, p137, p138, p139, p140], []⟩ w := by
  conv => arg 2; whnf
  refine wp_region_noPanic ?_
  refine wp_region_held_drew (S := fun w' => sP w' B D j k true ⟨xa, xn, xc, xh⟩ ⟨ya, yn, yc, yh⟩ ∧ w'.cell? ⟨D, j, none⟩ = some (.bool true) ∧ w'.cell? ⟨B, j * 4, none⟩ = some (.int .i64 xa) ∧ w'.cell? ⟨B, j * 4 + 1, none⟩ = some (.int .i64 xn) ∧ w'.cell? ⟨B, j * 4 + 2, none⟩ = some (.int .i64 xc) ∧ w'.cell? ⟨B, j * 4 + 3, none⟩ = some (.int .i64 xh) ∧ w'.cell? ⟨B, k * 4, none⟩ = some (.int .i64 ya) ∧ w'.cell? ⟨B, k * 4 + 1, none⟩ = some (.int .i64 yn) ∧ w'.cell? ⟨B, k * 4 + 2, none⟩ = some (.int .i64 yc) ∧ w'.cell? ⟨B, k * 4 + 3, none⟩ = some (.int .i64 yh)) (by kernel_rfl) (sPc (unhide HSP)) (fun hHeld => ?_)
  refine Rg.t 0 32 ?_
  refine Rg.t 1 33 ?_
  refine Rg.t 2 34 ?_
  refine Rg.t 3 35 ?_
  refine Rg.t 4 36 ?_
  refine Rg.t 5 37 ?_
  refine Rg.s 6 38 ?_
  refine Rg.s 7 39 ?_
  refine Rg.s 8 40 ?_
  refine Rg.s 9 41 ?_
  refine Rg.s 10 42 ?_
  refine Rg.s 11 43 ?_
  refine Rg.t 12 44 ?_
  refine Rg.t 13 45 ?_
  refine Rg.s 14 46 ?_
  refine Rg.s 15 47 ?_
  refine Rg.s 16 48 ?_
  refine Rg.s 17 49 ?_
  refine Rg.s 18 50 ?_
  refine Rg.s 19 51 ?_
  refine Rg.s 20 52 ?_
  refine Rg.s 21 53 ?_
  refine Rg.s 22 54 ?_
  refine Rg.s 23 55 ?_
  refine Rg.s 24 56 ?_
  refine Rg.s 25 57 ?_
  refine Rg.s 26 58 ?_
  refine Rg.t 27 59 ?_
  refine wpAnyH_done (by kernel_rfl) (NoPanic.normal ?_) _
  clear hHeld
  exact hKK _ _ _ _ _ _ _ _ _ _ _ _ _ _ _ _ _ _ _ _ _ _ _ _ _ _ _ _ rfl
set_option maxHeartbeats 8000000 in
theorem r12b (KK : Act → World → Prop) (Q' : Exit → Act → World → Prop) (p0 p1 p2 p3 p4 p7 p10 p11 p12 p13 p14 p15 p16 p17 p18 p19 p20 p21 p22 p23 p24 p25 p26 p27 p28 p29 p30 p31 p32 p33 p34 p35 p36 p37 p38 p39 p40 p41 p42 p43 p44 p45 p46 p47 p48 p49 p50 p51 p52 p53 p54 p55 p56 p57 p58 p59 p60 p61 p62 p63 p64 p65 p66 p67 p68 p69 p70 p71 p72 p73 p74 p75 p76 p77 p78 p79 p80 p81 p82 p83 p84 p85 p86 p87 p88 p89 p90 p91 p92 p93 p94 p95 p96 p97 p98 p99 p100 p101 p102 p103 p104 p105 p106 p107 p108 p109 p110 p111 p112 p113 p114 p115 p116 p117 p118 p119 p120 p121 p122 p123 p124 p125 p126 p127 p128 p129 p130 p131 p132 p133 p134 p135 p136 p137 p138 p139 p140 : Value) (B D j k : Nat) (xa xn xc xh ya yn yc yh : Int) (w : World)
    (HSP : Hid (sP w B D j k false ⟨xa, xn, xc, xh⟩ ⟨ya, yn, yc, yh⟩)) (j0 : (0 : Int) ≤ (j : Int)) (j9 : (j : Int) < 9) (k0 : (0 : Int) ≤ (k : Int)) (k9 : (k : Int) < 9) (hxd : decide (0 ≤ xc) = false)
    (hKK : ∀ (r32 r33 r34 r35 r36 r37 r38 r39 r40 r41 r42 r43 r44 r45 r46 r47 r48 r49 r50 r51 r52 r53 r54 r55 r56 r57 r58 : Value) (wz : World), wz = w.drew → KK ⟨#[p0, p1, p2, p3, p4, .slice (some ⟨B, 0, none⟩) 9 9, .slice (some ⟨D, 0, none⟩) 9 9, p7, .int .i64 (k : Int), .int .i64 (j : Int), p10, p11, p12, p13, p14, p15, p16, p17, p18, p19, p20, p21, p22, p23, p24, p25, p26, p27, p28, p29, p30, p31, r32, r33, r34, r35, r36, r37, r38, r39, r40, r41, r42, r43, r44, r45, r46, r47, r48, r49, r50, r51, r52, r53, r54, r55, r56, r57, r58, .bool false, p60, p61, p62, p63, p64, p65, p66, p67, p68, p69, p70, p71, p72, p73, p74, p75, p76, p77, p78, p79, p80, p81, p82, p83, p84, p85, p86, p87, p88, p89, p90, p91, p92, p93, p94, p95, p96, p97, p98, p99, p100, p101, p102, p103, p104, p105, p106, p107, p108, p109, p110, p111, p112, p113, p114, p115, p116, p117, p118, p119, p120, p121, p122, p123, p124, p125, p126, p127, p128, p129, p130, p131, p132, p133, p134, p135, p136, p137, p138, p139, p140], []⟩ wz) :
    Code.wp Tryz.prog (reg 12) (Exit.then KK Q') ⟨#[p0, p1, p2, p3, p4, .slice (some ⟨B, 0, none⟩) 9 9, .slice (some ⟨D, 0, none⟩) 9 9, p7, .int .i64 (k : Int), .int .i64 (j : Int), p10, p11, p12, p13, p14, p15, p16, p17, p18, p19, p20, p21, p22, p23, p24, p25, p26, p27, p28, p29, p30, p31, p32, p33, p34, p35, p36, p37, p38, p39, p40, p41, p42, p43, p44, p45, p46, p47, p48, p49, p50, p51, p52, p53, p54, p55, p56, p57, p58, p59, p60, p61, p62, p63, p64, p65, p66, p67, p68, p69, p70, p71, p72, p73, p74, p75, p76, p77, p78, p79, p80, p81, p82, p83, p84, p85, p86, p87, p88, p89, p90, p91, p92, p93, p94, p95, p96, p97, p98, p99, p100, p101, p102, p103, p104, p105, p106, p107, p108, p109, p110, p111, p112, p113, p114, p115, p116, p117, p118, p119, p120, p121, p122, p123, p124, p125, p126, p127, p128, p129, p130, p131, p132, p133, p134, p135, p136, p137, p138, p139, p140], []⟩ w := by
  conv => arg 2; whnf
  refine wp_region_noPanic ?_
  refine wp_region_held_drew (S := fun w' => sP w' B D j k false ⟨xa, xn, xc, xh⟩ ⟨ya, yn, yc, yh⟩ ∧ w'.cell? ⟨D, j, none⟩ = some (.bool false) ∧ w'.cell? ⟨B, j * 4, none⟩ = some (.int .i64 xa) ∧ w'.cell? ⟨B, j * 4 + 1, none⟩ = some (.int .i64 xn) ∧ w'.cell? ⟨B, j * 4 + 2, none⟩ = some (.int .i64 xc) ∧ w'.cell? ⟨B, j * 4 + 3, none⟩ = some (.int .i64 xh) ∧ w'.cell? ⟨B, k * 4, none⟩ = some (.int .i64 ya) ∧ w'.cell? ⟨B, k * 4 + 1, none⟩ = some (.int .i64 yn) ∧ w'.cell? ⟨B, k * 4 + 2, none⟩ = some (.int .i64 yc) ∧ w'.cell? ⟨B, k * 4 + 3, none⟩ = some (.int .i64 yh)) (by kernel_rfl) (sPc (unhide HSP)) (fun hHeld => ?_)
  refine Rg.t 0 32 ?_
  refine Rg.t 1 33 ?_
  refine Rg.t 2 34 ?_
  refine Rg.t 3 35 ?_
  refine Rg.t 4 36 ?_
  refine Rg.t 5 37 ?_
  refine Rg.t 6 38 ?_
  refine Rg.t 7 39 ?_
  refine Rg.t 8 40 ?_
  refine Rg.t 9 41 ?_
  refine Rg.t 10 42 ?_
  refine Rg.t 11 43 ?_
  refine Rg.t 12 44 ?_
  refine Rg.t 13 45 ?_
  refine Rg.s 14 46 ?_
  refine Rg.s 15 47 ?_
  refine Rg.s 16 48 ?_
  refine Rg.s 17 49 ?_
  refine Rg.s 18 50 ?_
  refine Rg.s 19 51 ?_
  refine Rg.s 20 52 ?_
  refine Rg.s 21 53 ?_
  refine Rg.s 22 54 ?_
  refine Rg.s 23 55 ?_
  refine Rg.s 24 56 ?_
  refine Rg.s 25 57 ?_
  refine Rg.s 26 58 ?_
  refine Rg.t 27 59 ?_
  refine wpAnyH_done (by kernel_rfl) (NoPanic.normal ?_) _
  clear hHeld
  exact hKK _ _ _ _ _ _ _ _ _ _ _ _ _ _ _ _ _ _ _ _ _ _ _ _ _ _ _ _ rfl
set_option maxHeartbeats 8000000 in
theorem r12c (KK : Act → World → Prop) (Q' : Exit → Act → World → Prop) (p0 p1 p2 p3 p4 p7 p10 p11 p12 p13 p14 p15 p16 p17 p18 p19 p20 p21 p22 p23 p24 p25 p26 p27 p28 p29 p30 p31 p32 p33 p34 p35 p36 p37 p38 p39 p40 p41 p42 p43 p44 p45 p46 p47 p48 p49 p50 p51 p52 p53 p54 p55 p56 p57 p58 p59 p60 p61 p62 p63 p64 p65 p66 p67 p68 p69 p70 p71 p72 p73 p74 p75 p76 p77 p78 p79 p80 p81 p82 p83 p84 p85 p86 p87 p88 p89 p90 p91 p92 p93 p94 p95 p96 p97 p98 p99 p100 p101 p102 p103 p104 p105 p106 p107 p108 p109 p110 p111 p112 p113 p114 p115 p116 p117 p118 p119 p120 p121 p122 p123 p124 p125 p126 p127 p128 p129 p130 p131 p132 p133 p134 p135 p136 p137 p138 p139 p140 : Value) (B D j k : Nat) (xa xn xc xh ya yn yc yh : Int) (w : World)
    (HSP : Hid (sP w B D j k false ⟨xa, xn, xc, xh⟩ ⟨ya, yn, yc, yh⟩)) (j0 : (0 : Int) ≤ (j : Int)) (j9 : (j : Int) < 9) (k0 : (0 : Int) ≤ (k : Int)) (k9 : (k : Int) < 9) (hxc : 0 ≤ xc) (hxd : decide (0 ≤ xc) = true) (hk' : ((k : Int) == 0) = true)
    (hKK : ∀ (r32 r33 r34 r35 r36 r37 r38 r39 r40 r41 r42 r43 r44 r45 r46 r47 r48 r49 r50 r51 r52 r53 r54 r55 r56 r57 r58 : Value) (wz : World), wz = w.drew → KK ⟨#[p0, p1, p2, p3, p4, .slice (some ⟨B, 0, none⟩) 9 9, .slice (some ⟨D, 0, none⟩) 9 9, p7, .int .i64 (k : Int), .int .i64 (j : Int), p10, p11, p12, p13, p14, p15, p16, p17, p18, p19, p20, p21, p22, p23, p24, p25, p26, p27, p28, p29, p30, p31, r32, r33, r34, r35, r36, r37, r38, r39, r40, r41, r42, r43, r44, r45, r46, r47, r48, r49, r50, r51, r52, r53, r54, r55, r56, r57, r58, .bool true, p60, p61, p62, p63, p64, p65, p66, p67, p68, p69, p70, p71, p72, p73, p74, p75, p76, p77, p78, p79, p80, p81, p82, p83, p84, p85, p86, p87, p88, p89, p90, p91, p92, p93, p94, p95, p96, p97, p98, p99, p100, p101, p102, p103, p104, p105, p106, p107, p108, p109, p110, p111, p112, p113, p114, p115, p116, p117, p118, p119, p120, p121, p122, p123, p124, p125, p126, p127, p128, p129, p130, p131, p132, p133, p134, p135, p136, p137, p138, p139, p140], []⟩ wz) :
    Code.wp Tryz.prog (reg 12) (Exit.then KK Q') ⟨#[p0, p1, p2, p3, p4, .slice (some ⟨B, 0, none⟩) 9 9, .slice (some ⟨D, 0, none⟩) 9 9, p7, .int .i64 (k : Int), .int .i64 (j : Int), p10, p11, p12, p13, p14, p15, p16, p17, p18, p19, p20, p21, p22, p23, p24, p25, p26, p27, p28, p29, p30, p31, p32, p33, p34, p35, p36, p37, p38, p39, p40, p41, p42, p43, p44, p45, p46, p47, p48, p49, p50, p51, p52, p53, p54, p55, p56, p57, p58, p59, p60, p61, p62, p63, p64, p65, p66, p67, p68, p69, p70, p71, p72, p73, p74, p75, p76, p77, p78, p79, p80, p81, p82, p83, p84, p85, p86, p87, p88, p89, p90, p91, p92, p93, p94, p95, p96, p97, p98, p99, p100, p101, p102, p103, p104, p105, p106, p107, p108, p109, p110, p111, p112, p113, p114, p115, p116, p117, p118, p119, p120, p121, p122, p123, p124, p125, p126, p127, p128, p129, p130, p131, p132, p133, p134, p135, p136, p137, p138, p139, p140], []⟩ w := by
  conv => arg 2; whnf
  refine wp_region_noPanic ?_
  refine wp_region_held_drew (S := fun w' => sP w' B D j k false ⟨xa, xn, xc, xh⟩ ⟨ya, yn, yc, yh⟩ ∧ w'.cell? ⟨D, j, none⟩ = some (.bool false) ∧ w'.cell? ⟨B, j * 4, none⟩ = some (.int .i64 xa) ∧ w'.cell? ⟨B, j * 4 + 1, none⟩ = some (.int .i64 xn) ∧ w'.cell? ⟨B, j * 4 + 2, none⟩ = some (.int .i64 xc) ∧ w'.cell? ⟨B, j * 4 + 3, none⟩ = some (.int .i64 xh) ∧ w'.cell? ⟨B, k * 4, none⟩ = some (.int .i64 ya) ∧ w'.cell? ⟨B, k * 4 + 1, none⟩ = some (.int .i64 yn) ∧ w'.cell? ⟨B, k * 4 + 2, none⟩ = some (.int .i64 yc) ∧ w'.cell? ⟨B, k * 4 + 3, none⟩ = some (.int .i64 yh)) (by kernel_rfl) (sPc (unhide HSP)) (fun hHeld => ?_)
  refine Rg.t 0 32 ?_
  refine Rg.t 1 33 ?_
  refine Rg.t 2 34 ?_
  refine Rg.t 3 35 ?_
  refine Rg.t 4 36 ?_
  refine Rg.t 5 37 ?_
  refine Rg.t 6 38 ?_
  refine Rg.t 7 39 ?_
  refine Rg.t 8 40 ?_
  refine Rg.t 9 41 ?_
  refine Rg.t 10 42 ?_
  refine Rg.t 11 43 ?_
  refine Rg.t 12 44 ?_
  refine Rg.t 13 45 ?_
  refine Rg.t 14 46 ?_
  refine Rg.t 15 47 ?_
  refine Rg.t 16 48 ?_
  refine Rg.s 17 49 ?_
  refine Rg.s 18 50 ?_
  refine Rg.s 19 51 ?_
  refine Rg.s 20 52 ?_
  refine Rg.s 21 53 ?_
  refine Rg.s 22 54 ?_
  refine Rg.s 23 55 ?_
  refine Rg.s 24 56 ?_
  refine Rg.s 25 57 ?_
  refine Rg.t 26 58 ?_
  refine Rg.t 27 59 ?_
  refine wpAnyH_done (by kernel_rfl) (NoPanic.normal ?_) _
  clear hHeld
  exact hKK _ _ _ _ _ _ _ _ _ _ _ _ _ _ _ _ _ _ _ _ _ _ _ _ _ _ _ _ rfl
set_option maxHeartbeats 8000000 in
theorem r12d (KK : Act → World → Prop) (Q' : Exit → Act → World → Prop) (p0 p1 p2 p3 p4 p7 p10 p11 p12 p13 p14 p15 p16 p17 p18 p19 p20 p21 p22 p23 p24 p25 p26 p27 p28 p29 p30 p31 p32 p33 p34 p35 p36 p37 p38 p39 p40 p41 p42 p43 p44 p45 p46 p47 p48 p49 p50 p51 p52 p53 p54 p55 p56 p57 p58 p59 p60 p61 p62 p63 p64 p65 p66 p67 p68 p69 p70 p71 p72 p73 p74 p75 p76 p77 p78 p79 p80 p81 p82 p83 p84 p85 p86 p87 p88 p89 p90 p91 p92 p93 p94 p95 p96 p97 p98 p99 p100 p101 p102 p103 p104 p105 p106 p107 p108 p109 p110 p111 p112 p113 p114 p115 p116 p117 p118 p119 p120 p121 p122 p123 p124 p125 p126 p127 p128 p129 p130 p131 p132 p133 p134 p135 p136 p137 p138 p139 p140 : Value) (B D j k : Nat) (xa xn xc xh ya yn yc yh : Int) (w : World)
    (HSP : Hid (sP w B D j k false ⟨xa, xn, xc, xh⟩ ⟨ya, yn, yc, yh⟩)) (j0 : (0 : Int) ≤ (j : Int)) (j9 : (j : Int) < 9) (k0 : (0 : Int) ≤ (k : Int)) (k9 : (k : Int) < 9) (hxc : 0 ≤ xc) (hxd : decide (0 ≤ xc) = true) (hk' : ((k : Int) == 0) = false)
    (hKK : ∀ (r32 r33 r34 r35 r36 r37 r38 r39 r40 r41 r42 r43 r44 r45 r46 r47 r48 r49 r50 r51 r52 r53 r54 r55 r56 r57 r58 : Value) (wz : World), Below w.heap.size w wz → KK ⟨#[p0, p1, p2, p3, p4, .slice (some ⟨B, 0, none⟩) 9 9, .slice (some ⟨D, 0, none⟩) 9 9, p7, .int .i64 (k : Int), .int .i64 (j : Int), p10, p11, p12, p13, p14, p15, p16, p17, p18, p19, p20, p21, p22, p23, p24, p25, p26, p27, p28, p29, p30, p31, r32, r33, r34, r35, r36, r37, r38, r39, r40, r41, r42, r43, r44, r45, r46, r47, r48, r49, r50, r51, r52, r53, r54, r55, r56, r57, r58, .bool (btB ⟨xa, xn, xc, xh⟩ ⟨ya, yn, yc, yh⟩), p60, p61, p62, p63, p64, p65, p66, p67, p68, p69, p70, p71, p72, p73, p74, p75, p76, p77, p78, p79, p80, p81, p82, p83, p84, p85, p86, p87, p88, p89, p90, p91, p92, p93, p94, p95, p96, p97, p98, p99, p100, p101, p102, p103, p104, p105, p106, p107, p108, p109, p110, p111, p112, p113, p114, p115, p116, p117, p118, p119, p120, p121, p122, p123, p124, p125, p126, p127, p128, p129, p130, p131, p132, p133, p134, p135, p136, p137, p138, p139, p140], []⟩ wz) :
    Code.wp Tryz.prog (reg 12) (Exit.then KK Q') ⟨#[p0, p1, p2, p3, p4, .slice (some ⟨B, 0, none⟩) 9 9, .slice (some ⟨D, 0, none⟩) 9 9, p7, .int .i64 (k : Int), .int .i64 (j : Int), p10, p11, p12, p13, p14, p15, p16, p17, p18, p19, p20, p21, p22, p23, p24, p25, p26, p27, p28, p29, p30, p31, p32, p33, p34, p35, p36, p37, p38, p39, p40, p41, p42, p43, p44, p45, p46, p47, p48, p49, p50, p51, p52, p53, p54, p55, p56, p57, p58, p59, p60, p61, p62, p63, p64, p65, p66, p67, p68, p69, p70, p71, p72, p73, p74, p75, p76, p77, p78, p79, p80, p81, p82, p83, p84, p85, p86, p87, p88, p89, p90, p91, p92, p93, p94, p95, p96, p97, p98, p99, p100, p101, p102, p103, p104, p105, p106, p107, p108, p109, p110, p111, p112, p113, p114, p115, p116, p117, p118, p119, p120, p121, p122, p123, p124, p125, p126, p127, p128, p129, p130, p131, p132, p133, p134, p135, p136, p137, p138, p139, p140], []⟩ w := by
  conv => arg 2; whnf
  obtain ⟨T, hT⟩ : ∃ T, btB (⟨xa, xn, xc, xh⟩ : R) ⟨ya, yn, yc, yh⟩ = T := ⟨_, rfl⟩
  rw [hT] at hKK
  have HBT := hide hT
  clear hT
  refine wp_region_noPanic ?_
  refine wp_region_held_drew (S := fun w' => sP w' B D j k false ⟨xa, xn, xc, xh⟩ ⟨ya, yn, yc, yh⟩ ∧ w'.cell? ⟨D, j, none⟩ = some (.bool false) ∧ w'.cell? ⟨B, j * 4, none⟩ = some (.int .i64 xa) ∧ w'.cell? ⟨B, j * 4 + 1, none⟩ = some (.int .i64 xn) ∧ w'.cell? ⟨B, j * 4 + 2, none⟩ = some (.int .i64 xc) ∧ w'.cell? ⟨B, j * 4 + 3, none⟩ = some (.int .i64 xh) ∧ w'.cell? ⟨B, k * 4, none⟩ = some (.int .i64 ya) ∧ w'.cell? ⟨B, k * 4 + 1, none⟩ = some (.int .i64 yn) ∧ w'.cell? ⟨B, k * 4 + 2, none⟩ = some (.int .i64 yc) ∧ w'.cell? ⟨B, k * 4 + 3, none⟩ = some (.int .i64 yh)) (by kernel_rfl) (sPc (unhide HSP)) (fun hHeld => ?_)
  refine Rg.t 0 32 ?_
  refine Rg.t 1 33 ?_
  refine Rg.t 2 34 ?_
  refine Rg.t 3 35 ?_
  refine Rg.t 4 36 ?_
  refine Rg.t 5 37 ?_
  refine Rg.t 6 38 ?_
  refine Rg.t 7 39 ?_
  refine Rg.t 8 40 ?_
  refine Rg.t 9 41 ?_
  refine Rg.t 10 42 ?_
  refine Rg.t 11 43 ?_
  refine Rg.t 12 44 ?_
  refine Rg.t 13 45 ?_
  refine Rg.t 14 46 ?_
  refine Rg.t 15 47 ?_
  refine Rg.t 16 48 ?_
  refine Rg.t 17 49 ?_
  refine Rg.t 18 50 ?_
  refine Rg.t 19 51 ?_
  refine Rg.t 20 52 ?_
  refine Rg.t 21 53 ?_
  refine Rg.t 22 54 ?_
  refine Rg.t 23 55 ?_
  refine Rg.t 24 56 ?_
  (refine Rg.o 25 (fun K hK => ?_); go_simp)
  refine (l11Less ⟨xa, xn, xc, xh⟩ ⟨ya, yn, yc, yh⟩ _).mono ?_
  rintro e w5 ⟨rfl, b5_⟩
  rw [unhide HBT]
  have b5 : Below w.heap.size w w5 := (Below.refl _ _).drew.trans b5_
  have HSP5 := hide ((unhide HSP).below b5)
  have HB5 := hide b5
  clear b5 b5_ hHeld HSP
  refine hK.out _ _ (sPc (unhide HSP5)) (fun hHeld => ?_)
  clear hK K
  (try simp only [Act.put, List.setIfInBounds_toArray, List.set_cons_zero, List.set_cons_succ])
  refine Rg.t 26 58 ?_
  refine Rg.t 27 59 ?_
  refine wpAnyH_done (by kernel_rfl) (NoPanic.normal ?_) _
  clear hHeld
  exact hKK _ _ _ _ _ _ _ _ _ _ _ _ _ _ _ _ _ _ _ _ _ _ _ _ _ _ _ _ (unhide HB5)
set_option maxHeartbeats 8000000 in
theorem r25a (KK : Act → World → Prop) (Q' : Exit → Act → World → Prop) (p0 p1 p2 p3 p4 p7 p8 p9 p10 p13 p14 p15 p16 p17 p18 p19 p20 p21 p22 p23 p24 p25 p26 p27 p28 p29 p30 p31 p32 p33 p34 p35 p36 p37 p38 p39 p40 p41 p42 p43 p44 p45 p46 p47 p48 p49 p50 p51 p52 p53 p54 p55 p56 p57 p58 p59 p60 p61 p62 p63 p64 p65 p66 p67 p68 p69 p70 p71 p72 p73 p74 p75 p76 p77 p78 p79 p80 p81 p82 p83 p84 p85 p86 p87 p88 p89 p90 p91 p92 p93 p94 p95 p96 p97 p98 p99 p100 p101 p102 p103 p104 p105 p106 p107 p108 p109 p110 p111 p112 p113 p114 p115 p116 p117 p118 p119 p120 p121 p122 p123 p124 p125 p126 p127 p128 p129 p130 p131 p132 p133 p134 p135 p136 p137 p138 p139 p140 : Value) (B D t X : Nat) (xa xn xc xh ya yn yc yh : Int) (w : World)
    (HSQ : Hid (sQ w B D t X true ⟨xa, xn, xc, xh⟩ ⟨ya, yn, yc, yh⟩)) (t0 : (0 : Int) ≤ (t : Int)) (t9 : (t : Int) < 9)
    (hKK : ∀ (r116 r117 r118 r119 r120 r121 r122 r123 r124 r125 r126 r127 r128 r129 r130 r131 r132 r133 r134 r135 : Value) (wz : World), wz = w.drew → KK ⟨#[p0, p1, p2, p3, p4, .slice (some ⟨B, 0, none⟩) 9 9, .slice (some ⟨D, 0, none⟩) 9 9, p7, p8, p9, p10, .int .i64 (t : Int), .pointer (some ⟨X, 0, none⟩), p13, p14, p15, p16, p17, p18, p19, p20, p21, p22, p23, p24, p25, p26, p27, p28, p29, p30, p31, p32, p33, p34, p35, p36, p37, p38, p39, p40, p41, p42, p43, p44, p45, p46, p47, p48, p49, p50, p51, p52, p53, p54, p55, p56, p57, p58, p59, p60, p61, p62, p63, p64, p65, p66, p67, p68, p69, p70, p71, p72, p73, p74, p75, p76, p77, p78, p79, p80, p81, p82, p83, p84, p85, p86, p87, p88, p89, p90, p91, p92, p93, p94, p95, p96, p97, p98, p99, p100, p101, p102, p103, p104, p105, p106, p107, p108, p109, p110, p111, p112, p113, p114, p115, r116, r117, r118, r119, r120, r121, r122, r123, r124, r125, r126, r127, r128, r129, r130, r131, r132, r133, r134, r135, .bool false, p137, p138, p139, p140], []⟩ wz) :
    Code.wp Tryz.prog (reg 25) (Exit.then KK Q') ⟨#[p0, p1, p2, p3, p4, .slice (some ⟨B, 0, none⟩) 9 9, .slice (some ⟨D, 0, none⟩) 9 9, p7, p8, p9, p10, .int .i64 (t : Int), .pointer (some ⟨X, 0, none⟩), p13, p14, p15, p16, p17, p18, p19, p20, p21, p22, p23, p24, p25, p26, p27, p28, p29, p30, p31, p32, p33, p34, p35, p36, p37, p38, p39, p40, p41, p42, p43, p44, p45, p46, p47, p48, p49, p50, p51, p52, p53, p54, p55, p56, p57, p58, p59, p60, p61, p62, p63, p64, p65, p66, p67, p68, p69, p70, p71, p72, p73, p74, p75, p76, p77, p78, p79, p80, p81, p82, p83, p84, p85, p86, p87, p88, p89, p90, p91, p92, p93, p94, p95, p96, p97, p98, p99, p100, p101, p102, p103, p104, p105, p106, p107, p108, p109, p110, p111, p112, p113, p114, p115, p116, p117, p118, p119, p120, p121, p122, p123, p124, p125, p126, p127, p128, p129, p130, p131, p132, p133, p134, p135, p136, p137, p138, p139, p140], []⟩ w := by
  conv => arg 2; whnf
  refine wp_region_noPanic ?_
  refine wp_region_held_drew (S := fun w' => sQ w' B D t X true ⟨xa, xn, xc, xh⟩ ⟨ya, yn, yc, yh⟩ ∧ w'.cell? ⟨D, t, none⟩ = some (.bool true) ∧ w'.cell? ⟨B, t * 4, none⟩ = some (.int .i64 ya) ∧ w'.cell? ⟨B, t * 4 + 1, none⟩ = some (.int .i64 yn) ∧ w'.cell? ⟨B, t * 4 + 2, none⟩ = some (.int .i64 yc) ∧ w'.cell? ⟨B, t * 4 + 3, none⟩ = some (.int .i64 yh) ∧ w'.cell? ⟨X, 0, none⟩ = some (.int .i64 xa) ∧ w'.cell? ⟨X, 1, none⟩ = some (.int .i64 xn) ∧ w'.cell? ⟨X, 2, none⟩ = some (.int .i64 xc) ∧ w'.cell? ⟨X, 3, none⟩ = some (.int .i64 xh)) (by kernel_rfl) (sQc (unhide HSQ)) (fun hHeld => ?_)
  refine Rg.t 0 116 ?_
  refine Rg.t 1 117 ?_
  refine Rg.t 2 118 ?_
  refine Rg.t 3 119 ?_
  refine Rg.t 4 120 ?_
  refine Rg.t 5 121 ?_
  refine Rg.s 6 122 ?_
  refine Rg.s 7 123 ?_
  refine Rg.s 8 124 ?_
  refine Rg.s 9 125 ?_
  refine Rg.s 10 126 ?_
  refine Rg.s 11 127 ?_
  refine Rg.s 12 128 ?_
  refine Rg.s 13 129 ?_
  refine Rg.s 14 130 ?_
  refine Rg.s 15 131 ?_
  refine Rg.s 16 132 ?_
  refine Rg.s 17 133 ?_
  refine Rg.s 18 134 ?_
  refine Rg.s 19 135 ?_
  refine Rg.t 20 136 ?_
  refine wpAnyH_done (by kernel_rfl) (NoPanic.normal ?_) _
  clear hHeld
  exact hKK _ _ _ _ _ _ _ _ _ _ _ _ _ _ _ _ _ _ _ _ _ rfl
set_option maxHeartbeats 8000000 in
theorem r25b (KK : Act → World → Prop) (Q' : Exit → Act → World → Prop) (p0 p1 p2 p3 p4 p7 p8 p9 p10 p13 p14 p15 p16 p17 p18 p19 p20 p21 p22 p23 p24 p25 p26 p27 p28 p29 p30 p31 p32 p33 p34 p35 p36 p37 p38 p39 p40 p41 p42 p43 p44 p45 p46 p47 p48 p49 p50 p51 p52 p53 p54 p55 p56 p57 p58 p59 p60 p61 p62 p63 p64 p65 p66 p67 p68 p69 p70 p71 p72 p73 p74 p75 p76 p77 p78 p79 p80 p81 p82 p83 p84 p85 p86 p87 p88 p89 p90 p91 p92 p93 p94 p95 p96 p97 p98 p99 p100 p101 p102 p103 p104 p105 p106 p107 p108 p109 p110 p111 p112 p113 p114 p115 p116 p117 p118 p119 p120 p121 p122 p123 p124 p125 p126 p127 p128 p129 p130 p131 p132 p133 p134 p135 p136 p137 p138 p139 p140 : Value) (B D t X : Nat) (xa xn xc xh ya yn yc yh : Int) (w : World)
    (HSQ : Hid (sQ w B D t X false ⟨xa, xn, xc, xh⟩ ⟨ya, yn, yc, yh⟩)) (t0 : (0 : Int) ≤ (t : Int)) (t9 : (t : Int) < 9) (hyc : yc < 0) (hyd : decide (yc < 0) = true)
    (hKK : ∀ (r116 r117 r118 r119 r120 r121 r122 r123 r124 r125 r126 r127 r128 r129 r130 r131 r132 r133 r134 r135 : Value) (wz : World), wz = w.drew → KK ⟨#[p0, p1, p2, p3, p4, .slice (some ⟨B, 0, none⟩) 9 9, .slice (some ⟨D, 0, none⟩) 9 9, p7, p8, p9, p10, .int .i64 (t : Int), .pointer (some ⟨X, 0, none⟩), p13, p14, p15, p16, p17, p18, p19, p20, p21, p22, p23, p24, p25, p26, p27, p28, p29, p30, p31, p32, p33, p34, p35, p36, p37, p38, p39, p40, p41, p42, p43, p44, p45, p46, p47, p48, p49, p50, p51, p52, p53, p54, p55, p56, p57, p58, p59, p60, p61, p62, p63, p64, p65, p66, p67, p68, p69, p70, p71, p72, p73, p74, p75, p76, p77, p78, p79, p80, p81, p82, p83, p84, p85, p86, p87, p88, p89, p90, p91, p92, p93, p94, p95, p96, p97, p98, p99, p100, p101, p102, p103, p104, p105, p106, p107, p108, p109, p110, p111, p112, p113, p114, p115, r116, r117, r118, r119, r120, r121, r122, r123, r124, r125, r126, r127, r128, r129, r130, r131, r132, r133, r134, r135, .bool true, p137, p138, p139, p140], []⟩ wz) :
    Code.wp Tryz.prog (reg 25) (Exit.then KK Q') ⟨#[p0, p1, p2, p3, p4, .slice (some ⟨B, 0, none⟩) 9 9, .slice (some ⟨D, 0, none⟩) 9 9, p7, p8, p9, p10, .int .i64 (t : Int), .pointer (some ⟨X, 0, none⟩), p13, p14, p15, p16, p17, p18, p19, p20, p21, p22, p23, p24, p25, p26, p27, p28, p29, p30, p31, p32, p33, p34, p35, p36, p37, p38, p39, p40, p41, p42, p43, p44, p45, p46, p47, p48, p49, p50, p51, p52, p53, p54, p55, p56, p57, p58, p59, p60, p61, p62, p63, p64, p65, p66, p67, p68, p69, p70, p71, p72, p73, p74, p75, p76, p77, p78, p79, p80, p81, p82, p83, p84, p85, p86, p87, p88, p89, p90, p91, p92, p93, p94, p95, p96, p97, p98, p99, p100, p101, p102, p103, p104, p105, p106, p107, p108, p109, p110, p111, p112, p113, p114, p115, p116, p117, p118, p119, p120, p121, p122, p123, p124, p125, p126, p127, p128, p129, p130, p131, p132, p133, p134, p135, p136, p137, p138, p139, p140], []⟩ w := by
  conv => arg 2; whnf
  refine wp_region_noPanic ?_
  refine wp_region_held_drew (S := fun w' => sQ w' B D t X false ⟨xa, xn, xc, xh⟩ ⟨ya, yn, yc, yh⟩ ∧ w'.cell? ⟨D, t, none⟩ = some (.bool false) ∧ w'.cell? ⟨B, t * 4, none⟩ = some (.int .i64 ya) ∧ w'.cell? ⟨B, t * 4 + 1, none⟩ = some (.int .i64 yn) ∧ w'.cell? ⟨B, t * 4 + 2, none⟩ = some (.int .i64 yc) ∧ w'.cell? ⟨B, t * 4 + 3, none⟩ = some (.int .i64 yh) ∧ w'.cell? ⟨X, 0, none⟩ = some (.int .i64 xa) ∧ w'.cell? ⟨X, 1, none⟩ = some (.int .i64 xn) ∧ w'.cell? ⟨X, 2, none⟩ = some (.int .i64 xc) ∧ w'.cell? ⟨X, 3, none⟩ = some (.int .i64 xh)) (by kernel_rfl) (sQc (unhide HSQ)) (fun hHeld => ?_)
  refine Rg.t 0 116 ?_
  refine Rg.t 1 117 ?_
  refine Rg.t 2 118 ?_
  refine Rg.t 3 119 ?_
  refine Rg.t 4 120 ?_
  refine Rg.t 5 121 ?_
  refine Rg.t 6 122 ?_
  refine Rg.t 7 123 ?_
  refine Rg.t 8 124 ?_
  refine Rg.t 9 125 ?_
  refine Rg.t 10 126 ?_
  refine Rg.t 11 127 ?_
  refine Rg.t 12 128 ?_
  refine Rg.s 13 129 ?_
  refine Rg.s 14 130 ?_
  refine Rg.s 15 131 ?_
  refine Rg.s 16 132 ?_
  refine Rg.s 17 133 ?_
  refine Rg.s 18 134 ?_
  refine Rg.t 19 135 ?_
  refine Rg.t 20 136 ?_
  refine wpAnyH_done (by kernel_rfl) (NoPanic.normal ?_) _
  clear hHeld
  exact hKK _ _ _ _ _ _ _ _ _ _ _ _ _ _ _ _ _ _ _ _ _ rfl
set_option maxHeartbeats 8000000 in
theorem r25c (KK : Act → World → Prop) (Q' : Exit → Act → World → Prop) (p0 p1 p2 p3 p4 p7 p8 p9 p10 p13 p14 p15 p16 p17 p18 p19 p20 p21 p22 p23 p24 p25 p26 p27 p28 p29 p30 p31 p32 p33 p34 p35 p36 p37 p38 p39 p40 p41 p42 p43 p44 p45 p46 p47 p48 p49 p50 p51 p52 p53 p54 p55 p56 p57 p58 p59 p60 p61 p62 p63 p64 p65 p66 p67 p68 p69 p70 p71 p72 p73 p74 p75 p76 p77 p78 p79 p80 p81 p82 p83 p84 p85 p86 p87 p88 p89 p90 p91 p92 p93 p94 p95 p96 p97 p98 p99 p100 p101 p102 p103 p104 p105 p106 p107 p108 p109 p110 p111 p112 p113 p114 p115 p116 p117 p118 p119 p120 p121 p122 p123 p124 p125 p126 p127 p128 p129 p130 p131 p132 p133 p134 p135 p136 p137 p138 p139 p140 : Value) (B D t X : Nat) (xa xn xc xh ya yn yc yh : Int) (w : World)
    (HSQ : Hid (sQ w B D t X false ⟨xa, xn, xc, xh⟩ ⟨ya, yn, yc, yh⟩)) (t0 : (0 : Int) ≤ (t : Int)) (t9 : (t : Int) < 9) (hyd : decide (yc < 0) = false)
    (hKK : ∀ (r116 r117 r118 r119 r120 r121 r122 r123 r124 r125 r126 r127 r128 r129 r130 r131 r132 r133 r134 r135 : Value) (wz : World), Below w.heap.size w wz → KK ⟨#[p0, p1, p2, p3, p4, .slice (some ⟨B, 0, none⟩) 9 9, .slice (some ⟨D, 0, none⟩) 9 9, p7, p8, p9, p10, .int .i64 (t : Int), .pointer (some ⟨X, 0, none⟩), p13, p14, p15, p16, p17, p18, p19, p20, p21, p22, p23, p24, p25, p26, p27, p28, p29, p30, p31, p32, p33, p34, p35, p36, p37, p38, p39, p40, p41, p42, p43, p44, p45, p46, p47, p48, p49, p50, p51, p52, p53, p54, p55, p56, p57, p58, p59, p60, p61, p62, p63, p64, p65, p66, p67, p68, p69, p70, p71, p72, p73, p74, p75, p76, p77, p78, p79, p80, p81, p82, p83, p84, p85, p86, p87, p88, p89, p90, p91, p92, p93, p94, p95, p96, p97, p98, p99, p100, p101, p102, p103, p104, p105, p106, p107, p108, p109, p110, p111, p112, p113, p114, p115, r116, r117, r118, r119, r120, r121, r122, r123, r124, r125, r126, r127, r128, r129, r130, r131, r132, r133, r134, r135, .bool (btB ⟨xa, xn, xc, xh⟩ ⟨ya, yn, yc, yh⟩), p137, p138, p139, p140], []⟩ wz) :
    Code.wp Tryz.prog (reg 25) (Exit.then KK Q') ⟨#[p0, p1, p2, p3, p4, .slice (some ⟨B, 0, none⟩) 9 9, .slice (some ⟨D, 0, none⟩) 9 9, p7, p8, p9, p10, .int .i64 (t : Int), .pointer (some ⟨X, 0, none⟩), p13, p14, p15, p16, p17, p18, p19, p20, p21, p22, p23, p24, p25, p26, p27, p28, p29, p30, p31, p32, p33, p34, p35, p36, p37, p38, p39, p40, p41, p42, p43, p44, p45, p46, p47, p48, p49, p50, p51, p52, p53, p54, p55, p56, p57, p58, p59, p60, p61, p62, p63, p64, p65, p66, p67, p68, p69, p70, p71, p72, p73, p74, p75, p76, p77, p78, p79, p80, p81, p82, p83, p84, p85, p86, p87, p88, p89, p90, p91, p92, p93, p94, p95, p96, p97, p98, p99, p100, p101, p102, p103, p104, p105, p106, p107, p108, p109, p110, p111, p112, p113, p114, p115, p116, p117, p118, p119, p120, p121, p122, p123, p124, p125, p126, p127, p128, p129, p130, p131, p132, p133, p134, p135, p136, p137, p138, p139, p140], []⟩ w := by
  conv => arg 2; whnf
  obtain ⟨T, hT⟩ : ∃ T, btB (⟨xa, xn, xc, xh⟩ : R) ⟨ya, yn, yc, yh⟩ = T := ⟨_, rfl⟩
  rw [hT] at hKK
  have HBT := hide hT
  clear hT
  refine wp_region_noPanic ?_
  refine wp_region_held_drew (S := fun w' => sQ w' B D t X false ⟨xa, xn, xc, xh⟩ ⟨ya, yn, yc, yh⟩ ∧ w'.cell? ⟨D, t, none⟩ = some (.bool false) ∧ w'.cell? ⟨B, t * 4, none⟩ = some (.int .i64 ya) ∧ w'.cell? ⟨B, t * 4 + 1, none⟩ = some (.int .i64 yn) ∧ w'.cell? ⟨B, t * 4 + 2, none⟩ = some (.int .i64 yc) ∧ w'.cell? ⟨B, t * 4 + 3, none⟩ = some (.int .i64 yh) ∧ w'.cell? ⟨X, 0, none⟩ = some (.int .i64 xa) ∧ w'.cell? ⟨X, 1, none⟩ = some (.int .i64 xn) ∧ w'.cell? ⟨X, 2, none⟩ = some (.int .i64 xc) ∧ w'.cell? ⟨X, 3, none⟩ = some (.int .i64 xh)) (by kernel_rfl) (sQc (unhide HSQ)) (fun hHeld => ?_)
  refine Rg.t 0 116 ?_
  refine Rg.t 1 117 ?_
  refine Rg.t 2 118 ?_
  refine Rg.t 3 119 ?_
  refine Rg.t 4 120 ?_
  refine Rg.t 5 121 ?_
  refine Rg.t 6 122 ?_
  refine Rg.t 7 123 ?_
  refine Rg.t 8 124 ?_
  refine Rg.t 9 125 ?_
  refine Rg.t 10 126 ?_
  refine Rg.t 11 127 ?_
  refine Rg.t 12 128 ?_
  refine Rg.t 13 129 ?_
  refine Rg.t 14 130 ?_
  refine Rg.t 15 131 ?_
  refine Rg.t 16 132 ?_
  refine Rg.t 17 133 ?_
  (refine Rg.o 18 (fun K hK => ?_); go_simp)
  refine (l11Less ⟨xa, xn, xc, xh⟩ ⟨ya, yn, yc, yh⟩ _).mono ?_
  rintro e w5 ⟨rfl, b5_⟩
  rw [unhide HBT]
  have b5 : Below w.heap.size w w5 := (Below.refl _ _).drew.trans b5_
  have HSQ5 := hide ((unhide HSQ).below b5)
  have HB5 := hide b5
  clear b5 b5_ hHeld HSQ
  refine hK.out _ _ (sQc (unhide HSQ5)) (fun hHeld => ?_)
  clear hK K
  (try simp only [Act.put, List.setIfInBounds_toArray, List.set_cons_zero, List.set_cons_succ])
  refine Rg.t 19 135 ?_
  refine Rg.t 20 136 ?_
  refine wpAnyH_done (by kernel_rfl) (NoPanic.normal ?_) _
  clear hHeld
  exact hKK _ _ _ _ _ _ _ _ _ _ _ _ _ _ _ _ _ _ _ _ _ (unhide HB5)
set_option maxHeartbeats 8000000 in
theorem r12 (KK : Act → World → Prop) (Q' : Exit → Act → World → Prop) (p0 p1 p2 p3 p4 p7 p10 p11 p12 p13 p14 p15 p16 p17 p18 p19 p20 p21 p22 p23 p24 p25 p26 p27 p28 p29 p30 p31 p32 p33 p34 p35 p36 p37 p38 p39 p40 p41 p42 p43 p44 p45 p46 p47 p48 p49 p50 p51 p52 p53 p54 p55 p56 p57 p58 p59 p60 p61 p62 p63 p64 p65 p66 p67 p68 p69 p70 p71 p72 p73 p74 p75 p76 p77 p78 p79 p80 p81 p82 p83 p84 p85 p86 p87 p88 p89 p90 p91 p92 p93 p94 p95 p96 p97 p98 p99 p100 p101 p102 p103 p104 p105 p106 p107 p108 p109 p110 p111 p112 p113 p114 p115 p116 p117 p118 p119 p120 p121 p122 p123 p124 p125 p126 p127 p128 p129 p130 p131 p132 p133 p134 p135 p136 p137 p138 p139 p140 : Value) (B D j k : Nat) (dj : Bool) (x y : R) (w : World)
    (HSP : Hid (sP w B D j k dj x y)) (j0 : (0 : Int) ≤ (j : Int)) (j9 : (j : Int) < 9) (k0 : (0 : Int) ≤ (k : Int)) (k9 : (k : Int) < 9)
    (hKK : ∀ (c : Bool), c = (!dj && decide (0 ≤ x.co) && (k == 0 || btB x y)) → ∀ (r32 r33 r34 r35 r36 r37 r38 r39 r40 r41 r42 r43 r44 r45 r46 r47 r48 r49 r50 r51 r52 r53 r54 r55 r56 r57 r58 : Value) (wz : World), Below w.heap.size w wz → KK ⟨#[p0, p1, p2, p3, p4, .slice (some ⟨B, 0, none⟩) 9 9, .slice (some ⟨D, 0, none⟩) 9 9, p7, .int .i64 (k : Int), .int .i64 (j : Int), p10, p11, p12, p13, p14, p15, p16, p17, p18, p19, p20, p21, p22, p23, p24, p25, p26, p27, p28, p29, p30, p31, r32, r33, r34, r35, r36, r37, r38, r39, r40, r41, r42, r43, r44, r45, r46, r47, r48, r49, r50, r51, r52, r53, r54, r55, r56, r57, r58, .bool c, p60, p61, p62, p63, p64, p65, p66, p67, p68, p69, p70, p71, p72, p73, p74, p75, p76, p77, p78, p79, p80, p81, p82, p83, p84, p85, p86, p87, p88, p89, p90, p91, p92, p93, p94, p95, p96, p97, p98, p99, p100, p101, p102, p103, p104, p105, p106, p107, p108, p109, p110, p111, p112, p113, p114, p115, p116, p117, p118, p119, p120, p121, p122, p123, p124, p125, p126, p127, p128, p129, p130, p131, p132, p133, p134, p135, p136, p137, p138, p139, p140], []⟩ wz) :
    Code.wp Tryz.prog (reg 12) (Exit.then KK Q') ⟨#[p0, p1, p2, p3, p4, .slice (some ⟨B, 0, none⟩) 9 9, .slice (some ⟨D, 0, none⟩) 9 9, p7, .int .i64 (k : Int), .int .i64 (j : Int), p10, p11, p12, p13, p14, p15, p16, p17, p18, p19, p20, p21, p22, p23, p24, p25, p26, p27, p28, p29, p30, p31, p32, p33, p34, p35, p36, p37, p38, p39, p40, p41, p42, p43, p44, p45, p46, p47, p48, p49, p50, p51, p52, p53, p54, p55, p56, p57, p58, p59, p60, p61, p62, p63, p64, p65, p66, p67, p68, p69, p70, p71, p72, p73, p74, p75, p76, p77, p78, p79, p80, p81, p82, p83, p84, p85, p86, p87, p88, p89, p90, p91, p92, p93, p94, p95, p96, p97, p98, p99, p100, p101, p102, p103, p104, p105, p106, p107, p108, p109, p110, p111, p112, p113, p114, p115, p116, p117, p118, p119, p120, p121, p122, p123, p124, p125, p126, p127, p128, p129, p130, p131, p132, p133, p134, p135, p136, p137, p138, p139, p140], []⟩ w := by
  have hd : Below w.heap.size w w.drew := (Below.refl _ _).drew
  obtain ⟨xa, xn, xc, xh⟩ := x
  obtain ⟨ya, yn, yc, yh⟩ := y
  dsimp only at hKK
  cases dj
  · by_cases hxc : 0 ≤ xc
    · by_cases hk : k = 0
      · exact r12c KK Q' p0 p1 p2 p3 p4 p7 p10 p11 p12 p13 p14 p15 p16 p17 p18 p19 p20 p21 p22 p23 p24 p25 p26 p27 p28 p29 p30 p31 p32 p33 p34 p35 p36 p37 p38 p39 p40 p41 p42 p43 p44 p45 p46 p47 p48 p49 p50 p51 p52 p53 p54 p55 p56 p57 p58 p59 p60 p61 p62 p63 p64 p65 p66 p67 p68 p69 p70 p71 p72 p73 p74 p75 p76 p77 p78 p79 p80 p81 p82 p83 p84 p85 p86 p87 p88 p89 p90 p91 p92 p93 p94 p95 p96 p97 p98 p99 p100 p101 p102 p103 p104 p105 p106 p107 p108 p109 p110 p111 p112 p113 p114 p115 p116 p117 p118 p119 p120 p121 p122 p123 p124 p125 p126 p127 p128 p129 p130 p131 p132 p133 p134 p135 p136 p137 p138 p139 p140 B D j k xa xn xc xh ya yn yc yh w HSP j0 j9 k0 k9 hxc (decide_eq_true hxc) (by simpa using hk) (fun r32 r33 r34 r35 r36 r37 r38 r39 r40 r41 r42 r43 r44 r45 r46 r47 r48 r49 r50 r51 r52 r53 r54 r55 r56 r57 r58 wz e => hKK true (by rw [decide_eq_true hxc, hk]; rfl) r32 r33 r34 r35 r36 r37 r38 r39 r40 r41 r42 r43 r44 r45 r46 r47 r48 r49 r50 r51 r52 r53 r54 r55 r56 r57 r58 wz (by rw [e]; exact hd))
      · exact r12d KK Q' p0 p1 p2 p3 p4 p7 p10 p11 p12 p13 p14 p15 p16 p17 p18 p19 p20 p21 p22 p23 p24 p25 p26 p27 p28 p29 p30 p31 p32 p33 p34 p35 p36 p37 p38 p39 p40 p41 p42 p43 p44 p45 p46 p47 p48 p49 p50 p51 p52 p53 p54 p55 p56 p57 p58 p59 p60 p61 p62 p63 p64 p65 p66 p67 p68 p69 p70 p71 p72 p73 p74 p75 p76 p77 p78 p79 p80 p81 p82 p83 p84 p85 p86 p87 p88 p89 p90 p91 p92 p93 p94 p95 p96 p97 p98 p99 p100 p101 p102 p103 p104 p105 p106 p107 p108 p109 p110 p111 p112 p113 p114 p115 p116 p117 p118 p119 p120 p121 p122 p123 p124 p125 p126 p127 p128 p129 p130 p131 p132 p133 p134 p135 p136 p137 p138 p139 p140 B D j k xa xn xc xh ya yn yc yh w HSP j0 j9 k0 k9 hxc (decide_eq_true hxc) (by simpa using hk) (fun r32 r33 r34 r35 r36 r37 r38 r39 r40 r41 r42 r43 r44 r45 r46 r47 r48 r49 r50 r51 r52 r53 r54 r55 r56 r57 r58 wz e => hKK _ (by rw [decide_eq_true hxc, show (k == 0) = false by simpa using hk]; simp) r32 r33 r34 r35 r36 r37 r38 r39 r40 r41 r42 r43 r44 r45 r46 r47 r48 r49 r50 r51 r52 r53 r54 r55 r56 r57 r58 wz e)
    · exact r12b KK Q' p0 p1 p2 p3 p4 p7 p10 p11 p12 p13 p14 p15 p16 p17 p18 p19 p20 p21 p22 p23 p24 p25 p26 p27 p28 p29 p30 p31 p32 p33 p34 p35 p36 p37 p38 p39 p40 p41 p42 p43 p44 p45 p46 p47 p48 p49 p50 p51 p52 p53 p54 p55 p56 p57 p58 p59 p60 p61 p62 p63 p64 p65 p66 p67 p68 p69 p70 p71 p72 p73 p74 p75 p76 p77 p78 p79 p80 p81 p82 p83 p84 p85 p86 p87 p88 p89 p90 p91 p92 p93 p94 p95 p96 p97 p98 p99 p100 p101 p102 p103 p104 p105 p106 p107 p108 p109 p110 p111 p112 p113 p114 p115 p116 p117 p118 p119 p120 p121 p122 p123 p124 p125 p126 p127 p128 p129 p130 p131 p132 p133 p134 p135 p136 p137 p138 p139 p140 B D j k xa xn xc xh ya yn yc yh w HSP j0 j9 k0 k9 (decide_eq_false hxc) (fun r32 r33 r34 r35 r36 r37 r38 r39 r40 r41 r42 r43 r44 r45 r46 r47 r48 r49 r50 r51 r52 r53 r54 r55 r56 r57 r58 wz e => hKK false (by rw [decide_eq_false hxc]; rfl) r32 r33 r34 r35 r36 r37 r38 r39 r40 r41 r42 r43 r44 r45 r46 r47 r48 r49 r50 r51 r52 r53 r54 r55 r56 r57 r58 wz (by rw [e]; exact hd))
  · exact r12a KK Q' p0 p1 p2 p3 p4 p7 p10 p11 p12 p13 p14 p15 p16 p17 p18 p19 p20 p21 p22 p23 p24 p25 p26 p27 p28 p29 p30 p31 p32 p33 p34 p35 p36 p37 p38 p39 p40 p41 p42 p43 p44 p45 p46 p47 p48 p49 p50 p51 p52 p53 p54 p55 p56 p57 p58 p59 p60 p61 p62 p63 p64 p65 p66 p67 p68 p69 p70 p71 p72 p73 p74 p75 p76 p77 p78 p79 p80 p81 p82 p83 p84 p85 p86 p87 p88 p89 p90 p91 p92 p93 p94 p95 p96 p97 p98 p99 p100 p101 p102 p103 p104 p105 p106 p107 p108 p109 p110 p111 p112 p113 p114 p115 p116 p117 p118 p119 p120 p121 p122 p123 p124 p125 p126 p127 p128 p129 p130 p131 p132 p133 p134 p135 p136 p137 p138 p139 p140 B D j k xa xn xc xh ya yn yc yh w HSP j0 j9 k0 k9 (fun r32 r33 r34 r35 r36 r37 r38 r39 r40 r41 r42 r43 r44 r45 r46 r47 r48 r49 r50 r51 r52 r53 r54 r55 r56 r57 r58 wz e => hKK false rfl r32 r33 r34 r35 r36 r37 r38 r39 r40 r41 r42 r43 r44 r45 r46 r47 r48 r49 r50 r51 r52 r53 r54 r55 r56 r57 r58 wz (by rw [e]; exact hd))
set_option maxHeartbeats 8000000 in
theorem r25 (KK : Act → World → Prop) (Q' : Exit → Act → World → Prop) (p0 p1 p2 p3 p4 p7 p8 p9 p10 p13 p14 p15 p16 p17 p18 p19 p20 p21 p22 p23 p24 p25 p26 p27 p28 p29 p30 p31 p32 p33 p34 p35 p36 p37 p38 p39 p40 p41 p42 p43 p44 p45 p46 p47 p48 p49 p50 p51 p52 p53 p54 p55 p56 p57 p58 p59 p60 p61 p62 p63 p64 p65 p66 p67 p68 p69 p70 p71 p72 p73 p74 p75 p76 p77 p78 p79 p80 p81 p82 p83 p84 p85 p86 p87 p88 p89 p90 p91 p92 p93 p94 p95 p96 p97 p98 p99 p100 p101 p102 p103 p104 p105 p106 p107 p108 p109 p110 p111 p112 p113 p114 p115 p116 p117 p118 p119 p120 p121 p122 p123 p124 p125 p126 p127 p128 p129 p130 p131 p132 p133 p134 p135 p136 p137 p138 p139 p140 : Value) (B D t X : Nat) (dj : Bool) (x y : R) (w : World)
    (HSQ : Hid (sQ w B D t X dj x y)) (t0 : (0 : Int) ≤ (t : Int)) (t9 : (t : Int) < 9)
    (hKK : ∀ (c : Bool), c = (!dj && (decide (y.co < 0) || btB x y)) → ∀ (r116 r117 r118 r119 r120 r121 r122 r123 r124 r125 r126 r127 r128 r129 r130 r131 r132 r133 r134 r135 : Value) (wz : World), Below w.heap.size w wz → KK ⟨#[p0, p1, p2, p3, p4, .slice (some ⟨B, 0, none⟩) 9 9, .slice (some ⟨D, 0, none⟩) 9 9, p7, p8, p9, p10, .int .i64 (t : Int), .pointer (some ⟨X, 0, none⟩), p13, p14, p15, p16, p17, p18, p19, p20, p21, p22, p23, p24, p25, p26, p27, p28, p29, p30, p31, p32, p33, p34, p35, p36, p37, p38, p39, p40, p41, p42, p43, p44, p45, p46, p47, p48, p49, p50, p51, p52, p53, p54, p55, p56, p57, p58, p59, p60, p61, p62, p63, p64, p65, p66, p67, p68, p69, p70, p71, p72, p73, p74, p75, p76, p77, p78, p79, p80, p81, p82, p83, p84, p85, p86, p87, p88, p89, p90, p91, p92, p93, p94, p95, p96, p97, p98, p99, p100, p101, p102, p103, p104, p105, p106, p107, p108, p109, p110, p111, p112, p113, p114, p115, r116, r117, r118, r119, r120, r121, r122, r123, r124, r125, r126, r127, r128, r129, r130, r131, r132, r133, r134, r135, .bool c, p137, p138, p139, p140], []⟩ wz) :
    Code.wp Tryz.prog (reg 25) (Exit.then KK Q') ⟨#[p0, p1, p2, p3, p4, .slice (some ⟨B, 0, none⟩) 9 9, .slice (some ⟨D, 0, none⟩) 9 9, p7, p8, p9, p10, .int .i64 (t : Int), .pointer (some ⟨X, 0, none⟩), p13, p14, p15, p16, p17, p18, p19, p20, p21, p22, p23, p24, p25, p26, p27, p28, p29, p30, p31, p32, p33, p34, p35, p36, p37, p38, p39, p40, p41, p42, p43, p44, p45, p46, p47, p48, p49, p50, p51, p52, p53, p54, p55, p56, p57, p58, p59, p60, p61, p62, p63, p64, p65, p66, p67, p68, p69, p70, p71, p72, p73, p74, p75, p76, p77, p78, p79, p80, p81, p82, p83, p84, p85, p86, p87, p88, p89, p90, p91, p92, p93, p94, p95, p96, p97, p98, p99, p100, p101, p102, p103, p104, p105, p106, p107, p108, p109, p110, p111, p112, p113, p114, p115, p116, p117, p118, p119, p120, p121, p122, p123, p124, p125, p126, p127, p128, p129, p130, p131, p132, p133, p134, p135, p136, p137, p138, p139, p140], []⟩ w := by
  have hd : Below w.heap.size w w.drew := (Below.refl _ _).drew
  obtain ⟨xa, xn, xc, xh⟩ := x
  obtain ⟨ya, yn, yc, yh⟩ := y
  dsimp only at hKK
  cases dj
  · by_cases hyc : yc < 0
    · exact r25b KK Q' p0 p1 p2 p3 p4 p7 p8 p9 p10 p13 p14 p15 p16 p17 p18 p19 p20 p21 p22 p23 p24 p25 p26 p27 p28 p29 p30 p31 p32 p33 p34 p35 p36 p37 p38 p39 p40 p41 p42 p43 p44 p45 p46 p47 p48 p49 p50 p51 p52 p53 p54 p55 p56 p57 p58 p59 p60 p61 p62 p63 p64 p65 p66 p67 p68 p69 p70 p71 p72 p73 p74 p75 p76 p77 p78 p79 p80 p81 p82 p83 p84 p85 p86 p87 p88 p89 p90 p91 p92 p93 p94 p95 p96 p97 p98 p99 p100 p101 p102 p103 p104 p105 p106 p107 p108 p109 p110 p111 p112 p113 p114 p115 p116 p117 p118 p119 p120 p121 p122 p123 p124 p125 p126 p127 p128 p129 p130 p131 p132 p133 p134 p135 p136 p137 p138 p139 p140 B D t X xa xn xc xh ya yn yc yh w HSQ t0 t9 hyc (decide_eq_true hyc) (fun r116 r117 r118 r119 r120 r121 r122 r123 r124 r125 r126 r127 r128 r129 r130 r131 r132 r133 r134 r135 wz e => hKK true (by rw [decide_eq_true hyc]; rfl) r116 r117 r118 r119 r120 r121 r122 r123 r124 r125 r126 r127 r128 r129 r130 r131 r132 r133 r134 r135 wz (by rw [e]; exact hd))
    · exact r25c KK Q' p0 p1 p2 p3 p4 p7 p8 p9 p10 p13 p14 p15 p16 p17 p18 p19 p20 p21 p22 p23 p24 p25 p26 p27 p28 p29 p30 p31 p32 p33 p34 p35 p36 p37 p38 p39 p40 p41 p42 p43 p44 p45 p46 p47 p48 p49 p50 p51 p52 p53 p54 p55 p56 p57 p58 p59 p60 p61 p62 p63 p64 p65 p66 p67 p68 p69 p70 p71 p72 p73 p74 p75 p76 p77 p78 p79 p80 p81 p82 p83 p84 p85 p86 p87 p88 p89 p90 p91 p92 p93 p94 p95 p96 p97 p98 p99 p100 p101 p102 p103 p104 p105 p106 p107 p108 p109 p110 p111 p112 p113 p114 p115 p116 p117 p118 p119 p120 p121 p122 p123 p124 p125 p126 p127 p128 p129 p130 p131 p132 p133 p134 p135 p136 p137 p138 p139 p140 B D t X xa xn xc xh ya yn yc yh w HSQ t0 t9 (decide_eq_false hyc) (fun r116 r117 r118 r119 r120 r121 r122 r123 r124 r125 r126 r127 r128 r129 r130 r131 r132 r133 r134 r135 wz e => hKK _ (by rw [decide_eq_false hyc]; simp) r116 r117 r118 r119 r120 r121 r122 r123 r124 r125 r126 r127 r128 r129 r130 r131 r132 r133 r134 r135 wz e)
  · exact r25a KK Q' p0 p1 p2 p3 p4 p7 p8 p9 p10 p13 p14 p15 p16 p17 p18 p19 p20 p21 p22 p23 p24 p25 p26 p27 p28 p29 p30 p31 p32 p33 p34 p35 p36 p37 p38 p39 p40 p41 p42 p43 p44 p45 p46 p47 p48 p49 p50 p51 p52 p53 p54 p55 p56 p57 p58 p59 p60 p61 p62 p63 p64 p65 p66 p67 p68 p69 p70 p71 p72 p73 p74 p75 p76 p77 p78 p79 p80 p81 p82 p83 p84 p85 p86 p87 p88 p89 p90 p91 p92 p93 p94 p95 p96 p97 p98 p99 p100 p101 p102 p103 p104 p105 p106 p107 p108 p109 p110 p111 p112 p113 p114 p115 p116 p117 p118 p119 p120 p121 p122 p123 p124 p125 p126 p127 p128 p129 p130 p131 p132 p133 p134 p135 p136 p137 p138 p139 p140 B D t X xa xn xc xh ya yn yc yh w HSQ t0 t9 (fun r116 r117 r118 r119 r120 r121 r122 r123 r124 r125 r126 r127 r128 r129 r130 r131 r132 r133 r134 r135 wz e => hKK false rfl r116 r117 r118 r119 r120 r121 r122 r123 r124 r125 r126 r127 r128 r129 r130 r131 r132 r133 r134 r135 wz (by rw [e]; exact hd))
def sK (w : World) (B k ga o : Nat) (bd bn bc bh val : Int) : Prop := At w B (k * 4) ⟨bd, bn, bc, bh⟩ ∧ w.cell? ⟨ga, o, none⟩ = some (.int .i64 val)
theorem sKc {w : World} {B k ga o : Nat} {bd bn bc bh val : Int} (h : sK w B k ga o bd bn bc bh val) : sK w B k ga o bd bn bc bh val ∧ w.cell? ⟨B, k * 4, none⟩ = some (.int .i64 bd) ∧ w.cell? ⟨B, k * 4 + 1, none⟩ = some (.int .i64 bn) ∧ w.cell? ⟨B, k * 4 + 2, none⟩ = some (.int .i64 bc) ∧ w.cell? ⟨B, k * 4 + 3, none⟩ = some (.int .i64 bh) ∧ w.cell? ⟨ga, o, none⟩ = some (.int .i64 val) := ⟨h, h.1.1, h.1.2.1, h.1.2.2.1, h.1.2.2.2, h.2⟩
theorem sK.below {w w' : World} {B k ga o : Nat} {bd bn bc bh val : Int} (h : sK w B k ga o bd bn bc bh val) (hb : Below w.heap.size w w') : sK w' B k ga o bd bn bc bh val := ⟨h.1.below hb, (hb.cell (p := ⟨ga, o, none⟩) (World.block_lt_of_cell? _ _ h.2)).trans h.2⟩
set_option maxHeartbeats 8000000 in
theorem r22 (KK : Act → World → Prop) (Q' : Exit → Act → World → Prop) (p1 p2 p3 p4 p6 p7 p9 p12 p13 p14 p15 p16 p17 p18 p19 p20 p21 p22 p23 p24 p25 p26 p27 p28 p29 p30 p31 p32 p33 p34 p35 p36 p37 p38 p39 p40 p41 p42 p43 p44 p45 p46 p47 p48 p49 p50 p51 p52 p53 p54 p55 p56 p57 p58 p59 p60 p61 p62 p63 p64 p65 p66 p67 p68 p69 p70 p71 p72 p73 p74 p75 p76 p77 p78 p79 p80 p81 p82 p83 p84 p85 p86 p87 p88 p89 p90 p91 p92 p93 p94 p95 p96 p97 p98 p99 p100 p101 p102 p103 p104 p105 p106 p107 p108 p109 p110 p111 p112 p113 p114 p115 p116 p117 p118 p119 p120 p121 p122 p123 p124 p125 p126 p127 p128 p129 p130 p131 p132 p133 p134 p135 p136 p137 p138 p139 p140 : Value) (ga off n cap B k i : Nat) (ti bd bn bc bh val : Int) (w : World)
    (HK : Hid (At w B (k * 4) ⟨bd, bn, bc, bh⟩)) (c2 : w.cell? ⟨ga, off + i * 3 + 2, none⟩ = some (.int .i64 val))
    (k0 : (0 : Int) ≤ (k : Int)) (k9 : (k : Int) < 9) (i0 : (0 : Int) ≤ (i : Int)) (hin : (i : Int) < (n : Int)) (h0 : 0 ≤ bc) (h1 : 0 ≤ val) (h2 : bc + val ≤ 9223372036854775807) (h3 : 0 ≤ bh) (h4 : bh ≤ 9)
    (hKK : ∀ (r87 r88 r89 r90 r91 r92 r93 r94 r95 r96 r97 r98 r99 r100 r101 r102 r103 r104 r105 r106 r107 r108 r109 r110 : Value) (wz : World), wz = (w.alloc (.cells #[.int .i64 ti, .int .i64 bn, .int .i64 (bc + val), .int .i64 (bh + 1)] 87)).drew → KK ⟨#[.slice (some ⟨ga, off, none⟩) n cap, p1, p2, p3, p4, .slice (some ⟨B, 0, none⟩) 9 9, p6, p7, .int .i64 (k : Int), p9, .int .i64 (i : Int), .int .i64 ti, .pointer (some ⟨w.heap.size, 0, none⟩), p13, p14, p15, p16, p17, p18, p19, p20, p21, p22, p23, p24, p25, p26, p27, p28, p29, p30, p31, p32, p33, p34, p35, p36, p37, p38, p39, p40, p41, p42, p43, p44, p45, p46, p47, p48, p49, p50, p51, p52, p53, p54, p55, p56, p57, p58, p59, p60, p61, p62, p63, p64, p65, p66, p67, p68, p69, p70, p71, p72, p73, p74, p75, p76, p77, p78, p79, p80, p81, p82, p83, p84, p85, p86, r87, r88, r89, r90, r91, r92, r93, r94, r95, r96, r97, r98, r99, r100, r101, r102, r103, r104, r105, r106, r107, r108, r109, r110, p111, p112, p113, p114, p115, p116, p117, p118, p119, p120, p121, p122, p123, p124, p125, p126, p127, p128, p129, p130, p131, p132, p133, p134, p135, p136, p137, p138, p139, p140], []⟩ wz) :
    Code.wp Tryz.prog (reg 22) (Exit.then KK Q') ⟨#[.slice (some ⟨ga, off, none⟩) n cap, p1, p2, p3, p4, .slice (some ⟨B, 0, none⟩) 9 9, p6, p7, .int .i64 (k : Int), p9, .int .i64 (i : Int), .int .i64 ti, p12, p13, p14, p15, p16, p17, p18, p19, p20, p21, p22, p23, p24, p25, p26, p27, p28, p29, p30, p31, p32, p33, p34, p35, p36, p37, p38, p39, p40, p41, p42, p43, p44, p45, p46, p47, p48, p49, p50, p51, p52, p53, p54, p55, p56, p57, p58, p59, p60, p61, p62, p63, p64, p65, p66, p67, p68, p69, p70, p71, p72, p73, p74, p75, p76, p77, p78, p79, p80, p81, p82, p83, p84, p85, p86, p87, p88, p89, p90, p91, p92, p93, p94, p95, p96, p97, p98, p99, p100, p101, p102, p103, p104, p105, p106, p107, p108, p109, p110, p111, p112, p113, p114, p115, p116, p117, p118, p119, p120, p121, p122, p123, p124, p125, p126, p127, p128, p129, p130, p131, p132, p133, p134, p135, p136, p137, p138, p139, p140], []⟩ w := by
  conv => arg 2; whnf
  have HS : Hid (sK w B k ga (off + i * 3 + 2) bd bn bc bh val) := hide ⟨unhide HK, c2⟩
  clear HK c2
  refine wp_region_noPanic ?_
  refine wp_region_held_drew (S := fun w' => sK w' B k ga (off + i * 3 + 2) bd bn bc bh val ∧ w'.cell? ⟨B, k * 4, none⟩ = some (.int .i64 bd) ∧ w'.cell? ⟨B, k * 4 + 1, none⟩ = some (.int .i64 bn) ∧ w'.cell? ⟨B, k * 4 + 2, none⟩ = some (.int .i64 bc) ∧ w'.cell? ⟨B, k * 4 + 3, none⟩ = some (.int .i64 bh) ∧ w'.cell? ⟨ga, off + i * 3 + 2, none⟩ = some (.int .i64 val)) (by kernel_rfl) (sKc (unhide HS)) (fun hHeld => ?_)
  refine Rg.t 0 87 ?_
  refine Rg.t 1 88 ?_
  refine Rg.t 2 89 ?_
  refine Rg.t 3 90 ?_
  refine Rg.t 4 91 ?_
  refine Rg.t 5 92 ?_
  refine Rg.t 6 93 ?_
  refine Rg.t 7 94 ?_
  refine Rg.t 8 95 ?_
  refine Rg.t 9 96 ?_
  refine Rg.t 10 97 ?_
  refine Rg.t 11 98 ?_
  refine Rg.t 12 99 ?_
  refine Rg.t 13 100 ?_
  refine Rg.t 14 101 ?_
  refine Rg.t 15 102 ?_
  refine Rg.t 16 103 ?_
  refine Rg.t 17 104 ?_
  refine Rg.t 18 105 ?_
  refine Rg.t 19 106 ?_
  refine Rg.t 20 107 ?_
  refine Rg.t 21 108 ?_
  refine Rg.t 22 109 ?_
  refine Rg.t 23 110 ?_
  (refine Rg.o 24 (fun K hK => ?_); go_simp)
  have HS2 := hide ((unhide HS).below (w' := (w.alloc (.cells #[.int .i64 0, .int .i64 0, .int .i64 0, .int .i64 0] 87)).drew) ((Below.refl _ _).alloc (Nat.le_refl _) _).drew)
  clear hHeld
  refine hK.out _ _ (sKc (unhide HS2)) (fun hHeld => ?_)
  clear hK K
  (try simp only [Act.put, List.setIfInBounds_toArray, List.set_cons_zero, List.set_cons_succ])
  (refine Rg.o 25 (fun K hK => ?_); go_simp)
  have HS3 := hide ((unhide HS).below (w' := (w.alloc (.cells #[.int .i64 ti, .int .i64 bn, .int .i64 (bc + val), .int .i64 (bh + 1)] 87)).drew) ((Below.refl _ _).alloc (Nat.le_refl _) _).drew)
  have e1 : IntKind.i64.wrap (bc + val) = bc + val := by rw [IntKind.wrap_i64]; omega
  have e2 : IntKind.i64.wrap (bh + 1) = bh + 1 := by rw [IntKind.wrap_i64]; omega
  rw [e1, e2]
  clear hHeld
  refine hK.out _ _ (sKc (unhide HS3)) (fun hHeld => ?_)
  clear hK K
  (try simp only [Act.put, List.setIfInBounds_toArray, List.set_cons_zero, List.set_cons_succ])
  refine wpAnyH_done (by kernel_rfl) (NoPanic.normal ?_) _
  exact hKK _ _ _ _ _ _ _ _ _ _ _ _ _ _ _ _ _ _ _ _ _ _ _ _ _ rfl
end Wd
end Go.Proofs.YtfooahhdikobeaaGreat
namespace Go.Proofs.YtfooahhdikobeaaGreat
open Go.ChangeShapes Go.WideShapes Go.ChangeAt Go.RowKit
set_option linter.unusedVariables false
set_option linter.unusedSimpArgs false
set_option maxRecDepth 100000
attribute [local go_sem ↓] Go.wp_at_zero Go.wp_at_succ
namespace Wd
open W1 Ro Rw Tw
set_option maxHeartbeats 32000000 in
theorem l11Routes (a : Option Addr) (g : List Tu.R) (cap : Nat) (f : Int) (w : World) (hg : graphB g = true) (hf : 1 ≤ f ∧ f ≤ 8) (hr : Tu.RM w a g) :
    Calls Tryz.prog 64 #[.slice a g.length cap, .int .i64 f] w fun e w' => ∃ b, e = .returned (.slice (some ⟨b, 0, none⟩) 9 9) ∧ Below w.heap.size w w' ∧ w.heap.size ≤ b ∧ BV w' b (mdl g f) ∧ Good g f (best g f) := by
  have HR := hide hr
  have HG := hide hg
  have h62 := two_len (graph_two hg)
  obtain ⟨q, rfl⟩ : ∃ q : Nat, f = (q : Int) := ⟨f.toNat, by omega⟩
  have hq1 : 1 ≤ q := by omega
  have hq8 : q ≤ 8 := by omega
  have q0 : (0 : Int) ≤ (q : Int) := by omega
  have q9 : (q : Int) < 9 := by omega
  have hmB := makeB w
  have hmD := makeD (w.alloc (.cells (flat (bs9 0)).toArray 87))
  rw [World.size_alloc] at hmD
  have HN0 := hide (nin_new w)
  have HB0 : Hid (Below w.heap.size w ((w.alloc (.cells (flat (bs9 0)).toArray 87)).alloc (.cells (fs9.map Value.bool).toArray 4))) := hide (((Below.refl _ _).alloc (Nat.le_refl _) _).alloc (by simp) _)
  clear hr hg hf
  obtain ⟨n, hn⟩ : ∃ n, g.length = n := ⟨_, rfl⟩
  have HN := hide hn
  rw [hn] at h62 ⊢
  clear hn
  go_enter Tryz.func64, Tryz.ntmps64
  go_wp2_with fail
  clear hmB hmD
  generalize hW0 : (w.alloc (.cells (flat (bs9 0)).toArray 87)).alloc (.cells (fs9.map Value.bool).toArray 4) = W0 at *
  clear hW0
  generalize hB : w.heap.size = B at *
  have HBB := hide hB
  clear hB
  generalize hD : B + 1 = D at *
  have hDB : D ≠ B := by omega
  have hDB2 : B < D := by omega
  clear hD
  go_loopw [7] (fun iv wr => ∃ j : Nat, j ≤ 9 ∧ iv = .int .i64 (j : Int) ∧ Hid (Nin wr B D (bs9 j) fs9) ∧ Hid (Below B w wr)) (fun iv _ => 9 - (intOf iv).toNat)
  case atStart => exact ⟨0, by omega, rfl, HN0, HB0⟩
  case round =>
    obtain ⟨j, hj, rfl, hN, hbl⟩ := hrel
    by_cases hlt : (j : Int) ≤ 8
    · have j0 : (0 : Int) ≤ (j : Int) := by omega
      have j9 : (j : Int) < 9 := by omega
      obtain ⟨a0, a1, a2, a3⟩ := (unhide hN).1.at (i := j) (by rw [bs9_len]; omega)
      have g0 := (unhide hN).1.free (j * 4)
      have g1 := (unhide hN).1.free (j * 4 + 1)
      have g2 := (unhide hN).1.free (j * 4 + 2)
      have g3 := (unhide hN).1.free (j * 4 + 3)
      have HN2 : Hid (Nin (put wr B (j * 4) (nul j)) B D (bs9 (j + 1)) fs9) := hide ⟨by rw [← bs9_step (by omega)]; exact (unhide hN).1.put (by rw [bs9_len]; omega) (nul j), (put_other hDB).trans (unhide hN).2⟩
      have HB2 := hide (put_below (g := B) (o := j * 4) (m := nul j) (unhide hbl) (Nat.le_refl _))
      have HPW : Hid (put wr B (j * 4) (nul j) = ((((wr.setCell ⟨B, j * 4, none⟩ (.int .i64 (j : Int))).setCell ⟨B, j * 4 + 1, none⟩ (.int .i64 0)).setCell ⟨B, j * 4 + 2, none⟩ (.int .i64 (-1))).setCell ⟨B, j * 4 + 3, none⟩ (.int .i64 0))) := hide rfl
      rw [unhide HPW] at HN2 HB2
      clear HPW
      go_wp2_with fail
      go_roundw
      case rel => exact ⟨j + 1, by omega, by go_num, HN2, HB2⟩
      case measure => simp [intOf]; omega
    · obtain rfl : j = 9 := by omega
      obtain ⟨a0, a1, a2, a3⟩ := (unhide hN).1.at (i := q) (by rw [bs9_len]; omega)
      have g2 := (unhide hN).1.free (q * 4 + 2)
      have HN2 : Hid (Nin (wr.setCell ⟨B, q * 4 + 2, none⟩ (.int .i64 0)) B D (bsF q) fs9) := hide ⟨by rw [← bsF_set (by omega)]; exact (unhide hN).1.co (by rw [bs9_len]; omega) 0, (Below.heap_setCell _ _ _ _ hDB).trans (unhide hN).2⟩
      have HB2 : Hid (Below B w (wr.setCell ⟨B, q * 4 + 2, none⟩ (.int .i64 0))) := hide ((unhide hbl).setCell (p := ⟨B, q * 4 + 2, none⟩) (Nat.le_refl _) _)
      have HST : Hid (StM g (q : Int) (bsF q) fs9) := hide (stm_start ⟨hq1, hq8⟩)
      have HKX : Hid (8 - cntW (WM (bsF q) fs9) ≤ 8) := hide (by omega)
      go_wp2_with fail
      clear a0 a1 a2 a3 g2
      go_loopg [] 8 (fun kx wr => ∃ (bs : List R) (ds : List Bool), Hid (Nin wr B D bs ds) ∧ Hid (StM g (q : Int) bs ds) ∧ Hid (Below B w wr) ∧ Hid (8 - cntW (WM bs ds) ≤ kx))
      case atStart => exact ⟨bsF q, fs9, HN2, HST, HB2, HKX⟩
      case round =>
        obtain ⟨bs, ds, hN, hST, hbl, hkx⟩ := hrel
        have HL9 := hide (unhide hST).len
        have HD9 := hide (unhide hST).len'
        go_wp2_with fail
        go_loopw [8, 9] (fun kv jv wr => ∃ j : Nat, 1 ≤ j ∧ j ≤ 9 ∧ jv = .int .i64 (j : Int) ∧ kv = .int .i64 (pk bs ds (j - 1) : Int) ∧ Hid (Nin wr B D bs ds) ∧ Hid (Below B w wr)) (fun _ jv _ => 9 - (intOf jv).toNat)
        case atStart => exact ⟨1, by omega, by omega, rfl, rfl, hN, hbl⟩
        case round =>
          rename World => wo
          obtain ⟨j, hj1, hj9, rfl, rfl, hN, hbl⟩ := hrel
          by_cases hlt : (j : Int) ≤ 8
          · have j0 : (0 : Int) ≤ (j : Int) := by omega
            have j9 : (j : Int) < 9 := by omega
            have hpl := pk_le bs ds (j - 1)
            have HPK : Hid (pk bs ds j = if canB bs ds (pk bs ds (j - 1)) j = true then j else pk bs ds (j - 1)) := hide (by
              obtain ⟨t, rfl⟩ : ∃ t, j = t + 1 := ⟨j - 1, by omega⟩
              rw [Nat.add_sub_cancel]; rfl)
            unfold canB at HPK
            generalize pk bs ds (j - 1) = k at *
            have k0 : (0 : Int) ≤ (k : Int) := by omega
            have k9 : (k : Int) < 9 := by omega
            have HSP := hide (sP_of (unhide hN) (unhide HL9) (unhide HD9) (j := j) (k := k) (by omega) (by omega))
            generalize dn ds j = dj at *
            generalize at' bs j = X at *
            generalize at' bs k = Y at *
            go_upto_region 12 with fail
            refine r12 _ _ _ _ _ _ _ _ _ _ _ _ _ _ _ _ _ _ _ _ _ _ _ _ _ _ _ _ _ _ _ _ _ _ _ _ _ _ _ _ _ _ _ _ _ _ _ _ _ _ _ _ _ _ _ _ _ _ _ _ _ _ _ _ _ _ _ _ _ _ _ _ _ _ _ _ _ _ _ _ _ _ _ _ _ _ _ _ _ _ _ _ _ _ _ _ _ _ _ _ _ _ _ _ _ _ _ _ _ _ _ _ _ _ _ _ _ _ _ _ _ _ _ _ _ _ _ _ _ _ _ _ _ _ _ _ _ _ _ B D j k dj X Y _ HSP j0 j9 k0 k9 ?_
            intro c hc r32 r33 r34 r35 r36 r37 r38 r39 r40 r41 r42 r43 r44 r45 r46 r47 r48 r49 r50 r51 r52 r53 r54 r55 r56 r57 r58 wz bz
            have HN5 := hide ((unhide hN).below bz)
            have HB5 := hide ((unhide hbl).trans (bz.mono (Nat.le_of_lt (unhide hN).1.lt)))
            have HPC : Hid (pk bs ds j = if c = true then j else k) := hide (by rw [hc]; exact unhide HPK)
            clear hc HPK bz HSP hN hbl
            cases c
            · have HPY : Hid (pk bs ds j = k) := hide (by rw [unhide HPC]; rfl)
              go_wp2_with fail
              go_roundw
              case rel => exact ⟨j + 1, by omega, by omega, by go_num, by rw [Nat.add_sub_cancel, unhide HPY], HN5, HB5⟩
              case measure => simp [intOf]; omega
            · have HPY : Hid (pk bs ds j = j) := hide (by rw [unhide HPC]; rfl)
              go_wp2_with fail
              go_roundw
              case rel => exact ⟨j + 1, by omega, by omega, by go_num, by rw [Nat.add_sub_cancel, unhide HPY], HN5, HB5⟩
              case measure => simp [intOf]; omega
          · obtain rfl : j = 9 := by omega
            by_cases hk0 : pk bs ds (9 - 1) = 0
            · have hd := stm_done (unhide HG) (unhide hST) hk0
              have hbs : bs = mdl g (q : Int) := hd.1
              have HGD := hide hd.2
              have HBV : Hid (BV wo B (mdl g (q : Int))) := hide (by rw [← hbs]; exact (unhide hN).1)
              have hk' : ((pk bs ds (9 - 1) : Int) == 0) = true := by rw [hk0]; rfl
              clear hd hbs
              generalize pk bs ds (9 - 1) = k at *
              go_wp2_with fail
              go_ret
              exact ⟨_, rfl, by rw [unhide HBB]; exact unhide hbl, by rw [unhide HBB]; exact Nat.le_refl _, unhide HBV, unhide HGD⟩
            · have hpk := stm_pick (unhide hST) hk0
              obtain ⟨k, hk⟩ : ∃ k, pk bs ds (9 - 1) = k := ⟨_, rfl⟩
              have hstep := stm_step (unhide HG) (unhide hST) hk (by rw [← hk]; exact hk0)
              rw [show pk bs ds 8 = k from hk] at hpk
              rw [hk] at hk0 ⊢
              obtain ⟨hk8, hdk, _, hok, hhq⟩ := hpk
              have HSTP := hide hstep
              have hk' : ((k : Int) == 0) = false := by simpa using hk0
              have k0 : (0 : Int) ≤ (k : Int) := by omega
              have k9 : (k : Int) < 9 := by omega
              have d0 := (unhide hN).2.at (i := k) (by rw [unhide HD9]; omega)
              have f0 := (unhide hN).2.free k
              obtain ⟨ds2, hds2⟩ : ∃ ds2, ds.set k true = ds2 := ⟨_, rfl⟩
              have HN2 : Hid (Nin (wo.setCell ⟨D, k, none⟩ (.bool true)) B D bs ds2) := hide ⟨(Below.heap_setCell _ _ _ _ (show B ≠ D by omega)).trans (unhide hN).1, by rw [← hds2]; exact (unhide hN).2.set k true⟩
              have HB2 : Hid (Below B w (wo.setCell ⟨D, k, none⟩ (.bool true))) := hide ((unhide hbl).setCell (p := ⟨D, k, none⟩) (show B ≤ D by omega) _)
              have HDK : Hid (dn ds2 k = true) := hide (by rw [← hds2, dn_set (by rw [unhide HD9]; omega), if_pos rfl])
              have HDL : Hid (ds2.length = 9) := hide (by rw [← hds2, List.length_set]; exact unhide HD9)
              have hbd : (at' bs k).ds = (k : Int) := (unhide hST).tag k hk8.2
              rw [hds2] at HSTP
              have HRI : Hid (∀ i, i ≤ g.length → RlI g (at' bs k) ds2 bs (rl g (at' bs k) ds2 bs i) i) := hide (fun i hi => rl_inv (unhide HG) (by unfold okN at hok; omega) (unhide HL9) i hi)
              have HBK : Hid (∀ i, i ≤ g.length → at' (rl g (at' bs k) ds2 bs i) k = at' bs k) := hide (fun i hi => by
                rcases (unhide HRI i hi).keep k hk8.2 with e | ⟨_, e, _⟩
                · exact e
                · rw [unhide HDK] at e; cases e)
              have HRS : Hid (∀ i, rl g (at' bs k) ds2 bs (i + 1) = rl1 (at' bs k) ds2 (rl g (at' bs k) ds2 bs i) (g.getD i Tu.R.zero)) := hide (fun i => rfl)
              have HR0 : Hid (Nin (wo.setCell ⟨D, k, none⟩ (.bool true)) B D (rl g (at' bs k) ds2 bs 0) ds2) := HN2
              have HRM : Hid (∀ W, Below B w W → Tu.RM W a g) := hide (fun W h => (unhide HR).below (by rw [unhide HBB]; exact h))
              clear hds2 hdk hk hk0 hstep hN hbl HN2
              generalize dn ds k = dk at *
              generalize at' bs k = b at *
              obtain ⟨bd, bn, bc, bh⟩ := b
              unfold okN at hok
              dsimp only at hok hhq hbd
              subst hbd
              go_wp2_with fail
              clear d0 f0
              generalize hW2 : wo.setCell ⟨D, k, none⟩ (.bool true) = W2 at *
              clear hW2
              go_loopw [10] (fun iv wr => ∃ i : Nat, i ≤ n ∧ iv = .int .i64 (i : Int) ∧ Hid (Nin wr B D (rl g ⟨(k : Int), bn, bc, bh⟩ ds2 bs i) ds2) ∧ Hid (Below B w wr)) (fun iv _ => n - (intOf iv).toNat)
              case atStart => exact ⟨0, by omega, rfl, HR0, HB2⟩
              case round =>
                obtain ⟨i, hi, rfl, hN, hbl⟩ := hrel
                by_cases hlt : (i : Int) < (n : Int)
                · have i0 : (0 : Int) ≤ (i : Int) := by omega
                  have hlen : i < g.length := by rw [unhide HN]; omega
                  have HRr := hide (unhide HRM _ (unhide hbl))
                  obtain ⟨ga, off, rfl⟩ := (unhide HRr).form (by omega)
                  have hA := (unhide HRr).at hlen
                  have hbd := St.ok_bounds (St.setB_ok (two_set (graph_two (unhide HG))) hlen)
                  have hbk := ok_k (two_ok (graph_two (unhide HG)) _ (Tu.getD_mem hlen))
                  have HRX := hide (unhide HRS i)
                  have HKB := hide (unhide HBK i (by omega))
                  have HLB := hide (unhide HRI i (by omega)).len
                  unfold rl1 at HRX
                  unfold hv ha at hbk HRX
                  generalize g.getD i Tu.R.zero = m at *
                  obtain ⟨key, til, val⟩ := m
                  dsimp only at hbd hbk HRX
                  rw [Int.tdiv_eq_ediv_of_nonneg hbd.1, Int.tmod_eq_emod_of_nonneg hbd.1] at hbk HRX
                  obtain ⟨c0, c1, c2⟩ := hA
                  dsimp only at c0 c1 c2
                  have hsl := (unhide hN).1.lt
                  generalize rl g ⟨(k : Int), bn, bc, bh⟩ ds2 bs i = Bi at *
                  generalize hrn : rl g ⟨(k : Int), bn, bc, bh⟩ ds2 bs (i + 1) = Bn at *
                  have HBN := hide hrn
                  clear hrn
                  by_cases hhk : key / 100 = (k : Int)
                  · have hh' : (key / 100 != (k : Int)) = false := by simpa using hhk
                    obtain ⟨t, ht⟩ : ∃ t : Nat, key % 100 = (t : Int) := ⟨(key % 100).toNat, by omega⟩
                    have ht8 : 1 ≤ t ∧ t ≤ 8 := by omega
                    have t0 : (0 : Int) ≤ (t : Int) := by omega
                    have t9 : (t : Int) < 9 := by omega
                    have HRX2 : Hid (Bn = if betB Bi ds2 (ext ⟨(k : Int), bn, bc, bh⟩ (t : Int) val) t = true then Bi.set t (ext ⟨(k : Int), bn, bc, bh⟩ (t : Int) val) else Bi) := hide (by
                      rw [unhide HRX, ht, Int.toNat_natCast]
                      simp only [hhk, true_and])
                    unfold betB at HRX2
                    have hbc : bc + val ≤ 9223372036854775807 := by omega
                    have HSP := hide (sP_of (unhide hN) (unhide HLB) (unhide HDL) (j := t) (k := k) (by omega) (by omega))
                    rw [unhide HKB] at HSP
                    have HTA := hide ht
                    clear HRX hhk
                    go_upto_region 22 with fail
                    refine r22 _ _ _ _ _ _ _ _ _ _ _ _ _ _ _ _ _ _ _ _ _ _ _ _ _ _ _ _ _ _ _ _ _ _ _ _ _ _ _ _ _ _ _ _ _ _ _ _ _ _ _ _ _ _ _ _ _ _ _ _ _ _ _ _ _ _ _ _ _ _ _ _ _ _ _ _ _ _ _ _ _ _ _ _ _ _ _ _ _ _ _ _ _ _ _ _ _ _ _ _ _ _ _ _ _ _ _ _ _ _ _ _ _ _ _ _ _ _ _ _ _ _ _ _ _ _ _ _ _ _ _ _ _ _ _ _ _ _ ga off n cap B k i (key % 100) (k : Int) bn bc bh val _ (hide (unhide HSP).2.2) c2 k0 k9 i0 hlt (by omega) (by omega) hbc (by omega) (by omega) ?_
                    intro r87 r88 r89 r90 r91 r92 r93 r94 r95 r96 r97 r98 r99 r100 r101 r102 r103 r104 r105 r106 r107 r108 r109 r110 wz hwz
                    subst hwz
                    rw [ht]
                    by_cases hkq : (k : Int) = (q : Int)
                    · have hkq' : ((k : Int) == (q : Int)) = true := by simpa using hkq
                      have HB00 : Hid (bh = 0) := hide (hhq.2 hkq)
                      have HEX : Hid (ext ⟨(k : Int), bn, bc, bh⟩ (t : Int) val = ⟨(t : Int), (t : Int), bc + val, bh + 1⟩) := hide (by unfold ext; dsimp only; rw [if_pos (unhide HB00)])
                      clear hkq hhq
                      have b1 : Below wr.heap.size wr (wr.alloc (.cells #[.int .i64 (t : Int), .int .i64 (t : Int), .int .i64 (bc + val), .int .i64 (bh + 1)] 87)).drew := ((Below.refl _ _).alloc (Nat.le_refl _) _).drew
                      have HN1 := hide ((unhide hN).below b1)
                      have HB1 := hide ((unhide hbl).trans (b1.mono (Nat.le_of_lt hsl)))
                      have HX1 : Hid (Bx (wr.alloc (.cells #[.int .i64 (t : Int), .int .i64 (t : Int), .int .i64 (bc + val), .int .i64 (bh + 1)] 87)).drew wr.heap.size ⟨(t : Int), (t : Int), bc + val, bh + 1⟩) := hide (bx_new wr ⟨(t : Int), (t : Int), bc + val, bh + 1⟩ 87).drew
                      have hXB : wr.heap.size ≠ B := by omega
                      have hXD : wr.heap.size ≠ D := by have := (unhide hN).2.lt; omega
                      go_upto_region 25 with fail
                      clear b1 c0 c1 c2 hN hbl ht HRr
                      generalize hW1 : (wr.alloc (.cells #[.int .i64 (t : Int), .int .i64 (t : Int), .int .i64 (bc + val), .int .i64 (bh + 1)] 87)).drew = W1 at *
                      clear hW1
                      generalize hX : wr.heap.size = X at *
                      clear hX
                      have HSQ := hide (sQ_of (unhide HN1) (unhide HLB) (unhide HDL) (j := t) (by omega) (unhide HX1))
                      have HFB : Hid (Bn = if (!dn ds2 t && (decide ((at' Bi t).co < 0) || btB (⟨(t : Int), (t : Int), bc + val, bh + 1⟩ : R) (at' Bi t))) = true then Bi.set t ⟨(t : Int), (t : Int), bc + val, bh + 1⟩ else Bi) := hide (by rw [unhide HRX2, unhide HEX])
                      clear HRX2 HSP
                      generalize hdj : dn ds2 t = dj at *
                      generalize hYY : at' Bi t = Y at *
                      clear hdj hYY
                      clear hbc
                      generalize hXC : bc + val = xc at *
                      generalize hXH : bh + 1 = xh at *
                      clear hXC hXH
                      have HN9 : Hid (∀ W, Nin W B D Bn ds2 → Nin W B D (rl g ⟨(k : Int), bn, bc, bh⟩ ds2 bs (i + 1)) ds2) := hide (fun W h => by rw [unhide HBN]; exact h)
                      refine r25 _ _ _ _ _ _ _ _ _ _ _ _ _ _ _ _ _ _ _ _ _ _ _ _ _ _ _ _ _ _ _ _ _ _ _ _ _ _ _ _ _ _ _ _ _ _ _ _ _ _ _ _ _ _ _ _ _ _ _ _ _ _ _ _ _ _ _ _ _ _ _ _ _ _ _ _ _ _ _ _ _ _ _ _ _ _ _ _ _ _ _ _ _ _ _ _ _ _ _ _ _ _ _ _ _ _ _ _ _ _ _ _ _ _ _ _ _ _ _ _ _ _ _ _ _ _ _ _ _ _ _ _ _ _ _ _ _ _ _ B D t X dj ⟨(t : Int), (t : Int), xc, xh⟩ Y _ HSQ t0 t9 ?_
                      intro c hc r116 r117 r118 r119 r120 r121 r122 r123 r124 r125 r126 r127 r128 r129 r130 r131 r132 r133 r134 r135 W3 bz
                      have HFC : Hid (Bn = if c = true then Bi.set t ⟨(t : Int), (t : Int), xc, xh⟩ else Bi) := hide (by rw [hc]; exact unhide HFB)
                      have HN3 := hide ((unhide HN1).below bz)
                      have HX3 := hide ((unhide HX1).below bz)
                      have HB3 := hide ((unhide HB1).trans (bz.mono (Nat.le_of_lt (unhide HN1).1.lt)))
                      clear bz hc HSQ HFB HN1 HX1 HB1
                      cases c
                      · have HE : Hid (Bn = Bi) := hide (by rw [unhide HFC]; rfl)
                        go_wp2_with fail
                        go_roundw
                        case rel => exact ⟨i + 1, by omega, by go_num, hide (unhide HN9 _ (by rw [unhide HE]; exact unhide HN3)), HB3⟩
                        case measure => simp [intOf]; omega
                      · have HE : Hid (Bn = Bi.set t ⟨(t : Int), (t : Int), xc, xh⟩) := hide (by rw [unhide HFC]; rfl)
                        have HTL : Hid (t < Bi.length) := hide (by rw [unhide HLB]; omega)
                        have HPN : Hid (Nin (put W3 B (t * 4) ⟨(t : Int), (t : Int), xc, xh⟩) B D Bn ds2) := hide ⟨by rw [unhide HE]; exact (unhide HN3).1.put (unhide HTL) _, (put_other hDB).trans (unhide HN3).2⟩
                        have HPB := hide (put_below (g := B) (o := t * 4) (m := ⟨(t : Int), (t : Int), xc, xh⟩) (unhide HB3) (Nat.le_refl _))
                        have HPN9 := hide (unhide HN9 _ (unhide HPN))
                        go_wp2_with (first | (refine wpList_loadR _ rfl rfl (m := ⟨(t : Int), (t : Int), xc, xh⟩) rfl (unhide HX3) ?_) | (refine wpList_storeR _ _ rfl rfl (t := t) (m := ⟨(t : Int), (t : Int), xc, xh⟩) rfl rfl (unhide HN3).1 (unhide HTL) ?_))
                        go_roundw
                        case rel => exact ⟨i + 1, by omega, by go_num, HPN9, HPB⟩
                        case measure => simp [intOf]; omega
                    · have hkq' : ((k : Int) == (q : Int)) = false := by simpa using hkq
                      have HB00 : Hid (¬ bh = 0) := hide (fun e => hkq (hhq.1 e))
                      have HEX : Hid (ext ⟨(k : Int), bn, bc, bh⟩ (t : Int) val = ⟨(t : Int), bn, bc + val, bh + 1⟩) := hide (by unfold ext; dsimp only; rw [if_neg (unhide HB00)])
                      clear hkq hhq
                      have b1 : Below wr.heap.size wr (wr.alloc (.cells #[.int .i64 (t : Int), .int .i64 bn, .int .i64 (bc + val), .int .i64 (bh + 1)] 87)).drew := ((Below.refl _ _).alloc (Nat.le_refl _) _).drew
                      have HN1 := hide ((unhide hN).below b1)
                      have HB1 := hide ((unhide hbl).trans (b1.mono (Nat.le_of_lt hsl)))
                      have HX1 : Hid (Bx (wr.alloc (.cells #[.int .i64 (t : Int), .int .i64 bn, .int .i64 (bc + val), .int .i64 (bh + 1)] 87)).drew wr.heap.size ⟨(t : Int), bn, bc + val, bh + 1⟩) := hide (bx_new wr ⟨(t : Int), bn, bc + val, bh + 1⟩ 87).drew
                      have hXB : wr.heap.size ≠ B := by omega
                      have hXD : wr.heap.size ≠ D := by have := (unhide hN).2.lt; omega
                      go_upto_region 25 with fail
                      clear b1 c0 c1 c2 hN hbl ht HRr
                      generalize hW1 : (wr.alloc (.cells #[.int .i64 (t : Int), .int .i64 bn, .int .i64 (bc + val), .int .i64 (bh + 1)] 87)).drew = W1 at *
                      clear hW1
                      generalize hX : wr.heap.size = X at *
                      clear hX
                      have HSQ := hide (sQ_of (unhide HN1) (unhide HLB) (unhide HDL) (j := t) (by omega) (unhide HX1))
                      have HFB : Hid (Bn = if (!dn ds2 t && (decide ((at' Bi t).co < 0) || btB (⟨(t : Int), bn, bc + val, bh + 1⟩ : R) (at' Bi t))) = true then Bi.set t ⟨(t : Int), bn, bc + val, bh + 1⟩ else Bi) := hide (by rw [unhide HRX2, unhide HEX])
                      clear HRX2 HSP
                      generalize hdj : dn ds2 t = dj at *
                      generalize hYY : at' Bi t = Y at *
                      clear hdj hYY
                      clear hbc
                      generalize hXC : bc + val = xc at *
                      generalize hXH : bh + 1 = xh at *
                      clear hXC hXH
                      have HN9 : Hid (∀ W, Nin W B D Bn ds2 → Nin W B D (rl g ⟨(k : Int), bn, bc, bh⟩ ds2 bs (i + 1)) ds2) := hide (fun W h => by rw [unhide HBN]; exact h)
                      refine r25 _ _ _ _ _ _ _ _ _ _ _ _ _ _ _ _ _ _ _ _ _ _ _ _ _ _ _ _ _ _ _ _ _ _ _ _ _ _ _ _ _ _ _ _ _ _ _ _ _ _ _ _ _ _ _ _ _ _ _ _ _ _ _ _ _ _ _ _ _ _ _ _ _ _ _ _ _ _ _ _ _ _ _ _ _ _ _ _ _ _ _ _ _ _ _ _ _ _ _ _ _ _ _ _ _ _ _ _ _ _ _ _ _ _ _ _ _ _ _ _ _ _ _ _ _ _ _ _ _ _ _ _ _ _ _ _ _ _ _ B D t X dj ⟨(t : Int), bn, xc, xh⟩ Y _ HSQ t0 t9 ?_
                      intro c hc r116 r117 r118 r119 r120 r121 r122 r123 r124 r125 r126 r127 r128 r129 r130 r131 r132 r133 r134 r135 W3 bz
                      have HFC : Hid (Bn = if c = true then Bi.set t ⟨(t : Int), bn, xc, xh⟩ else Bi) := hide (by rw [hc]; exact unhide HFB)
                      have HN3 := hide ((unhide HN1).below bz)
                      have HX3 := hide ((unhide HX1).below bz)
                      have HB3 := hide ((unhide HB1).trans (bz.mono (Nat.le_of_lt (unhide HN1).1.lt)))
                      clear bz hc HSQ HFB HN1 HX1 HB1
                      cases c
                      · have HE : Hid (Bn = Bi) := hide (by rw [unhide HFC]; rfl)
                        go_wp2_with fail
                        go_roundw
                        case rel => exact ⟨i + 1, by omega, by go_num, hide (unhide HN9 _ (by rw [unhide HE]; exact unhide HN3)), HB3⟩
                        case measure => simp [intOf]; omega
                      · have HE : Hid (Bn = Bi.set t ⟨(t : Int), bn, xc, xh⟩) := hide (by rw [unhide HFC]; rfl)
                        have HTL : Hid (t < Bi.length) := hide (by rw [unhide HLB]; omega)
                        have HPN : Hid (Nin (put W3 B (t * 4) ⟨(t : Int), bn, xc, xh⟩) B D Bn ds2) := hide ⟨by rw [unhide HE]; exact (unhide HN3).1.put (unhide HTL) _, (put_other hDB).trans (unhide HN3).2⟩
                        have HPB := hide (put_below (g := B) (o := t * 4) (m := ⟨(t : Int), bn, xc, xh⟩) (unhide HB3) (Nat.le_refl _))
                        have HPN9 := hide (unhide HN9 _ (unhide HPN))
                        go_wp2_with (first | (refine wpList_loadR _ rfl rfl (m := ⟨(t : Int), bn, xc, xh⟩) rfl (unhide HX3) ?_) | (refine wpList_storeR _ _ rfl rfl (t := t) (m := ⟨(t : Int), bn, xc, xh⟩) rfl rfl (unhide HN3).1 (unhide HTL) ?_))
                        go_roundw
                        case rel => exact ⟨i + 1, by omega, by go_num, HPN9, HPB⟩
                        case measure => simp [intOf]; omega
                  · have hh' : (key / 100 != (k : Int)) = true := by simpa using hhk
                    have HE : Hid (Bn = Bi) := hide (by rw [unhide HRX, if_neg (fun e => hhk e.1)])
                    have HN9 : Hid (Nin wr B D (rl g ⟨(k : Int), bn, bc, bh⟩ ds2 bs (i + 1)) ds2) := hide (by rw [unhide HBN, unhide HE]; exact unhide hN)
                    go_wp2_with fail
                    go_roundw
                    case rel => exact ⟨i + 1, by omega, by go_num, HN9, hbl⟩
                    case measure => simp [intOf]; omega
                · obtain rfl : i = n := by omega
                  obtain ⟨h1, h2⟩ := unhide HSTP
                  rw [unhide HN] at h1 h2
                  have HS9 := hide h1
                  have hm9 : 8 - cntW (WM (rl g ⟨(k : Int), bn, bc, bh⟩ ds2 bs i) ds2) < gk := by
                    have h3 := unhide hkx; have h4 := cnt_le (WM (rl g ⟨(k : Int), bn, bc, bh⟩ ds2 bs i) ds2); omega
                  clear h1 h2
                  go_wp2_with fail
                  go_roundg (8 - cntW (WM (rl g ⟨(k : Int), bn, bc, bh⟩ ds2 bs i) ds2))
                  case measure => exact hm9
                  case rel => exact ⟨_, ds2, hN, HS9, hbl, hide (Nat.le_refl _)⟩
end Wd
end Go.Proofs.YtfooahhdikobeaaGreat
namespace Go.Proofs.YtfooahhdikobeaaGreat
open Go.ChangeShapes Go.WideShapes Go.ChangeAt Go.RowKit
set_option linter.unusedVariables false
set_option linter.unusedSimpArgs false
set_option maxRecDepth 100000
attribute [local go_sem ↓] Go.wp_at_zero Go.wp_at_succ
namespace Wd
open W1 Ro Rw Tw
/-- What the model has of an address, and what the program has. -/
theorem mdl_ways {g : List Tu.R} {f : Int} (hG : Good g f (best g f)) {j : Nat} (hj : j < 8) :
    dstV (at' (waysL g f) j) = (at' (mdl g f) (j + 1)).co ∧ keptB f (at' (waysL g f) j) = (((j : Int) + 1 != f) && decide (0 ≤ (at' (mdl g f) (j + 1)).co)) ∧ (keptB f (at' (waysL g f) j) = true → at' (waysL g f) j = at' (mdl g f) (j + 1)) := by
  rw [waysL_at g f hj, mdl_at g f (by omega), if_neg (by omega)]
  have e : ((j + 1 : Nat) : Int) = (j : Int) + 1 := by omega
  rw [e]
  cases hb : best g f ((j : Int) + 1) with
  | none =>
    refine ⟨rfl, ?_, fun h => ?_⟩
    · show (false && _) = ((j : Int) + 1 != f && decide ((0 : Int) ≤ -1))
      simp
    · exfalso
      have : keptB f R.zero = false := rfl
      rw [show (none : Option R).getD R.zero = R.zero from rfl, this] at h; cases h
  | some x =>
    obtain ⟨h1, h2, _⟩ := hG.too _ x hb
    refine ⟨?_, ?_, fun _ => rfl⟩
    · show dstV x = x.co
      unfold dstV; rw [if_neg (by omega)]
    · show (x.ds != 0 && x.ds != f) = ((j : Int) + 1 != f && decide (0 ≤ x.co))
      rw [decide_eq_true h2, Bool.and_true, h1, show ((j : Int) + 1 != 0) = true by simp; omega, Bool.true_and]
theorem BV.rm {w : World} {b : Nat} {bs : List R} (h : BV w b bs) {i : Nat} (hi : i < bs.length) : At w b (i * 4) (at' bs i) := h.at hi
theorem BV.grown {w w' : World} {b : Nat} {bs : List R} {r : Option Nat} (h : BV w b bs) (hg : w.grownBy w' r) (hne : some b ≠ r) : BV w' b bs := (hg.block b h.lt hne).trans h
end Wd
end Go.Proofs.YtfooahhdikobeaaGreat
namespace Go.Proofs.YtfooahhdikobeaaGreat
open Go.ChangeShapes Go.WideShapes Go.ChangeAt Go.RowKit
set_option linter.unusedVariables false
set_option linter.unusedSimpArgs false
set_option maxRecDepth 100000
attribute [local go_sem ↓] Go.wp_at_zero Go.wp_at_succ
namespace Nt
open W1 Rt
noncomputable def tdD (n : Nat) (cs : List Int) (x y : Int) : Int := (Wd.dstL (tgL cs n (n * n)) x).getD (y - 1).toNat 0
def tdC (ok bx bz : Bool) (d : Int) : Int := if ok = true then (if (bx && bz) = true then (if d < 0 then 5 else 0) else 4) else 1
def tdV (ok bx bz : Bool) (d : Int) : Int := if (ok && (bx && bz)) = true then (if d < 0 then 0 else d) else 0
theorem netB_c {ms : List Rm} {cs : List Int} {fs : List Fm.R} {t : Int} (h : netB ms cs fs t = true) : costB cs ms.length = true := by
  unfold netB rtsB at h
  simp only [Bool.and_eq_true] at h
  exact h.2.2.2.1
theorem td_mdl {g : List Tu.R} {f : Int} (hG : Wd.Good g f (Wd.best g f)) {j : Nat} (hj : j < 8) : (Wd.at' (Wd.mdl g f) (j + 1)).co = (Wd.dstL g f).getD j 0 := by
  rw [← (Wd.mdl_ways hG hj).1]
  unfold Wd.dstL Wd.at'
  rw [List.getD_eq_getElem?_getD, List.getD_eq_getElem?_getD, List.getElem?_map, List.getElem?_eq_getElem (by rw [Wd.waysL_len]; exact hj)]; rfl
set_option maxHeartbeats 16000000 in
theorem implTD (a b d : Option Addr) (ca cb cd : Nat) (t : Int) (ms : List Rm) (ps : List Pl) (cs : List Int) (fs : List Fm.R) (x y : Int) (w : World) (hm : ms.length ≤ 1048576) (hc : cs.length ≤ 1048576) (hf : fs.length ≤ 1048576) (hs : ∀ i, i < ms.length → Sm (ms.getD i Rm.zero)) (hg : ∀ i, i < fs.length → (fs.getD i Fm.R.zero).bs.size ≤ maxLen) (hr : NR w a ms ps) (hi : In.RM w b cs) (hz : Fm.RM w d fs) :
    Calls Tryz.prog 26 #[.agg #[.slice a ms.length ca, .slice b cs.length cb, .slice d fs.length cd, .int .i64 t], .int .i64 x, .int .i64 y] w fun e w' => e = .returned (.tuple #[.int .i64 (tdV (netB ms cs fs t) (inB x 1 ms.length) (inB y 1 ms.length) (tdD ms.length cs x y)), .int .i64 (tdC (netB ms cs fs t) (inB x 1 ms.length) (inB y 1 ms.length) (tdD ms.length cs x y))]) ∧ Below w.heap.size w w' := by
  have HX0 := hide (nb_new w (.slice a ms.length ca) (.slice b cs.length cb) (.slice d fs.length cd) t 31)
  have b0 := bel_new w (.cells #[.slice a ms.length ca, .slice b cs.length cb, .slice d fs.length cd, .int .i64 t] 31)
  have HB0 := hide b0
  have HI0 := hide (hi.below b0)
  have KN := hide (pairCode a b d ca cb cd t ms ps cs fs x y _ hm hc hf hs hg (hr.below b0) (hi.below b0) (hz.below b0))
  have HNN := hide (fun h => netB_n (ms := ms) (cs := cs) (fs := fs) (t := t) h)
  have HCO := hide (fun h => netB_c (ms := ms) (cs := cs) (fs := fs) (t := t) h)
  clear b0 hr hi hz hs hg
  obtain ⟨bx, hbx⟩ : ∃ bx, inB x 1 ms.length = bx := ⟨_, rfl⟩
  obtain ⟨bz, hbz⟩ : ∃ bz, inB y 1 ms.length = bz := ⟨_, rfl⟩
  rw [hbx, hbz]
  try rw [hbx, hbz] at KN
  have HBX := hide hbx
  have HBZ := hide hbz
  clear hbx hbz
  obtain ⟨D, hD⟩ : ∃ D, tdD ms.length cs x y = D := ⟨_, rfl⟩
  rw [hD]
  have HDD := hide hD
  clear hD
  generalize netB ms cs fs t = ok at *
  go_enter Tryz.func26, Tryz.ntmps26
  go_wp2_with fail
  generalize w.alloc (.cells #[.slice a ms.length ca, .slice b cs.length cb, .slice d fs.length cd, .int .i64 t] 31) = w0 at *
  refine (unhide KN).mono ?_
  rintro e w1 ⟨rfl, b1⟩
  have HX1 := hide ((unhide HX0).below b1)
  have HI1 := hide ((unhide HI0).below b1)
  have HB1 := hide ((unhide HB0).trans (b1.mono (unhide HB0).size))
  clear HX0 HI0 HB0 KN b1
  cases ok
  · rw [show pcC false bx bz = 1 from rfl]
    go_wp2_with fail
    go_ret2
    exact ⟨rfl, unhide HB1⟩
  obtain ⟨h1, h6, hC, _, _⟩ := unhide HNN rfl
  have HCB := hide (unhide HCO rfl)
  clear HCO HNN
  cases bx
  · rw [show pcC true false bz = 4 from rfl]
    go_wp2_with fail
    go_ret2
    exact ⟨rfl, unhide HB1⟩
  cases bz
  · rw [show pcC true true false = 4 from rfl]
    go_wp2_with fail
    go_ret2
    exact ⟨rfl, unhide HB1⟩
  rw [show pcC true true true = 0 from rfl]
  have hbx := unhide HBX
  have hby := unhide HBZ
  have hx : 1 ≤ x ∧ x ≤ (ms.length : Int) := by simpa [inB] using hbx
  have hy : 1 ≤ y ∧ y ≤ (ms.length : Int) := by simpa [inB] using hby
  have hcB := unhide HCB
  have HGB := hide (tg_graph (cs := cs) h1 h6 hcB)
  have HF8 := hide (show 1 ≤ x ∧ x ≤ 8 by omega)
  have HLG := hide (show (tgL cs ms.length (ms.length * ms.length)).length ≤ 1048576 by have := tg_short (cs := cs) h6 (Nat.le_refl (ms.length * ms.length)); omega)
  obtain ⟨k, hk⟩ : ∃ k : Nat, y = (k : Int) + 1 := ⟨(y - 1).toNat, by omega⟩
  have hk8 : k < 8 := by omega
  have hDk : (Wd.dstL (tgL cs ms.length (ms.length * ms.length)) x).getD k 0 = D := by rw [← unhide HDD]; unfold tdD; rw [hk, show ((k : Int) + 1 - 1).toNat = k by omega]
  have KT := hide (trueGraph a b d ms.length fs.length ca cb cd t cs w1 h1 h6 hC (unhide HI1))
  have KD : Hid (∀ A c W, Tu.RM W A (tgL cs ms.length (ms.length * ms.length)) → Calls Tryz.prog 67 #[.slice A (tgL cs ms.length (ms.length * ms.length)).length c, .int .i64 x] W fun e w' => ∃ g q, e = .returned (.tuple #[.slice (some ⟨g, 0, none⟩) 8 q, .int .i64 0]) ∧ Below W.heap.size W w' ∧ w'.cell? ⟨g, k, none⟩ = some (.int .i64 D)) := hide (fun A c W h => by
    refine (Wd.implDist A _ c x W (unhide HLG) h).mono ?_
    rintro e w' ⟨v, rfl, bb, lv⟩
    have e0 : Wd.codeG (tgL cs ms.length (ms.length * ms.length)) x = 0 := Wd.codeG_zero (unhide HGB) (by have := unhide HF8; simp [inB]; omega)
    unfold Wd.dstA at lv
    rw [if_pos e0] at lv
    obtain ⟨av, cv, rfl, lst⟩ := lv
    rcases lst with e | ⟨g, rfl, _, _, _, up⟩
    · exfalso; have := Wd.dstL_len (tgL cs ms.length (ms.length * ms.length)) x; rw [e] at this; simp at this
    · rw [e0, Wd.dstL_len] at *
      refine ⟨g, cv, rfl, bb, ?_⟩
      rw [← hDk]
      exact up.1 k hk8)
  subst hk
  clear hbx hby hx hy h1 h6 hC HBX HBZ HCB hcB HGB HF8 HLG HDD hDk HI1
  generalize tgL cs ms.length (ms.length * ms.length) = G at *
  obtain ⟨p0, p1, p2, p3⟩ := unhide HX1
  go_wp2_with fail
  clear p0 p1 p2 p3
  refine (unhide KT).mono ?_
  rintro e w2 ⟨v, rfl, b2, lv⟩
  obtain ⟨A, cA, rfl, lst⟩ := lv
  have HB2 := hide ((unhide HB1).trans (b2.mono (unhide HB1).size))
  have HL := hide lst.rm
  clear b2 lst HB1 HX1 KT
  go_wp2_with fail
  refine (unhide KD _ _ _ (unhide HL)).mono ?_
  rintro e w3 ⟨g, q, rfl, b3, hx3⟩
  have HB3 := hide ((unhide HB2).trans (b3.mono (unhide HB2).size))
  clear b3 HB2 HL KD
  have k0 : (0 : Int) ≤ (k : Int) := by omega
  have k8 : (k : Int) < 8 := by omega
  have ke : ((k : Int) + 1 - 1) = (k : Int) := by omega
  by_cases hn : D < 0
  · have q1 : decide (D < 0) = true := by simpa using hn
    have z1 : tdV true true true D = 0 := by unfold tdV; simp [hn]
    have z2 : tdC true true true D = 5 := by unfold tdC; simp [hn]
    have Z1 := hide z1
    have Z2 := hide z2
    clear z1 z2
    go_wp2_with fail
    go_ret2
    exact ⟨(show Ending.returned (.tuple #[.int .i64 0, .int .i64 5]) = Ending.returned (.tuple #[.int .i64 (tdV true true true D), .int .i64 (tdC true true true D)]) from by rw [unhide Z1, unhide Z2]), unhide HB3⟩
  · have q1 : decide (D < 0) = false := by simpa using hn
    have z1 : tdV true true true D = D := by unfold tdV; simp [hn]
    have z2 : tdC true true true D = 0 := by unfold tdC; simp [hn]
    have Z1 := hide z1
    have Z2 := hide z2
    clear z1 z2
    go_wp2_with fail
    go_ret2
    exact ⟨(show Ending.returned (.tuple #[.int .i64 D, .int .i64 0]) = Ending.returned (.tuple #[.int .i64 (tdV true true true D), .int .i64 (tdC true true true D)]) from by rw [unhide Z1, unhide Z2]), unhide HB3⟩
set_option maxHeartbeats 16000000 in
theorem specTD (a b d : Option Addr) (ca cb cd : Nat) (t : Int) (ms : List Rm) (ps : List Pl) (cs : List Int) (fs : List Fm.R) (x y : Int) (w : World) (hm : ms.length ≤ 1048576) (hc : cs.length ≤ 1048576) (hf : fs.length ≤ 1048576) (hs : ∀ i, i < ms.length → Sm (ms.getD i Rm.zero)) (hg : ∀ i, i < fs.length → (fs.getD i Fm.R.zero).bs.size ≤ maxLen) (hr : NR w a ms ps) (hi : In.RM w b cs) (hz : Fm.RM w d fs) :
    Calls Tryz.prog 25 #[.agg #[.slice a ms.length ca, .slice b cs.length cb, .slice d fs.length cd, .int .i64 t], .int .i64 x, .int .i64 y] w fun e w' => e = .returned (.tuple #[.int .i64 (tdV (netB ms cs fs t) (inB x 1 ms.length) (inB y 1 ms.length) (tdD ms.length cs x y)), .int .i64 (tdC (netB ms cs fs t) (inB x 1 ms.length) (inB y 1 ms.length) (tdD ms.length cs x y))]) ∧ Below w.heap.size w w' := by
  have HX0 := hide (nb_new w (.slice a ms.length ca) (.slice b cs.length cb) (.slice d fs.length cd) t 31)
  have b0 := bel_new w (.cells #[.slice a ms.length ca, .slice b cs.length cb, .slice d fs.length cd, .int .i64 t] 31)
  have HB0 := hide b0
  have HI0 := hide (hi.below b0)
  have KN := hide (specNet a b d ca cb cd t ms ps cs fs _ hm hc hf hs hg (hr.below b0) (hi.below b0) (hz.below b0))
  have HNN := hide (fun h => netB_n (ms := ms) (cs := cs) (fs := fs) (t := t) h)
  have HCO := hide (fun h => netB_c (ms := ms) (cs := cs) (fs := fs) (t := t) h)
  clear b0 hr hi hz hs hg
  obtain ⟨bx, hbx⟩ : ∃ bx, inB x 1 ms.length = bx := ⟨_, rfl⟩
  obtain ⟨bz, hbz⟩ : ∃ bz, inB y 1 ms.length = bz := ⟨_, rfl⟩
  rw [hbx, hbz]
  try rw [hbx, hbz] at KN
  have HBX := hide hbx
  have HBZ := hide hbz
  clear hbx hbz
  obtain ⟨D, hD⟩ : ∃ D, tdD ms.length cs x y = D := ⟨_, rfl⟩
  rw [hD]
  have HDD := hide hD
  clear hD
  generalize netB ms cs fs t = ok at *
  go_enter Tryz.func25, Tryz.ntmps25
  go_wp2_with fail
  generalize w.alloc (.cells #[.slice a ms.length ca, .slice b cs.length cb, .slice d fs.length cd, .int .i64 t] 31) = w0 at *
  refine (unhide KN).mono ?_
  rintro e w1 ⟨rfl, b1⟩
  have HX1 := hide ((unhide HX0).below b1)
  have HI1 := hide ((unhide HI0).below b1)
  have HB1 := hide ((unhide HB0).trans (b1.mono (unhide HB0).size))
  clear HX0 HI0 HB0 KN b1
  cases ok
  · go_wp2_with fail
    go_ret2
    exact ⟨rfl, unhide HB1⟩
  obtain ⟨h1, h6, hC, _, _⟩ := unhide HNN rfl
  have HCB := hide (unhide HCO rfl)
  clear HCO HNN
  obtain ⟨p0, p1, p2, p3⟩ := unhide HX1
  have HC := hide hC
  clear hC
  go_wp2_with fail
  clear p0 p1 p2 p3
  refine (l13Addr a b d ms.length cs.length fs.length ca cb cd t x _).mono ?_
  rintro e w2 ⟨rfl, b2⟩
  have HX2 := hide ((unhide HX1).below b2)
  have HI2 := hide ((unhide HI1).below b2)
  have HB2 := hide ((unhide HB1).trans (b2.mono (unhide HB1).size))
  clear HX1 HI1 HB1 b2
  rw [unhide HBX]
  cases bx
  · go_wp2_with fail
    go_ret2
    exact ⟨rfl, unhide HB2⟩
  obtain ⟨p0, p1, p2, p3⟩ := unhide HX2
  go_wp2_with fail
  clear p0 p1 p2 p3
  refine (l13Addr a b d ms.length cs.length fs.length ca cb cd t y _).mono ?_
  rintro e w3 ⟨rfl, b3⟩
  have HX3 := hide ((unhide HX2).below b3)
  have HI3 := hide ((unhide HI2).below b3)
  have HB3 := hide ((unhide HB2).trans (b3.mono (unhide HB2).size))
  clear HX2 HI2 HB2 b3
  rw [unhide HBZ]
  cases bz
  · go_wp2_with fail
    go_ret2
    exact ⟨rfl, unhide HB3⟩
  have hbx := unhide HBX
  have hby := unhide HBZ
  have hx : 1 ≤ x ∧ x ≤ (ms.length : Int) := by simpa [inB] using hbx
  have hy : 1 ≤ y ∧ y ≤ (ms.length : Int) := by simpa [inB] using hby
  have hcB := unhide HCB
  have HGB := hide (tg_graph (cs := cs) h1 h6 hcB)
  have HF8 := hide (show 1 ≤ x ∧ x ≤ 8 by omega)
  have HLG := hide (show (tgL cs ms.length (ms.length * ms.length)).length ≤ 1048576 by have := tg_short (cs := cs) h6 (Nat.le_refl (ms.length * ms.length)); omega)
  obtain ⟨k, hk⟩ : ∃ k : Nat, y = (k : Int) + 1 := ⟨(y - 1).toNat, by omega⟩
  have hk8 : k < 8 := by omega
  obtain ⟨T, hT⟩ : ∃ T : Nat, T = k + 1 := ⟨_, rfl⟩
  have hkT : k + 1 = T := hT.symm
  have hyT : y = (T : Int) := by omega
  have T9 : (T : Int) < 9 := by omega
  have T0 : (0 : Int) ≤ (T : Int) := by omega
  have hDk : (Wd.dstL (tgL cs ms.length (ms.length * ms.length)) x).getD k 0 = D := by rw [← unhide HDD]; unfold tdD; rw [hk, show ((k : Int) + 1 - 1).toNat = k by omega]
  have KT := hide (l14True a b d ms.length fs.length ca cb cd t cs w3 h1 h6 (unhide HC) hcB (unhide HI3))
  have KD : Hid (∀ A c W, Tu.RM W A (tgL cs ms.length (ms.length * ms.length)) → Calls Tryz.prog 64 #[.slice A (tgL cs ms.length (ms.length * ms.length)).length c, .int .i64 x] W fun e w' => ∃ g, e = .returned (.slice (some ⟨g, 0, none⟩) 9 9) ∧ Below W.heap.size W w' ∧ w'.cell? ⟨g, T * 4 + 2, none⟩ = some (.int .i64 D)) := hide (fun A c W h => by
    refine (Wd.l11Routes A _ c x W (unhide HGB) (unhide HF8) h).mono ?_
    rintro e w' ⟨g, rfl, bb, hge, bv, hG⟩
    refine ⟨g, rfl, bb, ?_⟩
    have h9 := bv.rm (i := k + 1) (by rw [Wd.mdl_len]; omega)
    rw [← hDk, ← td_mdl hG hk8]
    rw [hkT] at h9 ⊢
    exact h9.2.2.1)
  clear hk8 hk hkT hT
  subst hyT
  clear hbx hby hx hy h1 h6 HC HBX HBZ HCB hcB HGB HF8 HLG HDD hDk HI3
  generalize tgL cs ms.length (ms.length * ms.length) = G at *
  obtain ⟨p0, p1, p2, p3⟩ := unhide HX3
  go_wp2_with fail
  clear p0 p1 p2 p3
  refine (unhide KT).mono ?_
  rintro e w4 ⟨v, rfl, b4, lv⟩
  obtain ⟨A, cA, rfl, lst⟩ := lv
  have HB4 := hide ((unhide HB3).trans (b4.mono (unhide HB3).size))
  have HL := hide lst.rm
  clear b4 lst HB3 HX3 KT
  go_wp2_with fail
  refine (unhide KD _ _ _ (unhide HL)).mono ?_
  rintro e w5 ⟨g, rfl, b5, hx5⟩
  have HB5 := hide ((unhide HB4).trans (b5.mono (unhide HB4).size))
  clear b5 HB4 HL KD
  by_cases hn : D < 0
  · have q1 : decide (D < 0) = true := by simpa using hn
    have z1 : tdV true true true D = 0 := by unfold tdV; simp [hn]
    have z2 : tdC true true true D = 5 := by unfold tdC; simp [hn]
    have Z1 := hide z1
    have Z2 := hide z2
    clear z1 z2
    go_wp2_with fail
    go_ret2
    exact ⟨(show Ending.returned (.tuple #[.int .i64 0, .int .i64 5]) = Ending.returned (.tuple #[.int .i64 (tdV true true true D), .int .i64 (tdC true true true D)]) from by rw [unhide Z1, unhide Z2]), unhide HB5⟩
  · have q1 : decide (D < 0) = false := by simpa using hn
    have z1 : tdV true true true D = D := by unfold tdV; simp [hn]
    have z2 : tdC true true true D = 0 := by unfold tdC; simp [hn]
    have Z1 := hide z1
    have Z2 := hide z2
    clear z1 z2
    go_wp2_with fail
    go_ret2
    exact ⟨(show Ending.returned (.tuple #[.int .i64 D, .int .i64 0]) = Ending.returned (.tuple #[.int .i64 (tdV true true true D), .int .i64 (tdC true true true D)]) from by rw [unhide Z1, unhide Z2]), unhide HB5⟩
end Nt
end Go.Proofs.YtfooahhdikobeaaGreat
namespace Go.Proofs.YtfooahhdikobeaaGreat
open Go.ChangeShapes Go.WideShapes Go.ChangeAt Go.RowKit
set_option linter.unusedVariables false
set_option linter.unusedSimpArgs false
set_option maxRecDepth 100000
attribute [local go_sem ↓] Go.wp_at_zero Go.wp_at_succ
namespace Nt
open W1 Rt
/-- How many bytes the frames have. -/
def totF : List Fm.R → Int
  | [] => 0
  | m :: r => (m.bs.size : Int) + totF r
theorem totF_nonneg : ∀ fs : List Fm.R, 0 ≤ totF fs
  | [] => Int.le_refl _
  | m :: r => by have := totF_nonneg r; unfold totF; omega
theorem totF_append (a b : List Fm.R) : totF (a ++ b) = totF a + totF b := by
  induction a with
  | nil => simp [totF]
  | cons m r ih => simp only [List.cons_append, totF, ih]; omega
theorem totF_take {fs : List Fm.R} {j : Nat} (h : j < fs.length) : totF (fs.take (j + 1)) = totF (fs.take j) + ((fs.getD j Fm.R.zero).bs.size : Int) := by
  rw [take_snoc Fm.R.zero h, totF_append]; simp [totF]
set_option maxHeartbeats 8000000 in
theorem szNS (a : Option Addr) (ms : List Rm) (ps : List Pl) (cap : Nat) (L : Int) (w : World) (hL : 0 ≤ L) (hL1 : L ≤ 1048576) (hm : ms.length ≤ maxLen) (hs : ∀ i, i < ms.length → Sx (ms.getD i Rm.zero)) (hr : NR w a ms ps) :
    Calls Tryz.prog 38 #[.slice a ms.length cap, .int .i64 L] w fun e w' => ∃ r : Int, e = .returned (.int .i64 r) ∧ Below w.heap.size w w' ∧ (r < 0 ∨ (0 ≤ r ∧ r = L - ms.length - tot ms)) := by
  unfold maxLen at hm
  have HR := hide hr
  have HS := hide hs
  clear hr hs
  obtain ⟨n, hN⟩ : ∃ n, ms.length = n := ⟨_, rfl⟩
  rw [hN] at hm ⊢
  have HN := hide hN
  have HTT := hide (show tot (ms.take ms.length) = tot ms by rw [List.take_length])
  rw [hN] at HTT
  clear hN
  obtain ⟨T, hT⟩ : ∃ T, tot ms = T := ⟨_, rfl⟩
  rw [hT] at HTT ⊢
  have HT := hide hT
  clear hT
  by_cases h0 : L - n < 0
  · go_enter Tryz.func38, Tryz.ntmps38
    go_wp2
    go_ret
    exact ⟨_, rfl, Below.refl _ _, .inl (by omega)⟩
  obtain ⟨M, hM⟩ : ∃ M, L - (n : Int) = M := ⟨_, rfl⟩
  have HM := hide hM
  have hM0 : 0 ≤ M := by omega
  have hM1 : M ≤ 1048576 := by omega
  have h0' : ¬ M < 0 := by omega
  clear h0
  go_enter Tryz.func38, Tryz.ntmps38
  go_wp2_with fail
  try rw [hM]
  go_wp2_with fail
  clear hM h0'
  go_loopw [1, 5] (fun r i wr => ∃ j : Nat, j ≤ n ∧ i = .int .i64 j ∧ ∃ q : Int, r = .int .i64 q ∧ 0 ≤ q ∧ q ≤ 1048576 ∧ Hid (q = M - tot (ms.take j)) ∧ Hid (Below w.heap.size w wr)) (fun _ i _ => n - (intOf i).toNat)
  case atStart => exact ⟨0, by omega, rfl, M, rfl, hM0, hM1, hide (by simp [tot]), hide (Below.refl _ _)⟩
  case round =>
    obtain ⟨j, hj, rfl, q, rfl, hq0, hq1, hq, hbl⟩ := hrel
    by_cases hlt : (j : Int) < (n : Int)
    · have k0 : (0 : Int) ≤ (j : Int) := by omega
      have hlen : j < ms.length := by rw [unhide HN]; omega
      obtain ⟨g, off, rfl, hA, hD⟩ := ((unhide HR).below (unhide hbl)).at hlen
      have HA := hide hA
      have HX := hide ((unhide HS) j hlen)
      have HTK := hide (tot_take hlen)
      clear hlen hA hD
      generalize ms.getD j Rm.zero = m at *
      generalize ps.getD j Pl.zero = p at *
      go_wp2_with (refine loadW _ rfl rfl (unhide HA) rfl ?_)
      refine (szN m p q _ hq0 hq1 (unhide HX)).mono ?_
      rintro e w1 ⟨r, rfl, b1, hr⟩
      have HB1 := hide ((unhide hbl).trans (b1.mono (unhide hbl).size))
      have hc := cnt_nonneg m
      rcases hr with hr | ⟨hr0, hr1⟩
      · clear b1 HA HX HTK hc
        go_wp2_with fail
        go_ret
        exact ⟨_, rfl, unhide HB1, .inl (by omega)⟩
      · have HQ : Hid (r = M - tot (ms.take (j + 1))) := hide (by have := unhide hq; have := unhide HTK; omega)
        have hrn : ¬ r < 0 := by omega
        have hrm : r ≤ 1048576 := by omega
        clear b1 HA HX HTK hc hr1 hq
        go_wp2_with fail
        go_roundw
        case rel => exact ⟨j + 1, by omega, by go_num, r, rfl, hr0, hrm, HQ, HB1⟩
        case measure => simp [intOf]; omega
    · obtain rfl : j = n := by omega
      go_wp2_with fail
      go_ret
      exact ⟨_, rfl, unhide hbl, .inr ⟨hq0, by have := unhide hq; have := unhide HTT; have := unhide HM; omega⟩⟩
set_option maxHeartbeats 1000000 in
theorem szF (fr tt ti : Int) (bs : ByteArray) (L : Int) (w : World) (hL : 0 ≤ L) (hL1 : L ≤ 1048576) (hz : bs.size ≤ maxLen) :
    Calls Tryz.prog 82 #[.agg #[.int .i64 fr, .int .i64 tt, .int .i64 ti, .string bs], .int .i64 L] w fun e w' => ∃ r : Int, e = .returned (.int .i64 r) ∧ Below w.heap.size w w' ∧ (r < 0 ∨ (0 ≤ r ∧ r = L - bs.size)) := by
  unfold maxLen at hz
  by_cases h0 : L - bs.size < 0
  all_goals
    go_enter Tryz.func82, Tryz.ntmps82
    go_wp2
    go_ret
  · exact ⟨_, rfl, (Below.refl _ _).alloc (Nat.le_refl _) _, .inl (by omega)⟩
  · exact ⟨_, rfl, (Below.refl _ _).alloc (Nat.le_refl _) _, .inr ⟨by omega, rfl⟩⟩
set_option maxHeartbeats 8000000 in
theorem szFS (a : Option Addr) (fs : List Fm.R) (cap : Nat) (L : Int) (w : World) (hL : 0 ≤ L) (hL1 : L ≤ 1048576) (hm : fs.length ≤ maxLen) (hs : ∀ i, i < fs.length → (fs.getD i Fm.R.zero).bs.size ≤ maxLen) (hr : Fm.RM w a fs) :
    Calls Tryz.prog 40 #[.slice a fs.length cap, .int .i64 L] w fun e w' => ∃ r : Int, e = .returned (.int .i64 r) ∧ Below w.heap.size w w' ∧ (r < 0 ∨ (0 ≤ r ∧ r = L - fs.length - totF fs)) := by
  unfold maxLen at hm
  have HR := hide hr
  have HS := hide hs
  clear hr hs
  obtain ⟨n, hN⟩ : ∃ n, fs.length = n := ⟨_, rfl⟩
  rw [hN] at hm ⊢
  have HN := hide hN
  have HTT := hide (show totF (fs.take fs.length) = totF fs by rw [List.take_length])
  rw [hN] at HTT
  clear hN
  obtain ⟨T, hT⟩ : ∃ T, totF fs = T := ⟨_, rfl⟩
  rw [hT] at HTT ⊢
  have HT := hide hT
  clear hT
  by_cases h0 : L - n < 0
  · go_enter Tryz.func40, Tryz.ntmps40
    go_wp2
    go_ret
    exact ⟨_, rfl, Below.refl _ _, .inl (by omega)⟩
  obtain ⟨M, hM⟩ : ∃ M, L - (n : Int) = M := ⟨_, rfl⟩
  have HM := hide hM
  have hM0 : 0 ≤ M := by omega
  have hM1 : M ≤ 1048576 := by omega
  have h0' : ¬ M < 0 := by omega
  clear h0
  go_enter Tryz.func40, Tryz.ntmps40
  go_wp2_with fail
  try rw [hM]
  go_wp2_with fail
  clear hM h0'
  go_loopw [1, 5] (fun r i wr => ∃ j : Nat, j ≤ n ∧ i = .int .i64 j ∧ ∃ q : Int, r = .int .i64 q ∧ 0 ≤ q ∧ q ≤ 1048576 ∧ Hid (q = M - totF (fs.take j)) ∧ Hid (Below w.heap.size w wr)) (fun _ i _ => n - (intOf i).toNat)
  case atStart => exact ⟨0, by omega, rfl, M, rfl, hM0, hM1, hide (by simp [totF]), hide (Below.refl _ _)⟩
  case round =>
    obtain ⟨j, hj, rfl, q, rfl, hq0, hq1, hq, hbl⟩ := hrel
    by_cases hlt : (j : Int) < (n : Int)
    · have k0 : (0 : Int) ≤ (j : Int) := by omega
      have hlen : j < fs.length := by rw [unhide HN]; omega
      rcases (unhide HR).below (by exact (unhide hbl)) with e0 | ⟨g, off, rfl, hc⟩
      · exfalso; rw [e0] at hlen; simp at hlen
      have hA := hc j hlen
      have HX := hide ((unhide HS) j hlen)
      have HTK := hide (totF_take hlen)
      clear hlen hc
      generalize fs.getD j Fm.R.zero = m at *
      obtain ⟨fr, tt, ti, bs⟩ := m
      obtain ⟨c0, c1, c2, c3⟩ := hA
      dsimp only at c0 c1 c2 c3 HX HTK
      go_wp2_with fail
      refine (szF fr tt ti bs q _ hq0 hq1 (unhide HX)).mono ?_
      rintro e w1 ⟨r, rfl, b1, hr⟩
      clear c0 c1 c2 c3
      have HB1 := hide ((unhide hbl).trans (b1.mono (unhide hbl).size))
      rcases hr with hr | ⟨hr0, hr1⟩
      · clear b1 HX HTK
        go_wp2_with fail
        go_ret
        exact ⟨_, rfl, unhide HB1, .inl (by omega)⟩
      · have HQ : Hid (r = M - totF (fs.take (j + 1))) := hide (by have := unhide hq; have := unhide HTK; omega)
        have hrn : ¬ r < 0 := by omega
        have hrm : r ≤ 1048576 := by omega
        clear b1 HX HTK hr1 hq
        go_wp2_with fail
        go_roundw
        case rel => exact ⟨j + 1, by omega, by go_num, r, rfl, hr0, hrm, HQ, HB1⟩
        case measure => simp [intOf]; omega
    · obtain rfl : j = n := by omega
      go_wp2_with fail
      go_ret
      exact ⟨_, rfl, unhide hbl, .inr ⟨hq0, by have := unhide hq; have := unhide HTT; have := unhide HM; omega⟩⟩
set_option maxHeartbeats 1000000 in
theorem szI (a : Option Addr) (n cap : Nat) (L : Int) (w : World) (hL : 0 ≤ L) (hL1 : L ≤ 1048576) (hm : n ≤ maxLen) :
    Calls Tryz.prog 39 #[.slice a n cap, .int .i64 L] w fun e w' => ∃ r : Int, e = .returned (.int .i64 r) ∧ w' = w ∧ (r < 0 ∨ (0 ≤ r ∧ r = L - n)) := by
  unfold maxLen at hm
  by_cases h0 : L - n < 0
  all_goals
    go_enter Tryz.func39, Tryz.ntmps39
    go_wp2
    go_ret
  · exact ⟨_, rfl, rfl, .inl (by omega)⟩
  · exact ⟨_, rfl, rfl, .inr ⟨by omega, rfl⟩⟩
set_option maxHeartbeats 8000000 in
theorem szNt (a b d : Option Addr) (ca cb cd : Nat) (t : Int) (ms : List Rm) (ps : List Pl) (cs : List Int) (fs : List Fm.R) (L : Int) (w : World) (hL : 0 ≤ L) (hL1 : L ≤ 1048576) (hm : ms.length ≤ maxLen) (hc : cs.length ≤ maxLen) (hf : fs.length ≤ maxLen) (hs : ∀ i, i < ms.length → Sx (ms.getD i Rm.zero)) (hg : ∀ i, i < fs.length → (fs.getD i Fm.R.zero).bs.size ≤ maxLen) (hr : NR w a ms ps) (hz : Fm.RM w d fs) :
    Calls Tryz.prog 11 #[.agg #[.slice a ms.length ca, .slice b cs.length cb, .slice d fs.length cd, .int .i64 t], .int .i64 L] w fun e w' => ∃ r : Int, e = .returned (.int .i64 r) ∧ Below w.heap.size w w' ∧ (r < 0 ∨ (0 ≤ r ∧ r = L - ms.length - tot ms - cs.length - fs.length - totF fs)) := by
  have b0 := bel_new w (.cells #[.slice a ms.length ca, .slice b cs.length cb, .slice d fs.length cd, .int .i64 t] 26)
  have HX0 := hide (nb_new w (.slice a ms.length ca) (.slice b cs.length cb) (.slice d fs.length cd) t 26)
  have HR := hide (hr.below b0)
  have HZ := hide (hz.below b0)
  have HB0 := hide b0
  have HS := hide hs
  have HG := hide hg
  have t0 := tot_nonneg ms
  clear b0 hr hz hs hg
  go_enter Tryz.func11, Tryz.ntmps11
  go_wp2_with fail
  generalize w.alloc (.cells #[.slice a ms.length ca, .slice b cs.length cb, .slice d fs.length cd, .int .i64 t] 26) = w0 at *
  refine (szNS _ ms ps _ L _ hL hL1 hm (unhide HS) (unhide HR)).mono ?_
  rintro e w1 ⟨r1, rfl, b1, h1⟩
  have HB1 := hide ((unhide HB0).trans (b1.mono (unhide HB0).size))
  have HX1 := hide ((unhide HX0).below b1)
  have HZ1 := hide ((unhide HZ).below b1)
  clear HB0 HX0 HZ HR b1
  rcases h1 with h1 | ⟨h1, h1'⟩
  · go_wp2_with fail
    go_ret
    exact ⟨_, rfl, unhide HB1, .inl (by omega)⟩
  have hn1 : ¬ r1 < 0 := by omega
  have hu1 : r1 ≤ 1048576 := by omega
  have HE1 := hide h1'
  clear h1'
  obtain ⟨p0, p1, p2, p3⟩ := unhide HX1
  go_wp2_with fail
  clear p0 p1 p2 p3
  refine (szI _ _ _ r1 _ h1 hu1 hc).mono ?_
  rintro e w2 ⟨r2, rfl, hw2, h2⟩
  subst hw2
  rcases h2 with h2 | ⟨h2, h2'⟩
  · go_wp2_with fail
    go_ret
    exact ⟨_, rfl, unhide HB1, .inl (by omega)⟩
  have hn2 : ¬ r2 < 0 := by omega
  have hu2 : r2 ≤ 1048576 := by omega
  have HE2 := hide h2'
  clear h2'
  obtain ⟨p0, p1, p2, p3⟩ := unhide HX1
  go_wp2_with fail
  clear p0 p1 p2 p3
  refine (szFS _ fs _ r2 _ h2 hu2 hf (unhide HG) (unhide HZ1)).mono ?_
  rintro e w3 ⟨r3, rfl, b3, h3⟩
  have HB3 := hide ((unhide HB1).trans (b3.mono (unhide HB1).size))
  clear HB1 HX1 HZ1 b3
  rcases h3 with h3 | ⟨h3, h3'⟩
  · go_wp2_with fail
    go_ret
    exact ⟨_, rfl, unhide HB3, .inl (by omega)⟩
  have hn3 : ¬ r3 < 0 := by omega
  have HE3 := hide h3'
  clear h3'
  go_wp2_with fail
  go_ret
  exact ⟨_, rfl, unhide HB3, .inr ⟨h3, by have := unhide HE1; have := unhide HE2; have := unhide HE3; omega⟩⟩
end Nt
end Go.Proofs.YtfooahhdikobeaaGreat
namespace Go.Proofs.YtfooahhdikobeaaGreat
open Go.ChangeShapes Go.WideShapes Go.ChangeAt Go.RowKit
set_option linter.unusedVariables false
set_option linter.unusedSimpArgs false
set_option maxRecDepth 100000
attribute [local go_sem ↓] Go.wp_at_zero Go.wp_at_succ
namespace Nt
open W1 Rt
set_option maxHeartbeats 4000000 in
/-- The cells that read as a router. -/
theorem open_one {H : Type} {enc : TypeId × Value → H} {W : World} {fuel : Nat} {c : List Value} {y : DataW H × List MemPlace} (hl : c.length = 13)
    (hf : DataW.trod enc Tryz.prog W 0 (fun _ => true) true fuel 114 c = some y) : ∃ (m : Rm) (p : Pl), c = cl m p ∧ Sx m ∧ Rd W m p := by
  obtain ⟨c0, c1, c2, c3, c4, c5, c6, c7, c8, c9, c10, c11, c12, rfl⟩ := list13 hl
  obtain ⟨xs, n, _, _, _, hlen, hf⟩ := DataW.trod_struct Tryz.underlying114 hf
  obtain ⟨x0, x1, x2, x3, x4, x5, x6, x7, x8, x9, x10, x11, rfl⟩ := list12 hlen
  have k0 := hf 0 _ rfl
  have k1 := hf 1 _ rfl
  have k2 := hf 2 _ rfl
  have k3 := hf 3 _ rfl
  have k4 := hf 4 _ rfl
  have k5 := hf 5 _ rfl
  have k6 := hf 6 _ rfl
  have k7 := hf 7 _ rfl
  have k8 := hf 8 _ rfl
  have k9 := hf 9 _ rfl
  have k10 := hf 10 _ rfl
  have k11 := hf 11 _ rfl
  clear hf hlen
  simp [cells_int, cells_lk, cells_tu, cells_ed, cells_top] at k0 k1 k2 k3 k4 k5 k6 k7 k8 k9 k10 k11
  obtain ⟨a0, e0, _, _⟩ := DataW.trod_int Tryz.underlying3 k0
  obtain ⟨a1, e1, _, _⟩ := DataW.trod_int Tryz.underlying3 k1
  obtain ⟨a2, e2, _, _⟩ := DataW.trod_int Tryz.underlying3 k2
  obtain ⟨a3, e3, _, _⟩ := DataW.trod_int Tryz.underlying3 k3
  obtain ⟨a4, e4, _, _⟩ := DataW.trod_int Tryz.underlying3 k4
  obtain ⟨a11, e11, _, _⟩ := DataW.trod_int Tryz.underlying3 k11
  simp at e0 e1 e2 e3 e4 e11
  subst e0 e1 e2 e3 e4 e11
  obtain ⟨ys, n', _, _, _, hlen', hg⟩ := DataW.trod_struct Tryz.underlying111 k9
  obtain ⟨y0, y1, rfl⟩ := Tq.listR hlen'
  have t0 := hg 0 _ rfl
  have t1 := hg 1 _ rfl
  simp [cells_so, cells_tu] at t0 t1
  obtain ⟨g1, l1, p1, m1, rfl, h1, j1, r1⟩ := Lk.open_cell k5
  obtain ⟨g2, l2, p2, m2, rfl, h2, j2, r2⟩ := Tq.open_cellT k6
  obtain ⟨g3, l3, p3, m3, rfl, h3, j3, r3⟩ := Tq.open_cellT k7
  obtain ⟨g4, l4, p4, m4, rfl, h4, j4, r4⟩ := Tq.open_cellT k8
  obtain ⟨g5, l5, p5, m5, rfl, h5, j5, r5⟩ := So.open_cell t0
  obtain ⟨g6, l6, p6, m6, rfl, h6, j6, r6⟩ := Tq.open_cellT t1
  obtain ⟨g7, l7, p7, m7, rfl, h7, j7, r7⟩ := Ed.open_cell k10
  subst h1 h2 h3 h4 h5 h6 h7
  exact ⟨⟨a0, a1, a2, a3, a4, a11, m1, m2, m3, m4, m5, m6, m7⟩, ⟨g1, g2, g3, g4, g5, g6, g7, p1, p2, p3, p4, p5, p6, p7⟩, rfl, ⟨j1, j2, j3, j4, j5, j6, j7⟩, r1, r2, r3, r4, r5, r6, r7⟩
theorem plain_add (b off k : Nat) : (⟨b, off, none⟩ : Addr).add k = ⟨b, off + k, none⟩ := by unfold Addr.add; split <;> simp_all
/-- A row of routers that came in. -/
theorem open_row {H : Type} {enc : TypeId × Value → H} {W : World} {v : Value} {fuel : Nat} {y : DataW H × List MemPlace}
    (hf : DataW.trod enc Tryz.prog W 0 (fun _ => true) true fuel 22 [v] = some y) : ∃ a len cap, ∃ (ms : List Rm) (ps : List Pl), v = .slice a len cap ∧ ms.length = len ∧ len ≤ maxLen ∧ (∀ i, i < ms.length → Sx (ms.getD i Rm.zero)) ∧ NR W a ms ps := by
  rcases Deep.open_slice Tryz.underlying22 hf with ⟨hcs, _⟩ | ⟨x, len, cap, m, n, D, Pc, hcs, _, hl, hm, hmm, _, hx⟩
  · simp only [List.cons.injEq, and_true] at hcs
    subst hcs
    exact ⟨none, 0, 0, [], [], rfl, rfl, Nat.zero_le _, fun i hi => absurd hi (Nat.not_lt_zero i), .inl rfl⟩
  · simp only [List.cons.injEq, and_true] at hcs
    subst hcs
    simp at hmm
    subst hmm
    rw [cells13] at hx
    by_cases h0 : len = 0
    · subst h0; exact ⟨_, _, _, [], [], rfl, rfl, Nat.zero_le _, fun i hi => absurd hi (Nat.not_lt_zero i), .inl rfl⟩
    obtain ⟨b, off, spot⟩ := x
    have hsp : spot = none := by
      obtain ⟨cs', h1, _⟩ := hx 0 (by omega)
      obtain ⟨_, hlen, hc⟩ := World.cells?_some h1
      have h2 := hc 0 (by omega)
      rw [List.getElem?_eq_getElem (by omega)] at h2
      simpa [Addr.add] using World.cell?_spot h2
    subst hsp
    have hex : ∀ i, i < len → ∃ mp : Rm × Pl, W.rangeAt b (off + i * 13) (cl mp.1 mp.2) ∧ Sx mp.1 ∧ Rd W mp.1 mp.2 := by
      intro i hi
      obtain ⟨cs', h1, h2⟩ := hx i (by omega)
      obtain ⟨_, hlen, hc⟩ := World.cells?_some h1
      obtain ⟨m, p, rfl, hs, hr⟩ := open_one hlen h2
      refine ⟨(m, p), fun j u hu => ?_, hs, hr⟩
      have hj : j < 13 := by
        rcases Nat.lt_or_ge j 13 with h | h
        · exact h
        · rw [List.getElem?_eq_none (by rw [cl_len]; exact h)] at hu; cases hu
      have q := hc j hj
      rw [plain_add, plain_add] at q
      rw [q]; exact hu
    have hin : Inhabited (Rm × Pl) := ⟨(Rm.zero, Pl.zero)⟩
    obtain ⟨V, hV⟩ := Deep.choose_lt hex
    have e1 : ∀ i, i < len → ((List.range len).map fun i => (V i).1).getD i Rm.zero = (V i).1 := fun i hi => by
      rw [List.getD_eq_getElem?_getD, List.getElem?_map, List.getElem?_range hi]; rfl
    have e2 : ∀ i, i < len → ((List.range len).map fun i => (V i).2).getD i Pl.zero = (V i).2 := fun i hi => by
      rw [List.getD_eq_getElem?_getD, List.getElem?_map, List.getElem?_range hi]; rfl
    refine ⟨_, _, _, (List.range len).map fun i => (V i).1, (List.range len).map fun i => (V i).2, rfl, by simp, Nat.le_trans hl hm, fun i hi => ?_, .inr ⟨b, off, rfl, fun i hi => ?_⟩⟩
    all_goals have hi' : i < len := by simpa using hi
    · rw [e1 i hi']; exact (hV i hi').2.1
    · rw [e1 i hi', e2 i hi']; exact ⟨(hV i hi').1, (hV i hi').2.2⟩
theorem cellsNet : Tryz.prog.cellsOf 26 = 4 := by kernel_rfl
theorem cells_ro : Tryz.prog.cellsOf 22 = 1 := by kernel_rfl
theorem cells_in : Tryz.prog.cellsOf 23 = 1 := by kernel_rfl
theorem cells_fr : Tryz.prog.cellsOf 24 = 1 := by kernel_rfl
theorem cells_i : Tryz.prog.cellsOf 3 = 1 := by kernel_rfl
theorem list4 {α : Type} {l : List α} (h : l.length = 4) : ∃ c0 c1 c2 c3, l = [c0, c1, c2, c3] := by
  match l, h with
  | [c0, c1, c2, c3], _ => exact ⟨c0, c1, c2, c3, rfl⟩
/-- A list of ints within a struct that came in. -/
theorem open_ints_cell {H : Type} {enc : TypeId × Value → H} {W : World} {v : Value} {fuel : Nat} {y : DataW H × List MemPlace}
    (hf : DataW.trod enc Tryz.prog W 0 (fun _ => true) true fuel 23 [v] = some y) : ∃ a len cap, ∃ zs : List Int, v = .slice a len cap ∧ zs.length = len ∧ len ≤ maxLen ∧ In.RM W a zs := by
  obtain ⟨a, len, cap, hv⟩ : ∃ a len cap, v = .slice a len cap := by
    rcases open_ints Tryz.underlying23 Tryz.underlying3 (by kernel_rfl) hf with ⟨hcs, _⟩ | ⟨x, l, c, zs, hcs, _⟩
    · simp at hcs; exact ⟨_, _, _, hcs⟩
    · simp at hcs; exact ⟨_, _, _, hcs⟩
  subst hv
  obtain ⟨zs, h1, h2, h3⟩ := In.open_list (a := a) (len := len) (cap := cap) (d := y.1) (p := y.2) ⟨fuel, hf⟩
  exact ⟨a, len, cap, zs, rfl, h1, h2, h3⟩
set_option maxHeartbeats 4000000 in
/-- A net that came in by value. -/
theorem open_net {H : Type} {enc : TypeId × Value → H} {W : World} {r : Reach} {b0 : Nat} {v : Value} {d : DataW H} {p : List MemPlace}
    (hv : Value.okWide Tryz.prog W r b0 26 v) (h : DataW.Trod enc Tryz.prog W 0 (fun _ => true) true 26 v d p) :
    ∃ a b d ca cb cd t, ∃ (ms : List Rm) (ps : List Pl) (cs : List Int) (fs : List Fm.R), v = .agg #[.slice a ms.length ca, .slice b cs.length cb, .slice d fs.length cd, .int .i64 t] ∧ (ms.length ≤ maxLen ∧ cs.length ≤ maxLen ∧ fs.length ≤ maxLen ∧ (∀ i, i < ms.length → Sx (ms.getD i Rm.zero)) ∧ ∀ i, i < fs.length → (fs.getD i Fm.R.zero).bs.size ≤ maxLen) ∧ NR W a ms ps ∧ In.RM W b cs ∧ Fm.RM W d fs := by
  obtain ⟨cs, rfl, hsz⟩ := okWide_struct Tryz.underlying26 hv
  obtain ⟨l⟩ := cs
  obtain ⟨c0, c1, c2, c3, rfl⟩ := list4 (hsz.trans cellsNet)
  obtain ⟨fuel, hf⟩ := h
  obtain ⟨xs, n, _, _, _, hlen, hf⟩ := DataW.trod_struct Tryz.underlying26 hf
  obtain ⟨x0, x1, x2, x3, rfl⟩ := list4 hlen
  have k0 := hf 0 _ rfl
  have k1 := hf 1 _ rfl
  have k2 := hf 2 _ rfl
  have k3 := hf 3 _ rfl
  clear hf hsz hv hlen
  simp [Value.cells, cells_ro, cells_in, cells_fr, cells_i] at k0 k1 k2 k3
  obtain ⟨t, e3, _, _⟩ := DataW.trod_int Tryz.underlying3 k3
  simp at e3
  subst e3
  obtain ⟨a, l0, ca, ms, ps, rfl, h0, j0, s0, r0⟩ := open_row k0
  obtain ⟨b, l1, cb, zs, rfl, h1, j1, r1⟩ := open_ints_cell k1
  obtain ⟨d, l2, cd, fs, rfl, h2, j2, r2, s2⟩ := Fm.open_cell k2
  subst h0 h1 h2
  exact ⟨a, b, d, ca, cb, cd, t, ms, ps, zs, fs, rfl, ⟨j0, j1, j2, s0, s2⟩, r0, r1, r2⟩
end Nt
end Go.Proofs.YtfooahhdikobeaaGreat
namespace Go.Proofs.YtfooahhdikobeaaGreat
open Go.ChangeShapes Go.WideShapes Go.ChangeAt Go.RowKit
set_option linter.unusedVariables false
set_option linter.unusedSimpArgs false
set_option maxRecDepth 100000
attribute [local go_sem ↓] Go.wp_at_zero Go.wp_at_succ
namespace Nt
open W1 Rt
set_option maxHeartbeats 8000000 in
theorem eqNS (a b : Option Addr) (ms : List Rm) (ps qs : List Pl) (ca cb : Nat) (w : World) (hm : ms.length ≤ 1048576) (hs : ∀ i, i < ms.length → Sm (ms.getD i Rm.zero)) (hr : NR w a ms ps) (hr' : NR w b ms qs) :
    Calls Tryz.prog 54 #[.slice a ms.length ca, .slice b ms.length cb] w fun e w' => e = .returned (.bool true) ∧ Below w.heap.size w w' := by
  have HR := hide hr
  have HR' := hide hr'
  have HS := hide hs
  clear hr hr' hs
  generalize hN : ms.length = n at *
  have HN := hide hN
  clear hN
  go_enter Tryz.func54, Tryz.ntmps54
  go_wp2
  go_loopw [5] (fun i wr => ∃ j : Nat, j ≤ n ∧ i = .int .i64 j ∧ Hid (Below w.heap.size w wr)) (fun i _ => n - (intOf i).toNat)
  case atStart => exact ⟨0, by omega, rfl, hide (Below.refl _ _)⟩
  case round =>
    obtain ⟨j, hj, rfl, hbl⟩ := hrel
    by_cases hlt : (j : Int) < (n : Int)
    · have k0 : (0 : Int) ≤ (j : Int) := by omega
      have hlen : j < ms.length := by rw [unhide HN]; omega
      obtain ⟨g, off, rfl, hA, hD⟩ := ((unhide HR).below (unhide hbl)).at hlen
      obtain ⟨g', off', rfl, hA', hD'⟩ := ((unhide HR').below (unhide hbl)).at hlen
      have HM := hide ((unhide HS) j (by omega))
      have HA := hide hA
      have HA' := hide hA'
      have HD := hide hD
      have HD' := hide hD'
      clear hlen hA hA' hD hD'
      generalize ms.getD j Rm.zero = m at *
      generalize ps.getD j Pl.zero = p at *
      generalize qs.getD j Pl.zero = q at *
      go_wp2_with fail
      refine wp_region_noPanic ?_
      refine wp_region_held_drew (S := fun w' => w'.rangeAt g (off + j * 13) (cl m p) ∧ w'.rangeAt g' (off' + j * 13) (cl m q)) (by kernel_rfl) (⟨unhide HA, unhide HA'⟩) (fun hHeld => ?_)
      refine Rg.t 0 17 ?_
      refine Rg.t 1 18 ?_
      refine Rg.t 2 19 ?_
      refine Rg.t (v := .agg (cl m p).toArray) 3 20 ?_ (hv := fun w0 hSw => execI _ rfl rfl hSw.1)
      refine Rg.t 4 21 ?_
      refine Rg.t 5 22 ?_
      refine Rg.t 6 23 ?_
      refine Rg.t (v := .agg (cl m q).toArray) 7 24 ?_ (hv := fun w0 hSw => execI _ rfl rfl hSw.2)
      (refine Rg.o 8 (fun K hK => ?_); go_simp)
      refine (eqN m p q wr.drew (unhide HM) (unhide HD).drew (unhide HD').drew).mono ?_
      rintro e w1 ⟨rfl, b1⟩
      refine hK.out _ _ ⟨rng_below (w := wr.drew) (unhide HA) b1, rng_below (w := wr.drew) (unhide HA') b1⟩ (fun hHeld => ?_)
      clear hK K
      (try simp only [Act.put, List.setIfInBounds_toArray, List.set_cons_zero, List.set_cons_succ])
      refine Rg.t 9 26 ?_
      refine wpAnyH_done (by kernel_rfl) (NoPanic.normal ?_) _
      have hb1 := hide ((unhide hbl).drew.trans (b1.mono (by show w.heap.size ≤ wr.heap.size; exact (unhide hbl).size)))
      clear hHeld b1 HA HA' HD HD'
      go_wp2_with fail
      go_roundw
      case rel => exact ⟨j + 1, by omega, by go_num, hb1⟩
      case measure => simp [intOf]; omega
    · go_wp2
      go_ret
      exact ⟨rfl, unhide hbl⟩
set_option maxHeartbeats 8000000 in
theorem eqNt (a b d a' b' d' : Option Addr) (ca cb cd ca' cb' cd' : Nat) (t : Int) (ms : List Rm) (ps qs : List Pl) (cs : List Int) (fs : List Fm.R) (w : World) (hm : ms.length ≤ 1048576) (hc : cs.length ≤ 1048576) (hf : fs.length ≤ 1048576) (hs : ∀ i, i < ms.length → Sm (ms.getD i Rm.zero)) (hr : NR w a ms ps) (hr' : NR w a' ms qs) (hi : In.RM w b cs) (hi' : In.RM w b' cs) (hz : Fm.RM w d fs) (hz' : Fm.RM w d' fs) :
    Calls Tryz.prog 15 #[.agg #[.slice a ms.length ca, .slice b cs.length cb, .slice d fs.length cd, .int .i64 t], .agg #[.slice a' ms.length ca', .slice b' cs.length cb', .slice d' fs.length cd', .int .i64 t]] w fun e w' => e = .returned (.bool true) ∧ Below w.heap.size w w' := by
  have b0 : Below w.heap.size w ((w.alloc (.cells #[.slice a ms.length ca, .slice b cs.length cb, .slice d fs.length cd, .int .i64 t] 31)).alloc (.cells #[.slice a' ms.length ca', .slice b' cs.length cb', .slice d' fs.length cd', .int .i64 t] 31)) := ((Below.refl _ _).alloc (Nat.le_refl _) _).alloc (by simp) _
  have HX0 : Hid (NB _ w.heap.size _ _ _ _) := hide ((nb_new w (.slice a ms.length ca) (.slice b cs.length cb) (.slice d fs.length cd) t 31).below (bel_new _ (.cells #[.slice a' ms.length ca', .slice b' cs.length cb', .slice d' fs.length cd', .int .i64 t] 31)))
  have HY0 : Hid (NB _ (w.heap.size + 1) _ _ _ _) := hide (by have := nb_new (w.alloc (.cells #[.slice a ms.length ca, .slice b cs.length cb, .slice d fs.length cd, .int .i64 t] 31)) (.slice a' ms.length ca') (.slice b' cs.length cb') (.slice d' fs.length cd') t 31; simpa using this)
  have HB0 := hide b0
  have HR := hide (hr.below b0)
  have HR' := hide (hr'.below b0)
  have HI := hide (hi.below b0)
  have HI' := hide (hi'.below b0)
  have HZ := hide (hz.below b0)
  have HZ' := hide (hz'.below b0)
  have HS := hide hs
  have hne : (t != t) = false := by simp
  clear hr hr' hi hi' hz hz' hs b0
  go_enter Tryz.func15, Tryz.ntmps15
  go_wp2_with fail
  generalize (w.alloc (.cells #[.slice a ms.length ca, .slice b cs.length cb, .slice d fs.length cd, .int .i64 t] 31)).alloc (.cells #[.slice a' ms.length ca', .slice b' cs.length cb', .slice d' fs.length cd', .int .i64 t] 31) = w0 at *
  refine (eqNS _ _ ms ps qs _ _ _ hm (unhide HS) (unhide HR) (unhide HR')).mono ?_
  rintro e w1 ⟨rfl, b1⟩
  have HX1 := hide ((unhide HX0).below b1)
  have HY1 := hide ((unhide HY0).below b1)
  have HB1 := hide ((unhide HB0).trans (b1.mono (unhide HB0).size))
  have HI1 := hide ((unhide HI).below b1)
  have HI1' := hide ((unhide HI').below b1)
  have HZ1 := hide ((unhide HZ).below b1)
  have HZ1' := hide ((unhide HZ').below b1)
  clear HX0 HY0 HB0 HI HI' HZ HZ' HR HR' b1
  obtain ⟨p0, p1, p2, p3⟩ := unhide HX1
  obtain ⟨q0, q1, q2, q3⟩ := unhide HY1
  go_wp2_with fail
  clear p0 p1 p2 p3 q0 q1 q2 q3
  refine (In.eqS _ _ cs _ _ _ hc (unhide HI1) (unhide HI1')).mono ?_
  rintro e w2 ⟨rfl, b2⟩
  have HX2 := hide ((unhide HX1).below b2)
  have HY2 := hide ((unhide HY1).below b2)
  have HB2 := hide ((unhide HB1).trans (b2.mono (unhide HB1).size))
  have HZ2 := hide ((unhide HZ1).below b2)
  have HZ2' := hide ((unhide HZ1').below b2)
  clear HX1 HY1 HB1 HI1 HI1' HZ1 HZ1' b2
  obtain ⟨p0, p1, p2, p3⟩ := unhide HX2
  obtain ⟨q0, q1, q2, q3⟩ := unhide HY2
  go_wp2_with fail
  clear p0 p1 p2 p3 q0 q1 q2 q3
  refine (Fm.eqS _ _ fs _ _ _ hf (unhide HZ2) (unhide HZ2')).mono ?_
  rintro e w3 ⟨rfl, b3⟩
  have HX3 := hide ((unhide HX2).below b3)
  have HY3 := hide ((unhide HY2).below b3)
  have HB3 := hide ((unhide HB2).trans (b3.mono (unhide HB2).size))
  clear HX2 HY2 HB2 HZ2 HZ2' b3
  obtain ⟨p0, p1, p2, p3⟩ := unhide HX3
  obtain ⟨q0, q1, q2, q3⟩ := unhide HY3
  go_wp2_with fail
  go_ret
  exact ⟨rfl, unhide HB3⟩
end Nt
end Go.Proofs.YtfooahhdikobeaaGreat
namespace Go.Proofs.YtfooahhdikobeaaGreat.fnExactTrueDistance
open Go.ChangeShapes Go.WideShapes Go.ChangeAt Go.RowKit
open W1 Rt Nt
set_option linter.unusedVariables false
set_option linter.unusedSimpArgs false
theorem own : ownKnob Tryz.prog.godebug = none := by kernel_rfl
theorem laidOut : laidOutB Tryz.prog = true := by kernel_rfl
set_option maxRecDepth 100000 in
set_option maxHeartbeats 32000000 in
theorem walk (a b d : Option Addr) (ca cb cd : Nat) (t : Int) (ms : List Rm) (ps : List Pl) (cs : List Int) (fs : List Fm.R) (hx1 : ms.length ≤ maxLen) (hx2 : cs.length ≤ maxLen) (hx3 : fs.length ≤ maxLen) (hx4 : ∀ i, i < ms.length → Sx (ms.getD i Rm.zero)) (hx5 : ∀ i, i < fs.length → (fs.getD i Fm.R.zero).bs.size ≤ maxLen) (x : Int) (wx : (Lit.int .i64 x).wf = true) (y : Int) (wy : (Lit.int .i64 y).wf = true) (w : World) (hr : NR w a ms ps) (hi : In.RM w b cs) (hz : Fm.RM w d fs) :
    Calls Tryz.prog 6 #[.agg #[.slice a ms.length ca, .slice b cs.length cb, .slice d fs.length cd, .int .i64 t], .int .i64 x, .int .i64 y] w fun e w' => e = .returned (.bool true) ∧ Below w.heap.size w w' := by
  have Q0 := hide (nb_new w (.slice a ms.length ca) (.slice b cs.length cb) (.slice d fs.length cd) t 26)
  have B0 := bel_new w (.cells #[.slice a ms.length ca, .slice b cs.length cb, .slice d fs.length cd, .int .i64 t] 26)
  have HR0 := hide (hr.below B0)
  have HI0 := hide (hi.below B0)
  have HZ0 := hide (hz.below B0)
  clear hr hi hz
  go_enter Tryz.func6, Tryz.ntmps6
  obtain ⟨k0_0, k0_1, k0_2, k0_3⟩ := unhide Q0
  go_wp2_with fail
  clear k0_0 k0_1 k0_2 k0_3
  generalize hW_ : w.alloc (.cells #[.slice a ms.length ca, .slice b cs.length cb, .slice d fs.length cd, .int .i64 t] 26) = w0 at *
  clear hW_
  refine (szNt a b d ca cb cd t ms ps cs fs 1048576 _ (by omega) (by omega) hx1 hx2 hx3 hx4 hx5 (unhide HR0) (unhide HZ0)).mono ?_
  rintro e w1 ⟨r1, rfl, b1, hs_⟩
  have B1 := B0.trans (b1.mono B0.size)
  have Q1 := hide ((unhide Q0).below b1)
  have HR1 := hide ((unhide HR0).below b1)
  have HI1 := hide ((unhide HI0).below b1)
  have HZ1 := hide ((unhide HZ0).below b1)
  clear Q0 HR0 HI0 HZ0
  rcases hs_ with hs_ | ⟨hs0, hs1⟩
  · go_wp2_with fail
    go_ret
    exact ⟨rfl, B1⟩
  have hnn : ¬ r1 < 0 := by omega
  have t0_ := tot_nonneg ms
  have t1_ := totF_nonneg fs
  have hm1 : ms.length ≤ 1048576 := by omega
  have hm2 : cs.length ≤ 1048576 := by omega
  have hm3 : fs.length ≤ 1048576 := by omega
  have HSM := hide (fun i (hi : i < ms.length) => sm_of (m := ms.getD i Rm.zero) (by have := cnt_le hi; omega))
  have HTB := hide (show (ms.length : Int) + tot ms + cs.length + fs.length + totF fs ≤ 1048576 by omega)
  have HGZ := hide hx5
  clear hs0 hs1 t0_ t1_ hx1 hx2 hx3 hx4 hx5
  obtain ⟨v1, hv1_⟩ : ∃ v1, tdV (netB ms cs fs t) (inB x 1 ms.length) (inB y 1 ms.length) (tdD ms.length cs x y) = v1 := ⟨_, rfl⟩
  have Hv1 := hide hv1_
  clear hv1_
  have nv1 : (v1 != v1) = false := by simp
  obtain ⟨v2, hv2_⟩ : ∃ v2, tdC (netB ms cs fs t) (inB x 1 ms.length) (inB y 1 ms.length) (tdD ms.length cs x y) = v2 := ⟨_, rfl⟩
  have Hv2 := hide hv2_
  clear hv2_
  have nv2 : (v2 != v2) = false := by simp
  obtain ⟨k0_0, k0_1, k0_2, k0_3⟩ := unhide Q1
  go_wp2_with fail
  clear k0_0 k0_1 k0_2 k0_3
  refine (toNt a b d ca cb cd t ms ps cs fs _ hm1 hm2 hm3 (unhide HSM) (unhide HR1) ((unhide HI1)) (unhide HZ1)).mono ?_
  rintro e w2 ⟨s1, s2, s3, sq, rfl, b2, o_⟩
  have B2 := B1.trans (b2.mono B1.size)
  have Q2 := hide ((unhide Q1).below b2)
  have HR2 := hide ((unhide HR1).below b2)
  have HI2 := hide ((unhide HI1).below b2)
  have HZ2 := hide ((unhide HZ1).below b2)
  clear Q1 HR1 HI1 HZ1
  have S2 := hide o_
  clear o_
  go_wp2_with fail
  refine (specTD _ _ _ _ _ _ t ms _ cs fs x y _ hm1 hm2 hm3 (unhide HSM) (unhide HGZ) (unhide S2).nr (unhide S2).ri (unhide S2).rf).mono ?_
  rintro e w3 ⟨rfl, b3⟩
  have B3 := B2.trans (b3.mono B2.size)
  have Q3 := hide ((unhide Q2).below b3)
  have HR3 := hide ((unhide HR2).below b3)
  have HI3 := hide ((unhide HI2).below b3)
  have HZ3 := hide ((unhide HZ2).below b3)
  have S3 := hide ((unhide S2).below b3)
  clear Q2 HR2 HI2 HZ2 S2
  rw [unhide Hv1, unhide Hv2]
  clear S3
  obtain ⟨k0_0, k0_1, k0_2, k0_3⟩ := unhide Q3
  go_wp2_with fail
  clear k0_0 k0_1 k0_2 k0_3
  refine (toNt a b d ca cb cd t ms ps cs fs _ hm1 hm2 hm3 (unhide HSM) (unhide HR3) ((unhide HI3)) (unhide HZ3)).mono ?_
  rintro e w4 ⟨x1, x2, x3, xq, rfl, b4, o_⟩
  have B4 := B3.trans (b4.mono B3.size)
  have Q4 := hide ((unhide Q3).below b4)
  have HR4 := hide ((unhide HR3).below b4)
  have HI4 := hide ((unhide HI3).below b4)
  have HZ4 := hide ((unhide HZ3).below b4)
  clear Q3 HR3 HI3 HZ3
  have X4 := hide o_
  clear o_
  have b5 := bel_new w4 (.cells #[.slice (some ⟨x1, 0, none⟩) ms.length ms.length, .slice (some ⟨x2, 0, none⟩) cs.length cs.length, .slice (some ⟨x3, 0, none⟩) fs.length fs.length, .int .i64 t] 31)
  have B5 := B4.trans (b5.mono B4.size)
  have Q5 := hide ((unhide Q4).below b5)
  have HR5 := hide ((unhide HR4).below b5)
  have HI5 := hide ((unhide HI4).below b5)
  have HZ5 := hide ((unhide HZ4).below b5)
  have X5 := hide ((unhide X4).below b5)
  clear Q4 HR4 HI4 HZ4 X4
  have V5 := hide (nb_new w4 (.slice (some ⟨x1, 0, none⟩) ms.length ms.length) (.slice (some ⟨x2, 0, none⟩) cs.length cs.length) (.slice (some ⟨x3, 0, none⟩) fs.length fs.length) t 31)
  obtain ⟨k0_0, k0_1, k0_2, k0_3⟩ := unhide V5
  go_wp2_with fail
  clear k0_0 k0_1 k0_2 k0_3
  generalize hW_ : (w4.alloc (.cells #[.slice (some ⟨x1, 0, none⟩) ms.length ms.length, .slice (some ⟨x2, 0, none⟩) cs.length cs.length, .slice (some ⟨x3, 0, none⟩) fs.length fs.length, .int .i64 t] 31)) = w5 at *
  clear hW_
  refine (implTD _ _ _ _ _ _ t ms _ cs fs x y _ hm1 hm2 hm3 (unhide HSM) (unhide HGZ) (unhide X5).nr (unhide X5).ri (unhide X5).rf).mono ?_
  rintro e w6 ⟨rfl, b6⟩
  have B6 := B5.trans (b6.mono B5.size)
  have Q6 := hide ((unhide Q5).below b6)
  have HR6 := hide ((unhide HR5).below b6)
  have HI6 := hide ((unhide HI5).below b6)
  have HZ6 := hide ((unhide HZ5).below b6)
  have X6 := hide ((unhide X5).below b6)
  have V6 := hide ((unhide V5).below b6)
  clear Q5 HR5 HI5 HZ5 X5 V5
  rw [unhide Hv1, unhide Hv2]
  obtain ⟨k0_0, k0_1, k0_2, k0_3⟩ := unhide V6
  obtain ⟨k1_0, k1_1, k1_2, k1_3⟩ := unhide Q6
  go_wp2_with fail
  clear k0_0 k0_1 k0_2 k0_3 k1_0 k1_1 k1_2 k1_3
  refine wp_region_noPanic ?_
  refine wp_region_held_drew (S := fun w' => (w'.cell? ⟨w4.heap.size, 0, none⟩ = some (.slice (some ⟨x1, 0, none⟩) ms.length ms.length) ∧ w'.cell? ⟨w4.heap.size, 1, none⟩ = some (.slice (some ⟨x2, 0, none⟩) cs.length cs.length) ∧ w'.cell? ⟨w4.heap.size, 2, none⟩ = some (.slice (some ⟨x3, 0, none⟩) fs.length fs.length) ∧ w'.cell? ⟨w4.heap.size, 3, none⟩ = some (.int .i64 t)) ∧ (w'.cell? ⟨w.heap.size, 0, none⟩ = some (.slice a ms.length ca) ∧ w'.cell? ⟨w.heap.size, 1, none⟩ = some (.slice b cs.length cb) ∧ w'.cell? ⟨w.heap.size, 2, none⟩ = some (.slice d fs.length cd) ∧ w'.cell? ⟨w.heap.size, 3, none⟩ = some (.int .i64 t))) (by kernel_rfl) (⟨unhide V6, unhide Q6⟩) (fun hHeld => ?_)
  refine Rg.t (v := .agg #[.slice (some ⟨x1, 0, none⟩) ms.length ms.length, .slice (some ⟨x2, 0, none⟩) cs.length cs.length, .slice (some ⟨x3, 0, none⟩) fs.length fs.length, .int .i64 t]) 0 43 ?_ (hv := fun w0 hSw => execNB _ rfl rfl hSw.1)
  refine Rg.t (v := .agg #[.slice a ms.length ca, .slice b cs.length cb, .slice d fs.length cd, .int .i64 t]) 1 44 ?_ (hv := fun w0 hSw => execNW _ rfl rfl hSw.2)
  (refine Rg.o 2 (fun K hK => ?_); go_simp)
  refine (toNt a b d ca cb cd t ms ps cs fs _ hm1 hm2 hm3 (unhide HSM) (unhide HR6).drew (drewI (unhide HI6)) (unhide HZ6).drew).mono ?_
  rintro e w7 ⟨y1, y2, y3, yq, rfl, b7_, o_⟩
  have b7 : Below w6.heap.size w6 w7 := (Below.refl _ _).drew.trans b7_
  have B7 := B6.trans (b7.mono B6.size)
  have Q7 := hide ((unhide Q6).below b7)
  have HR7 := hide ((unhide HR6).below b7)
  have HI7 := hide ((unhide HI6).below b7)
  have HZ7 := hide ((unhide HZ6).below b7)
  have X7 := hide ((unhide X6).below b7)
  have V7 := hide ((unhide V6).below b7)
  clear Q6 HR6 HI6 HZ6 X6 V6
  have Y7 := hide o_
  clear o_
  refine hK.out _ _ (⟨unhide V7, unhide Q7⟩) (fun hHeld => ?_)
  clear hK K
  (try simp only [Act.put, List.setIfInBounds_toArray, List.set_cons_zero, List.set_cons_succ])
  (refine Rg.o 3 (fun K hK => ?_); go_simp)
  refine (eqNt _ _ _ _ _ _ _ _ _ _ _ _ t ms _ _ cs fs _ hm1 hm2 hm3 (unhide HSM) (unhide X7).nr (unhide Y7).nr (unhide X7).ri (unhide Y7).ri (unhide X7).rf (unhide Y7).rf).mono ?_
  rintro e w8 ⟨rfl, b8⟩
  have B8 := B7.trans (b8.mono B7.size)
  have Q8 := hide ((unhide Q7).below b8)
  have HR8 := hide ((unhide HR7).below b8)
  have HI8 := hide ((unhide HI7).below b8)
  have HZ8 := hide ((unhide HZ7).below b8)
  have X8 := hide ((unhide X7).below b8)
  have V8 := hide ((unhide V7).below b8)
  have Y8 := hide ((unhide Y7).below b8)
  clear Q7 HR7 HI7 HZ7 X7 V7 Y7
  clear Y8
  refine hK.out _ _ (⟨unhide V8, unhide Q8⟩) (fun hHeld => ?_)
  clear hK K
  (try simp only [Act.put, List.setIfInBounds_toArray, List.set_cons_zero, List.set_cons_succ])
  refine Rg.t 4 47 ?_
  refine wpAnyH_done (by kernel_rfl) (NoPanic.normal ?_) _
  clear hHeld
  have HF := hide B8
  go_wp2_with fail
  go_ret
  exact ⟨rfl, unhide HF⟩

end Go.Proofs.YtfooahhdikobeaaGreat.fnExactTrueDistance
