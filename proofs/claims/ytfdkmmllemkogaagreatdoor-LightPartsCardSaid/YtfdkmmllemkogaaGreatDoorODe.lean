/-
  The walk of LightParts, region by region.
-/
import Derived.Test.YtfdkmmllemkogaaGreatDoorODd
import Derived.Test.YtfdkmmllemkogaaGreatDoorOBd
namespace Go.Proofs.YtfdkmmllemkogaaGreatDoor
open Go.RowKit Go.Shelf
set_option linter.unusedVariables false
set_option linter.unusedSimpArgs false

noncomputable def partsOf (n : Nat) : Code := ((Tryz.f5.body.bind (tailAt1 n)).getD .skip)

/-- The arguments' variables, and what the walk keeps. -/
structure PK (w : World) (W H : Int) (a : Option Addr) (n c : Nat) (xs : List Nat) (cf ct rf rt n0 n1 n2 n3 : Int) (wx : World) (Bm Bs Bn : Nat) : Prop where
  below : Below w.heap.size w wx
  bm : wx.heap[Bm]? = some (.cells #[.int .i64 W, .int .i64 H, .slice a n c] 48 (0, 0))
  bs : wx.heap[Bs]? = some (.cells #[.int .i64 cf, .int .i64 ct, .int .i64 rf, .int .i64 rt] 71 (0, 0))
  bn : wx.heap[Bn]? = some (.cells #[.int .i64 n0, .int .i64 n1, .int .i64 n2, .int .i64 n3] 72 (0, 0))
  map : AnyMap wx a n c xs
theorem PK.kept {w : World} {W H : Int} {a : Option Addr} {n c : Nat} {xs : List Nat} {cf ct rf rt n0 n1 n2 n3 : Int} {wx w' : World} {Bm Bs Bn : Nat} (h : PK w W H a n c xs cf ct rf rt n0 n1 n2 n3 wx Bm Bs Bn) (hb : Below wx.heap.size wx w') : PK w W H a n c xs cf ct rf rt n0 n1 n2 n3 w' Bm Bs Bn :=
  ⟨h.below.trans (hb.mono h.below.size), (hb.block _ (lt_of_blk h.bm)).trans h.bm, (hb.block _ (lt_of_blk h.bs)).trans h.bs, (hb.block _ (lt_of_blk h.bn)).trans h.bn, h.map.below hb (Nat.le_refl _)⟩
theorem four_cells {w : World} {B : Nat} {T : TypeId} {x y z u : Value} (h : w.heap[B]? = some (.cells #[x, y, z, u] T (0, 0))) :
    w.cell? ⟨B, 0, none⟩ = some x ∧ w.cell? ⟨B, 1, none⟩ = some y ∧ w.cell? ⟨B, 2, none⟩ = some z ∧ w.cell? ⟨B, 3, none⟩ = some u :=
  ⟨by rw [cell_of_row w _ 0 _ _ (0, 0) h]; rfl, by rw [cell_of_row w _ 1 _ _ (0, 0) h]; rfl, by rw [cell_of_row w _ 2 _ _ (0, 0) h]; rfl, by rw [cell_of_row w _ 3 _ _ (0, 0) h]; rfl⟩
theorem three_cells {w : World} {B : Nat} {T : TypeId} {x y z : Value} (h : w.heap[B]? = some (.cells #[x, y, z] T (0, 0))) :
    w.cell? ⟨B, 0, none⟩ = some x ∧ w.cell? ⟨B, 1, none⟩ = some y ∧ w.cell? ⟨B, 2, none⟩ = some z :=
  ⟨by rw [cell_of_row w _ 0 _ _ (0, 0) h]; rfl, by rw [cell_of_row w _ 1 _ _ (0, 0) h]; rfl, by rw [cell_of_row w _ 2 _ _ (0, 0) h]; rfl⟩

/-- What the calls answer. -/
structure PartsC (W H : Int) (a : Option Addr) (n c : Nat) (xs : List Nat) (cf ct rf rt n0 n1 n2 n3 : Int) (r r1 q r2 : Int) (lP lQ : List Int) : Prop where
  own : ∀ wx : World, AnyMap wx a n c xs → Calls Tryz.prog 38 #[.agg #[.int .i64 W, .int .i64 H, .slice a n c]] wx fun e w' =>
    ∃ g c', e = .returned (.agg #[.int .i64 W, .int .i64 H, .slice (some ⟨g, 0, none⟩) n c']) ∧ AnyMap w' (some ⟨g, 0, none⟩) n c' xs ∧ Below wx.heap.size wx w'
  part : ∀ wx g c', AnyMap wx (some ⟨g, 0, none⟩) n c' xs → Answers 49 #[.agg #[.int .i64 W, .int .i64 H, .slice (some ⟨g, 0, none⟩) n c'], .agg #[.int .i64 cf, .int .i64 ct], .agg #[.int .i64 rf, .int .i64 rt]] wx r1 (ct - cf) (rt - rf) lP
  placed : ∀ wx g c', AnyMap wx (some ⟨g, 0, none⟩) n c' xs → Answers 50 #[.agg #[.int .i64 W, .int .i64 H, .slice (some ⟨g, 0, none⟩) n c'], .int .i64 n0, .int .i64 n1, .agg #[.int .i64 n2, .int .i64 n3]] wx r2 n0 n1 lQ
  chk : ∀ wx, AnyMap wx a n c xs → Calls Tryz.prog 41 #[.agg #[.int .i64 W, .int .i64 H, .slice a n c]] wx fun e w' => e = .returned (.int .i64 r) ∧ Below wx.heap.size wx w'
  rpart : r = 0 → r1 = 0 → ∀ wx, AnyMap wx a n c xs → AnswersMap 53 #[.agg #[.int .i64 W, .int .i64 H, .slice a n c], .agg #[.int .i64 cf, .int .i64 ct], .agg #[.int .i64 rf, .int .i64 rt]] wx (ct - cf) (rt - rf) lP
  rplaced : q = 0 → ∀ wx, AnyMap wx a n c xs → Answers 54 #[.agg #[.int .i64 W, .int .i64 H, .slice a n c], .int .i64 n0, .int .i64 n1, .agg #[.int .i64 n2, .int .i64 n3]] wx r2 n0 n1 lQ
  one : r = 0 → firstNZ [spanErr cf ct W, spanErr rf rt H] = r1
  one' : r ≠ 0 → r1 = r
  two : firstNZ [r, rangeErr n0 1 64, rangeErr n1 1 64] = q
  two' : q ≠ 0 → r2 = q

set_option maxHeartbeats 1600000 in
theorem pFirst_any (b o n c : Nat) (zs : List Int) (hz : zs.length = n) (hm : n ≤ 4611686018427387904) (w : World)
    (hc : ∀ j, j < n → w.cell? ⟨b, o + j, none⟩ = some (.int .i64 (zs[j]?.getD 0))) :
    Calls Tryz.prog 21 #[.slice (some ⟨b, o, none⟩) n c] w fun e w' => e = .returned (.int .i64 (firstNZ zs)) ∧ w = w' := by
  have K := Lib.hid (refFirst_any b o n c zs hz hm w hc)
  clear hz hm hc
  go_enter Tryz.func21, Tryz.ntmps21
  go_wp2_with (go_at_call 111; refine K.out.mono ?_; rintro e w1 ⟨rfl, rfl⟩)
  go_ret
  exact ⟨rfl, rfl⟩

set_option maxRecDepth 1000000 in
/-- What is still to be shown where the walk stands ahead of region 3. -/
def Prt3 (w : World) (W H : Int) (a : Option Addr) (n c : Nat) (xs : List Nat) (cf ct rf rt n0 n1 n2 n3 : Int) (r r1 q r2 : Int) (lP lQ : List Int) : Prop :=
  ∀ (wx : World) (Bm : Nat) (Bs : Nat) (Bn : Nat) (u7 u8 u9 u10 u11 u12 u13 u14 u15 u16 u17 u18 u19 u20 u21 u22 u23 u24 u25 u26 u27 u28 u29 u30 u31 u32 u33 u34 u35 u36 u37 u38 u39 u40 u41 u42 u43 u44 u45 u46 u47 u48 u49 u50 u51 u52 u53 u54 u55 u56 u57 u58 u59 u60 u61 u62 u63 u64 u65 u66 u67 u68 u69 u70 u71 u72 u73 u74 u75 u76 u77 u78 u79 u80 u81 u82 u83 u84 u85 u86 u87 u88 u89 u90 u91 u92 u93 u94 u95 u96 u97 u98 u99 u100 u101 u102 u103 u104 u105 u106 u107 u108 u109 u110 u111 u112 u113 : Value), (PK w W H a n c xs cf ct rf rt n0 n1 n2 n3 wx Bm Bs Bn) → Code.wp Tryz.prog (partsOf 3) (bodyPost Tryz.prog Tryz.f5 (TruePost w)) ⟨#[.agg #[.int .i64 W, .int .i64 H, .slice a n c], .agg #[.int .i64 cf, .int .i64 ct, .int .i64 rf, .int .i64 rt], .agg #[.int .i64 n0, .int .i64 n1, .int .i64 n2, .int .i64 n3], .pointer (some ⟨Bm, 0, none⟩), .pointer (some ⟨Bs, 0, none⟩), .pointer (some ⟨Bn, 0, none⟩), .bool false, u7, u8, u9, u10, u11, u12, u13, u14, u15, u16, u17, u18, u19, u20, u21, u22, u23, u24, u25, u26, u27, u28, u29, u30, u31, u32, u33, u34, u35, u36, u37, u38, u39, u40, u41, u42, u43, u44, u45, u46, u47, u48, u49, u50, u51, u52, u53, u54, u55, u56, u57, u58, u59, u60, u61, u62, u63, u64, u65, u66, u67, u68, u69, u70, u71, u72, u73, u74, u75, u76, u77, u78, u79, u80, u81, u82, u83, u84, u85, u86, u87, u88, u89, u90, u91, u92, u93, u94, u95, u96, u97, u98, u99, u100, u101, u102, u103, u104, u105, u106, u107, u108, u109, u110, u111, u112, u113], []⟩ wx

set_option maxRecDepth 1000000 in
/-- What is still to be shown where the walk stands ahead of region 4. -/
def Prt4 (w : World) (W H : Int) (a : Option Addr) (n c : Nat) (xs : List Nat) (cf ct rf rt n0 n1 n2 n3 : Int) (r r1 q r2 : Int) (lP lQ : List Int) : Prop :=
  ∀ (wx : World) (Bm : Nat) (Bs : Nat) (Bn : Nat) (B7 : Nat) (u9 u10 u11 u12 u13 u14 u15 u16 u17 u18 u19 u20 u21 u22 u23 u24 u25 u26 u27 u28 u29 u30 u31 u32 u33 u34 u35 u36 u37 u38 u39 u40 u41 u42 u43 u44 u45 u46 u47 u48 u49 u50 u51 u52 u53 u54 u55 u56 u57 u58 u59 u60 u61 u62 u63 u64 u65 u66 u67 u68 u69 u70 u71 u72 u73 u74 u75 u76 u77 u78 u79 u80 u81 u82 u83 u84 u85 u86 u87 u88 u89 u90 u91 u92 u93 u94 u95 u96 u97 u98 u99 u100 u101 u102 u103 u104 u105 u106 u107 u108 u109 u110 u111 u112 u113 : Value), (PK w W H a n c xs cf ct rf rt n0 n1 n2 n3 wx Bm Bs Bn) → (ResBox wx B7 54 r1 (ct - cf) (rt - rf) lP) → Code.wp Tryz.prog (partsOf 4) (bodyPost Tryz.prog Tryz.f5 (TruePost w)) ⟨#[.agg #[.int .i64 W, .int .i64 H, .slice a n c], .agg #[.int .i64 cf, .int .i64 ct, .int .i64 rf, .int .i64 rt], .agg #[.int .i64 n0, .int .i64 n1, .int .i64 n2, .int .i64 n3], .pointer (some ⟨Bm, 0, none⟩), .pointer (some ⟨Bs, 0, none⟩), .pointer (some ⟨Bn, 0, none⟩), .bool false, .pointer (some ⟨B7, 0, none⟩), .int .i64 r1, u9, u10, u11, u12, u13, u14, u15, u16, u17, u18, u19, u20, u21, u22, u23, u24, u25, u26, u27, u28, u29, u30, u31, u32, u33, u34, u35, u36, u37, u38, u39, u40, u41, u42, u43, u44, u45, u46, u47, u48, u49, u50, u51, u52, u53, u54, u55, u56, u57, u58, u59, u60, u61, u62, u63, u64, u65, u66, u67, u68, u69, u70, u71, u72, u73, u74, u75, u76, u77, u78, u79, u80, u81, u82, u83, u84, u85, u86, u87, u88, u89, u90, u91, u92, u93, u94, u95, u96, u97, u98, u99, u100, u101, u102, u103, u104, u105, u106, u107, u108, u109, u110, u111, u112, u113], []⟩ wx

set_option maxRecDepth 1000000 in
/-- What is still to be shown where the walk stands ahead of region 5. -/
def Prt5 (w : World) (W H : Int) (a : Option Addr) (n c : Nat) (xs : List Nat) (cf ct rf rt n0 n1 n2 n3 : Int) (r r1 q r2 : Int) (lP lQ : List Int) : Prop :=
  ∀ (wx : World) (Bm : Nat) (Bs : Nat) (Bn : Nat) (B7 : Nat) (B9 : Nat) (u11 u12 u13 u14 u15 u16 u17 u18 u19 u20 u21 u22 u23 u24 u25 u26 u27 u28 u29 u30 u31 u32 u33 u34 u35 u36 u37 u38 u39 u40 u41 u42 u43 u44 u45 u46 u47 u48 u49 u50 u51 u52 u53 u54 u55 u56 u57 u58 u59 u60 u61 u62 u63 u64 u65 u66 u67 u68 u69 u70 u71 u72 u73 u74 u75 u76 u77 u78 u79 u80 u81 u82 u83 u84 u85 u86 u87 u88 u89 u90 u91 u92 u93 u94 u95 u96 u97 u98 u99 u100 u101 u102 u103 u104 u105 u106 u107 u108 u109 u110 u111 u112 u113 : Value), (PK w W H a n c xs cf ct rf rt n0 n1 n2 n3 wx Bm Bs Bn) → (ResBox wx B7 54 r1 (ct - cf) (rt - rf) lP) → (ResBox wx B9 54 r2 n0 n1 lQ) → Code.wp Tryz.prog (partsOf 5) (bodyPost Tryz.prog Tryz.f5 (TruePost w)) ⟨#[.agg #[.int .i64 W, .int .i64 H, .slice a n c], .agg #[.int .i64 cf, .int .i64 ct, .int .i64 rf, .int .i64 rt], .agg #[.int .i64 n0, .int .i64 n1, .int .i64 n2, .int .i64 n3], .pointer (some ⟨Bm, 0, none⟩), .pointer (some ⟨Bs, 0, none⟩), .pointer (some ⟨Bn, 0, none⟩), .bool false, .pointer (some ⟨B7, 0, none⟩), .int .i64 r1, .pointer (some ⟨B9, 0, none⟩), .int .i64 r2, u11, u12, u13, u14, u15, u16, u17, u18, u19, u20, u21, u22, u23, u24, u25, u26, u27, u28, u29, u30, u31, u32, u33, u34, u35, u36, u37, u38, u39, u40, u41, u42, u43, u44, u45, u46, u47, u48, u49, u50, u51, u52, u53, u54, u55, u56, u57, u58, u59, u60, u61, u62, u63, u64, u65, u66, u67, u68, u69, u70, u71, u72, u73, u74, u75, u76, u77, u78, u79, u80, u81, u82, u83, u84, u85, u86, u87, u88, u89, u90, u91, u92, u93, u94, u95, u96, u97, u98, u99, u100, u101, u102, u103, u104, u105, u106, u107, u108, u109, u110, u111, u112, u113], []⟩ wx

set_option maxRecDepth 1000000 in
/-- What is still to be shown where the walk stands ahead of region 6. -/
def Prt6 (w : World) (W H : Int) (a : Option Addr) (n c : Nat) (xs : List Nat) (cf ct rf rt n0 n1 n2 n3 : Int) (r r1 q r2 : Int) (lP lQ : List Int) : Prop :=
  ∀ (wx : World) (Bm : Nat) (Bs : Nat) (Bn : Nat) (B7 : Nat) (B9 : Nat) (u12 u13 u14 u15 u16 u17 u18 u19 u20 u21 u22 u23 u24 u25 u26 u27 u28 u29 u30 u31 u32 u33 u34 u35 u36 u37 u38 u39 u40 u41 u42 u43 u44 u45 u46 u47 u48 u49 u50 u51 u52 u53 u54 u55 u56 u57 u58 u59 u60 u61 u62 u63 u64 u65 u66 u67 u68 u69 u70 u71 u72 u73 u74 u75 u76 u77 u78 u79 u80 u81 u82 u83 u84 u85 u86 u87 u88 u89 u90 u91 u92 u93 u94 u95 u96 u97 u98 u99 u100 u101 u102 u103 u104 u105 u106 u107 u108 u109 u110 u111 u112 u113 : Value), (PK w W H a n c xs cf ct rf rt n0 n1 n2 n3 wx Bm Bs Bn) → (ResBox wx B7 54 r1 (ct - cf) (rt - rf) lP) → (ResBox wx B9 54 r2 n0 n1 lQ) → Code.wp Tryz.prog (partsOf 6) (bodyPost Tryz.prog Tryz.f5 (TruePost w)) ⟨#[.agg #[.int .i64 W, .int .i64 H, .slice a n c], .agg #[.int .i64 cf, .int .i64 ct, .int .i64 rf, .int .i64 rt], .agg #[.int .i64 n0, .int .i64 n1, .int .i64 n2, .int .i64 n3], .pointer (some ⟨Bm, 0, none⟩), .pointer (some ⟨Bs, 0, none⟩), .pointer (some ⟨Bn, 0, none⟩), .bool false, .pointer (some ⟨B7, 0, none⟩), .int .i64 r1, .pointer (some ⟨B9, 0, none⟩), .int .i64 r2, .int .i64 r, u12, u13, u14, u15, u16, u17, u18, u19, u20, u21, u22, u23, u24, u25, u26, u27, u28, u29, u30, u31, u32, u33, u34, u35, u36, u37, u38, u39, u40, u41, u42, u43, u44, u45, u46, u47, u48, u49, u50, u51, u52, u53, u54, u55, u56, u57, u58, u59, u60, u61, u62, u63, u64, u65, u66, u67, u68, u69, u70, u71, u72, u73, u74, u75, u76, u77, u78, u79, u80, u81, u82, u83, u84, u85, u86, u87, u88, u89, u90, u91, u92, u93, u94, u95, u96, u97, u98, u99, u100, u101, u102, u103, u104, u105, u106, u107, u108, u109, u110, u111, u112, u113], []⟩ wx

set_option maxRecDepth 1000000 in
/-- What is still to be shown where the walk stands ahead of region 7. -/
def Prt7 (w : World) (W H : Int) (a : Option Addr) (n c : Nat) (xs : List Nat) (cf ct rf rt n0 n1 n2 n3 : Int) (r r1 q r2 : Int) (lP lQ : List Int) : Prop :=
  ∀ (wx : World) (Bm : Nat) (Bs : Nat) (Bn : Nat) (B7 : Nat) (B9 : Nat) (u14 u15 u16 u17 u18 u19 u20 u21 u22 u23 u24 u25 u26 u27 u28 u29 u30 u31 u32 u33 u34 u35 u36 u37 u38 u39 u40 u41 u42 u43 u44 u45 u46 u47 u48 u49 u50 u51 u52 u53 u54 u55 u56 u57 u58 u59 u60 u61 u62 u63 u64 u65 u66 u67 u68 u69 u70 u71 u72 u73 u74 u75 u76 u77 u78 u79 u80 u81 u82 u83 u84 u85 u86 u87 u88 u89 u90 u91 u92 u93 u94 u95 u96 u97 u98 u99 u100 u101 u102 u103 u104 u105 u106 u107 u108 u109 u110 u111 u112 u113 : Value), (PK w W H a n c xs cf ct rf rt n0 n1 n2 n3 wx Bm Bs Bn) → (ResBox wx B7 54 r1 (ct - cf) (rt - rf) lP) → (ResBox wx B9 54 r2 n0 n1 lQ) → Code.wp Tryz.prog (partsOf 7) (bodyPost Tryz.prog Tryz.f5 (TruePost w)) ⟨#[.agg #[.int .i64 W, .int .i64 H, .slice a n c], .agg #[.int .i64 cf, .int .i64 ct, .int .i64 rf, .int .i64 rt], .agg #[.int .i64 n0, .int .i64 n1, .int .i64 n2, .int .i64 n3], .pointer (some ⟨Bm, 0, none⟩), .pointer (some ⟨Bs, 0, none⟩), .pointer (some ⟨Bn, 0, none⟩), .bool false, .pointer (some ⟨B7, 0, none⟩), .int .i64 r1, .pointer (some ⟨B9, 0, none⟩), .int .i64 r2, .int .i64 r, .int .i64 r, .int .i64 q, u14, u15, u16, u17, u18, u19, u20, u21, u22, u23, u24, u25, u26, u27, u28, u29, u30, u31, u32, u33, u34, u35, u36, u37, u38, u39, u40, u41, u42, u43, u44, u45, u46, u47, u48, u49, u50, u51, u52, u53, u54, u55, u56, u57, u58, u59, u60, u61, u62, u63, u64, u65, u66, u67, u68, u69, u70, u71, u72, u73, u74, u75, u76, u77, u78, u79, u80, u81, u82, u83, u84, u85, u86, u87, u88, u89, u90, u91, u92, u93, u94, u95, u96, u97, u98, u99, u100, u101, u102, u103, u104, u105, u106, u107, u108, u109, u110, u111, u112, u113], []⟩ wx

set_option maxRecDepth 1000000 in
/-- What is still to be shown where the walk stands ahead of region 8. -/
def Prt8 (w : World) (W H : Int) (a : Option Addr) (n c : Nat) (xs : List Nat) (cf ct rf rt n0 n1 n2 n3 : Int) (r r1 q r2 : Int) (lP lQ : List Int) : Prop :=
  ∀ (wx : World) (w8 : World) (Bm : Nat) (Bs : Nat) (Bn : Nat) (B7 : Nat) (B9 : Nat) (u16 u17 u18 u19 u20 u21 u22 u23 u24 u25 u26 u27 u28 u29 u30 u31 u32 u33 u34 u35 u36 u37 u38 u39 u40 u41 u42 u43 u44 u45 u46 u47 u48 u49 u50 u51 u52 u53 u54 u55 u56 u57 u58 u59 u60 u61 u62 u63 u64 u65 u66 u67 u68 u69 u70 u71 u72 u73 u74 u75 u76 u77 u78 u79 u80 u81 u82 u83 u84 u85 u86 u87 u88 u89 u90 u91 u92 u93 u94 u95 u96 u97 u98 u99 u100 u101 u102 u103 u104 u105 u106 u107 u108 u109 u110 u111 u112 u113 : Value), (PK w W H a n c xs cf ct rf rt n0 n1 n2 n3 w8 Bm Bs Bn) → (ResBox w8 B7 54 r1 (ct - cf) (rt - rf) lP) → (ResBox w8 B9 54 r2 n0 n1 lQ) → (Below w8.heap.size w8 wx) → (wx.heap[w8.heap.size]? = some (.cells #[.int .i64 0, .int .i64 0, .slice none 0 0] 48 (0, 0))) → (wx.heap[w8.heap.size + 1]? = some (.cells #[.int .i64 0, .int .i64 0, .slice none 0 0] 48 (0, 0))) → Code.wp Tryz.prog (partsOf 8) (bodyPost Tryz.prog Tryz.f5 (TruePost w)) ⟨#[.agg #[.int .i64 W, .int .i64 H, .slice a n c], .agg #[.int .i64 cf, .int .i64 ct, .int .i64 rf, .int .i64 rt], .agg #[.int .i64 n0, .int .i64 n1, .int .i64 n2, .int .i64 n3], .pointer (some ⟨Bm, 0, none⟩), .pointer (some ⟨Bs, 0, none⟩), .pointer (some ⟨Bn, 0, none⟩), .bool false, .pointer (some ⟨B7, 0, none⟩), .int .i64 r1, .pointer (some ⟨B9, 0, none⟩), .int .i64 r2, .int .i64 r, .int .i64 r, .int .i64 q, .pointer (some ⟨w8.heap.size, 0, none⟩), .pointer (some ⟨w8.heap.size + 1, 0, none⟩), u16, u17, u18, u19, u20, u21, u22, u23, u24, u25, u26, u27, u28, u29, u30, u31, u32, u33, u34, u35, u36, u37, u38, u39, u40, u41, u42, u43, u44, u45, u46, u47, u48, u49, u50, u51, u52, u53, u54, u55, u56, u57, u58, u59, u60, u61, u62, u63, u64, u65, u66, u67, u68, u69, u70, u71, u72, u73, u74, u75, u76, u77, u78, u79, u80, u81, u82, u83, u84, u85, u86, u87, u88, u89, u90, u91, u92, u93, u94, u95, u96, u97, u98, u99, u100, u101, u102, u103, u104, u105, u106, u107, u108, u109, u110, u111, u112, u113], []⟩ wx

set_option maxRecDepth 1000000 in
/-- What is still to be shown where the walk stands ahead of region 10. -/
def Prt10 (w : World) (W H : Int) (a : Option Addr) (n c : Nat) (xs : List Nat) (cf ct rf rt n0 n1 n2 n3 : Int) (r r1 q r2 : Int) (lP lQ : List Int) : Prop :=
  ∀ (wx : World) (w8 : World) (Bm : Nat) (Bs : Nat) (Bn : Nat) (B7 : Nat) (B9 : Nat) (u16 u17 u18 u19 u20 u21 u22 u23 u24 u25 u26 u27 u28 u29 u30 u31 u32 u33 u34 u35 u36 u37 u38 u39 u40 u41 u42 u43 u44 u45 u46 u47 u48 u49 u50 u51 u52 u53 u54 u55 u56 u57 u58 u59 u60 u61 u62 u63 u64 u65 u66 u67 u68 u69 u70 u71 u72 u73 u74 u75 u76 u77 u78 u79 u80 u81 u82 u83 u84 u85 u86 u87 u88 u89 u90 u91 u92 u93 u94 u95 u96 u97 u98 u99 u100 u101 u102 u103 u104 u105 u106 u107 u108 u109 u110 u111 u112 u113 : Value), (PK w W H a n c xs cf ct rf rt n0 n1 n2 n3 w8 Bm Bs Bn) → (ResBox w8 B7 54 r1 (ct - cf) (rt - rf) lP) → (ResBox w8 B9 54 r2 n0 n1 lQ) → (Below w8.heap.size w8 wx) → (wx.heap[w8.heap.size]? = some (.cells #[.int .i64 0, .int .i64 0, .slice none 0 0] 48 (0, 0))) → (wx.heap[w8.heap.size + 1]? = some (.cells #[.int .i64 0, .int .i64 0, .slice none 0 0] 48 (0, 0))) → Code.wp Tryz.prog (partsOf 10) (bodyPost Tryz.prog Tryz.f5 (TruePost w)) ⟨#[.agg #[.int .i64 W, .int .i64 H, .slice a n c], .agg #[.int .i64 cf, .int .i64 ct, .int .i64 rf, .int .i64 rt], .agg #[.int .i64 n0, .int .i64 n1, .int .i64 n2, .int .i64 n3], .pointer (some ⟨Bm, 0, none⟩), .pointer (some ⟨Bs, 0, none⟩), .pointer (some ⟨Bn, 0, none⟩), .bool false, .pointer (some ⟨B7, 0, none⟩), .int .i64 r1, .pointer (some ⟨B9, 0, none⟩), .int .i64 r2, .int .i64 r, .int .i64 r1, .int .i64 q, .pointer (some ⟨w8.heap.size, 0, none⟩), .pointer (some ⟨w8.heap.size + 1, 0, none⟩), u16, u17, u18, u19, u20, u21, u22, u23, u24, u25, u26, u27, u28, u29, u30, u31, u32, u33, u34, u35, u36, u37, u38, u39, u40, u41, u42, u43, u44, u45, u46, u47, u48, u49, u50, u51, u52, u53, u54, u55, u56, u57, u58, u59, u60, u61, u62, u63, u64, u65, u66, u67, u68, u69, u70, u71, u72, u73, u74, u75, u76, u77, u78, u79, u80, u81, u82, u83, u84, u85, u86, u87, u88, u89, u90, u91, u92, u93, u94, u95, u96, u97, u98, u99, u100, u101, u102, u103, u104, u105, u106, u107, u108, u109, u110, u111, u112, u113], []⟩ wx

set_option maxRecDepth 1000000 in
/-- What is still to be shown where the walk stands ahead of region 12. -/
def Prt12 (w : World) (W H : Int) (a : Option Addr) (n c : Nat) (xs : List Nat) (cf ct rf rt n0 n1 n2 n3 : Int) (r r1 q r2 : Int) (lP lQ : List Int) : Prop :=
  ∀ (wx : World) (w8 : World) (Bm : Nat) (Bs : Nat) (Bn : Nat) (B7 : Nat) (B9 : Nat) (u16 u17 u18 u19 u20 u21 u22 u23 u24 u25 u26 u27 u28 u29 u30 u31 u32 u33 u34 u35 u36 u37 u38 u39 u40 u41 u42 u43 u44 u45 u46 u47 u48 u49 u50 u51 u52 u53 u54 u55 u56 u57 u58 u59 u60 u61 u62 u63 u64 u65 u66 u67 u68 u69 u70 u71 u72 u73 u74 u75 u76 u77 u78 u79 u80 u81 u82 u83 u84 u85 u86 u87 u88 u89 u90 u91 u92 u93 u94 u95 u96 u97 u98 u99 u100 u101 u102 u103 u104 u105 u106 u107 u108 u109 u110 u111 u112 u113 : Value), (PK w W H a n c xs cf ct rf rt n0 n1 n2 n3 w8 Bm Bs Bn) → (ResBox w8 B7 54 r1 (ct - cf) (rt - rf) lP) → (ResBox w8 B9 54 r2 n0 n1 lQ) → (Below w8.heap.size w8 wx) → (WantBox wx w8.heap.size r1 (ct - cf) (rt - rf) lP) → (wx.heap[w8.heap.size + 1]? = some (.cells #[.int .i64 0, .int .i64 0, .slice none 0 0] 48 (0, 0))) → Code.wp Tryz.prog (partsOf 12) (bodyPost Tryz.prog Tryz.f5 (TruePost w)) ⟨#[.agg #[.int .i64 W, .int .i64 H, .slice a n c], .agg #[.int .i64 cf, .int .i64 ct, .int .i64 rf, .int .i64 rt], .agg #[.int .i64 n0, .int .i64 n1, .int .i64 n2, .int .i64 n3], .pointer (some ⟨Bm, 0, none⟩), .pointer (some ⟨Bs, 0, none⟩), .pointer (some ⟨Bn, 0, none⟩), .bool false, .pointer (some ⟨B7, 0, none⟩), .int .i64 r1, .pointer (some ⟨B9, 0, none⟩), .int .i64 r2, .int .i64 r, .int .i64 r1, .int .i64 q, .pointer (some ⟨w8.heap.size, 0, none⟩), .pointer (some ⟨w8.heap.size + 1, 0, none⟩), u16, u17, u18, u19, u20, u21, u22, u23, u24, u25, u26, u27, u28, u29, u30, u31, u32, u33, u34, u35, u36, u37, u38, u39, u40, u41, u42, u43, u44, u45, u46, u47, u48, u49, u50, u51, u52, u53, u54, u55, u56, u57, u58, u59, u60, u61, u62, u63, u64, u65, u66, u67, u68, u69, u70, u71, u72, u73, u74, u75, u76, u77, u78, u79, u80, u81, u82, u83, u84, u85, u86, u87, u88, u89, u90, u91, u92, u93, u94, u95, u96, u97, u98, u99, u100, u101, u102, u103, u104, u105, u106, u107, u108, u109, u110, u111, u112, u113], []⟩ wx

set_option maxRecDepth 1000000 in
/-- What is still to be shown where the walk stands ahead of region 14. -/
def Prt14 (w : World) (W H : Int) (a : Option Addr) (n c : Nat) (xs : List Nat) (cf ct rf rt n0 n1 n2 n3 : Int) (r r1 q r2 : Int) (lP lQ : List Int) : Prop :=
  ∀ (wx : World) (w8 : World) (Bm : Nat) (Bs : Nat) (Bn : Nat) (B7 : Nat) (B9 : Nat) (u16 u17 u18 u19 u20 u21 u22 u23 u24 u25 u26 u27 u28 u29 u30 u31 u32 u33 u34 u35 u36 u37 u38 u39 u40 u41 u42 u43 u44 u45 u46 u47 u48 u49 u50 u51 u52 u53 u54 u55 u56 u57 u58 u59 u60 u61 u62 u63 u64 u65 u66 u67 u68 u69 u70 u71 u72 u73 u74 u75 u76 u77 u78 u79 u80 u81 u82 u83 u84 u85 u86 u87 u88 u89 u90 u91 u92 u93 u94 u95 u96 u97 u98 u99 u100 u101 u102 u103 u104 u105 u106 u107 u108 u109 u110 u111 u112 u113 : Value), (PK w W H a n c xs cf ct rf rt n0 n1 n2 n3 w8 Bm Bs Bn) → (ResBox w8 B7 54 r1 (ct - cf) (rt - rf) lP) → (ResBox w8 B9 54 r2 n0 n1 lQ) → (Below w8.heap.size w8 wx) → (WantBox wx w8.heap.size r1 (ct - cf) (rt - rf) lP) → (WantBox wx (w8.heap.size + 1) r2 n0 n1 lQ) → Code.wp Tryz.prog (partsOf 14) (bodyPost Tryz.prog Tryz.f5 (TruePost w)) ⟨#[.agg #[.int .i64 W, .int .i64 H, .slice a n c], .agg #[.int .i64 cf, .int .i64 ct, .int .i64 rf, .int .i64 rt], .agg #[.int .i64 n0, .int .i64 n1, .int .i64 n2, .int .i64 n3], .pointer (some ⟨Bm, 0, none⟩), .pointer (some ⟨Bs, 0, none⟩), .pointer (some ⟨Bn, 0, none⟩), .bool false, .pointer (some ⟨B7, 0, none⟩), .int .i64 r1, .pointer (some ⟨B9, 0, none⟩), .int .i64 r2, .int .i64 r, .int .i64 r1, .int .i64 r2, .pointer (some ⟨w8.heap.size, 0, none⟩), .pointer (some ⟨w8.heap.size + 1, 0, none⟩), u16, u17, u18, u19, u20, u21, u22, u23, u24, u25, u26, u27, u28, u29, u30, u31, u32, u33, u34, u35, u36, u37, u38, u39, u40, u41, u42, u43, u44, u45, u46, u47, u48, u49, u50, u51, u52, u53, u54, u55, u56, u57, u58, u59, u60, u61, u62, u63, u64, u65, u66, u67, u68, u69, u70, u71, u72, u73, u74, u75, u76, u77, u78, u79, u80, u81, u82, u83, u84, u85, u86, u87, u88, u89, u90, u91, u92, u93, u94, u95, u96, u97, u98, u99, u100, u101, u102, u103, u104, u105, u106, u107, u108, u109, u110, u111, u112, u113], []⟩ wx

set_option maxRecDepth 1000000 in
set_option maxHeartbeats 12800000 in
theorem parts3 (w : World) (W H : Int) (a : Option Addr) (n c : Nat) (xs : List Nat) (cf ct rf rt n0 n1 n2 n3 : Int) (r r1 q r2 : Int) (lP lQ : List Int) (hC : PartsC W H a n c xs cf ct rf rt n0 n1 n2 n3 r r1 q r2 lP lQ) (hT : Prt4 w W H a n c xs cf ct rf rt n0 n1 n2 n3 r r1 q r2 lP lQ) : Prt3 w W H a n c xs cf ct rf rt n0 n1 n2 n3 r r1 q r2 lP lQ := by
  unfold Prt3
  intro wx Bm Bs Bn u7 u8 u9 u10 u11 u12 u13 u14 u15 u16 u17 u18 u19 u20 u21 u22 u23 u24 u25 u26 u27 u28 u29 u30 u31 u32 u33 u34 u35 u36 u37 u38 u39 u40 u41 u42 u43 u44 u45 u46 u47 u48 u49 u50 u51 u52 u53 u54 u55 u56 u57 u58 u59 u60 u61 u62 u63 u64 u65 u66 u67 u68 u69 u70 u71 u72 u73 u74 u75 u76 u77 u78 u79 u80 u81 u82 u83 u84 u85 u86 u87 u88 u89 u90 u91 u92 u93 u94 u95 u96 u97 u98 u99 u100 u101 u102 u103 u104 u105 u106 u107 u108 u109 u110 u111 u112 u113 hM
  conv => arg 2; whnf
  dsimp only
  go_upto_region 3 with fail
  go_cut [7, 8] (fun s7 s8 wr => (∃ B, s7 = .pointer (some ⟨B, 0, none⟩) ∧ ResBox wr B 54 r1 (ct - cf) (rt - rf) lP) ∧ s8 = .int .i64 r1 ∧ Below wx.heap.size wx wr)
  case first =>
    have hla := lt_of_blk hM.bm
    have hlb := lt_of_blk hM.bs
    obtain ⟨c0, c1, c2⟩ := map_cells hM.bm
    obtain ⟨d0, d1, d2, d3⟩ := four_cells hM.bs
    have HMA := hM.map
    have KO : Hid (∀ w1 : World, Blw wx.heap.size wx w1 → Calls Tryz.prog 38 #[.agg #[.int .i64 W, .int .i64 H, .slice a n c]] w1 fun e w' =>
        ∃ g c', e = .returned (.agg #[.int .i64 W, .int .i64 H, .slice (some ⟨g, 0, none⟩) n c']) ∧ AnyMap w' (some ⟨g, 0, none⟩) n c' xs ∧ Below w1.heap.size w1 w' ∧ Below wx.heap.size wx w') :=
      Lib.hid (fun w1 (h : Below wx.heap.size wx w1) => (hC.own w1 (HMA.below h (Nat.le_refl _))).mono fun e w' ⟨g, c', he, hm, hb⟩ => ⟨g, c', he, hm, hb, h.trans (hb.mono h.size)⟩)
    have KA : Hid (∀ w1 g c', AnyMap w1 (some ⟨g, 0, none⟩) n c' xs → Blw wx.heap.size wx w1 → Calls Tryz.prog 49 #[.agg #[.int .i64 W, .int .i64 H, .slice (some ⟨g, 0, none⟩) n c'], .agg #[.int .i64 cf, .int .i64 ct], .agg #[.int .i64 rf, .int .i64 rt]] w1 fun e w' =>
        ∃ X Y a' n' c'', e = .returned (.tuple #[.agg #[.int .i64 X, .int .i64 Y, .slice a' n' c''], .int .i64 r1]) ∧ ResV w' r1 (ct - cf) (rt - rf) lP X Y a' n' c'' ∧ Below w1.heap.size w1 w' ∧ Below wx.heap.size wx w') :=
      Lib.hid (fun w1 g c' h1 (h : Below wx.heap.size wx w1) => (hC.part w1 g c' h1).mono fun e w' ⟨X, Y, a', n', c'', he, hr, hb⟩ => ⟨X, Y, a', n', c'', he, hr, hb, h.trans (hb.mono h.size)⟩)
    clear hC hT hM HMA 
    have hR : Blw wx.heap.size wx wx.drew := show Below _ _ _ from (Below.refl wx.heap.size wx).drew
    go_region_held3 (fun w' => w'.cell? ⟨Bm, 0, none⟩ = some (.int .i64 W) ∧ w'.cell? ⟨Bm, 1, none⟩ = some (.int .i64 H) ∧ w'.cell? ⟨Bm, 2, none⟩ = some (.slice a n c) ∧ w'.cell? ⟨Bs, 0, none⟩ = some (.int .i64 cf) ∧ w'.cell? ⟨Bs, 1, none⟩ = some (.int .i64 ct) ∧ w'.cell? ⟨Bs, 2, none⟩ = some (.int .i64 rf) ∧ w'.cell? ⟨Bs, 3, none⟩ = some (.int .i64 rt) ∧ Blw wx.heap.size wx w')
      (first
        | (go_split_ands; refine ⟨?_, ?_, ?_, ?_, ?_, ?_, ?_, ?_⟩ <;> first | (with_reducible assumption) | exact hb2 | ((rw [hb2.cell (by simp; try omega)]; assumption)))
        | (go_split_ands; refine ⟨?_, ?_, ?_, ?_, ?_, ?_, ?_, ?_⟩ <;> first | ((rw [(hb2.alloc hb2.size _).cell (by simp; try omega)]; assumption)) | exact (hb2.alloc hb2.size _ : Below _ _ _))
        | (go_split_ands; refine ⟨?_, ?_, ?_, ?_, ?_, ?_, ?_, ?_⟩ <;> first | ((refine Eq.trans (Below.cell (B := wx.heap.size) (w := wx) (below_set3 hb2 ?_ _ _ _) ?_) ?_ <;> first | assumption | omega | (simp; done) | (simp; omega)); done) | ((refine (below_set3 hb2 ?_ _ _ _ : Below _ _ _) <;> first | omega | (simp; done) | (simp; omega)); done))
        | (go_split_ands; refine ⟨?_, ?_, ?_, ?_, ?_, ?_, ?_, ?_⟩ <;> first | ((rw [((Below.refl wx.heap.size wx).alloc (Nat.le_refl _) _).drew.cell (by simp; try omega)]; assumption)) | exact (((Below.refl wx.heap.size wx).alloc (Nat.le_refl _) _).drew : Below _ _ _))
        | go_keep)
      (first
        | (go_at_call 38; refine (KO.out _ ?_).mono ?_; rotate_left 1; rintro e wA ⟨ga, ca, rfl, hmA, hbA, hb2⟩; (obtain ⟨hcA, hfA⟩ := bcell hbA); (have hsA := hbA.size); (try simp at hsA); (try have hq0 : wx.heap.size < wA.heap.size := by omega); rotate_left 1; (simp [*]))
        | (go_at_call 49; refine (KA.out _ _ _ (by first | exact hmA | exact hmA.below ((Below.refl _ wA).alloc (Nat.le_refl _) _) (Nat.le_refl _)) (by first | exact (hb2 : Below _ _ _) | exact (hb2.alloc hb2.size _ : Below _ _ _))).mono ?_; rintro e wC ⟨X, Y, a', n', c'', rfl, hres, hbC, hb2⟩; (obtain ⟨hcC, hfC⟩ := bcell hbC); (have hsC := hbC.size); (try simp at hsC); (try have hq4 : wA.heap.size < wC.heap.size := by omega); (try have hq5 : wx.heap.size < wC.heap.size := by omega)))
    all_goals go_wp2_with fail
    all_goals go_meet
    all_goals first
      | exact ⟨⟨_, rfl, ResBox.new hres⟩, rfl, hb2.alloc hb2.size _⟩
      | (have z := (hbC.block wA.heap.size (by simp)).trans (blk_alloc_new wA _); exact ⟨⟨_, rfl, ResBox.put z hres⟩, rfl, below_set3 hb2 (by omega) _ _ _⟩)
      | (have z := (hbC.block wx.heap.size (by omega)).trans ((hbA.block wx.heap.size (by simp)).trans (blk_alloc_new wx _)); exact ⟨⟨_, rfl, ResBox.put z hres⟩, rfl, below_set3 hb2 (by omega) _ _ _⟩)
  case rest =>
    rename_i hK
    obtain ⟨⟨Bx, rfl, hbx⟩, rfl, hb⟩ := hcut
    refine hK _ _ ?_
    clear hK
    unfold Prt4 at hT
    exact hT _  _ _ _ _ _ _ _ _ _ _ _ _ _ _ _ _ _ _ _ _ _ _ _ _ _ _ _ _ _ _ _ _ _ _ _ _ _ _ _ _ _ _ _ _ _ _ _ _ _ _ _ _ _ _ _ _ _ _ _ _ _ _ _ _ _ _ _ _ _ _ _ _ _ _ _ _ _ _ _ _ _ _ _ _ _ _ _ _ _ _ _ _ _ _ _ _ _ _ _ _ _ _ _ _ _ _ _ _ _  (hM.kept hb) hbx

set_option maxRecDepth 1000000 in
set_option maxHeartbeats 12800000 in
theorem parts4 (w : World) (W H : Int) (a : Option Addr) (n c : Nat) (xs : List Nat) (cf ct rf rt n0 n1 n2 n3 : Int) (r r1 q r2 : Int) (lP lQ : List Int) (hC : PartsC W H a n c xs cf ct rf rt n0 n1 n2 n3 r r1 q r2 lP lQ) (hT : Prt5 w W H a n c xs cf ct rf rt n0 n1 n2 n3 r r1 q r2 lP lQ) : Prt4 w W H a n c xs cf ct rf rt n0 n1 n2 n3 r r1 q r2 lP lQ := by
  unfold Prt4
  intro wx Bm Bs Bn B7 u9 u10 u11 u12 u13 u14 u15 u16 u17 u18 u19 u20 u21 u22 u23 u24 u25 u26 u27 u28 u29 u30 u31 u32 u33 u34 u35 u36 u37 u38 u39 u40 u41 u42 u43 u44 u45 u46 u47 u48 u49 u50 u51 u52 u53 u54 u55 u56 u57 u58 u59 u60 u61 u62 u63 u64 u65 u66 u67 u68 u69 u70 u71 u72 u73 u74 u75 u76 u77 u78 u79 u80 u81 u82 u83 u84 u85 u86 u87 u88 u89 u90 u91 u92 u93 u94 u95 u96 u97 u98 u99 u100 u101 u102 u103 u104 u105 u106 u107 u108 u109 u110 u111 u112 u113 hM f7
  conv => arg 2; whnf
  dsimp only
  go_upto_region 4 with fail
  go_cut [9, 10] (fun s9 s10 wr => (∃ B, s9 = .pointer (some ⟨B, 0, none⟩) ∧ ResBox wr B 54 r2 n0 n1 lQ) ∧ s10 = .int .i64 r2 ∧ Below wx.heap.size wx wr)
  case first =>
    have hla := lt_of_blk hM.bm
    have hlb := lt_of_blk hM.bn
    obtain ⟨c0, c1, c2⟩ := map_cells hM.bm
    obtain ⟨d0, d1, d2, d3⟩ := four_cells hM.bn
    have HMA := hM.map
    have KO : Hid (∀ w1 : World, Blw wx.heap.size wx w1 → Calls Tryz.prog 38 #[.agg #[.int .i64 W, .int .i64 H, .slice a n c]] w1 fun e w' =>
        ∃ g c', e = .returned (.agg #[.int .i64 W, .int .i64 H, .slice (some ⟨g, 0, none⟩) n c']) ∧ AnyMap w' (some ⟨g, 0, none⟩) n c' xs ∧ Below w1.heap.size w1 w' ∧ Below wx.heap.size wx w') :=
      Lib.hid (fun w1 (h : Below wx.heap.size wx w1) => (hC.own w1 (HMA.below h (Nat.le_refl _))).mono fun e w' ⟨g, c', he, hm, hb⟩ => ⟨g, c', he, hm, hb, h.trans (hb.mono h.size)⟩)
    have KA : Hid (∀ w1 g c', AnyMap w1 (some ⟨g, 0, none⟩) n c' xs → Blw wx.heap.size wx w1 → Calls Tryz.prog 50 #[.agg #[.int .i64 W, .int .i64 H, .slice (some ⟨g, 0, none⟩) n c'], .int .i64 n0, .int .i64 n1, .agg #[.int .i64 n2, .int .i64 n3]] w1 fun e w' =>
        ∃ X Y a' n' c'', e = .returned (.tuple #[.agg #[.int .i64 X, .int .i64 Y, .slice a' n' c''], .int .i64 r2]) ∧ ResV w' r2 n0 n1 lQ X Y a' n' c'' ∧ Below w1.heap.size w1 w' ∧ Below wx.heap.size wx w') :=
      Lib.hid (fun w1 g c' h1 (h : Below wx.heap.size wx w1) => (hC.placed w1 g c' h1).mono fun e w' ⟨X, Y, a', n', c'', he, hr, hb⟩ => ⟨X, Y, a', n', c'', he, hr, hb, h.trans (hb.mono h.size)⟩)
    clear hC hT hM HMA f7
    have hR : Blw wx.heap.size wx wx.drew := show Below _ _ _ from (Below.refl wx.heap.size wx).drew
    go_region_held3 (fun w' => w'.cell? ⟨Bm, 0, none⟩ = some (.int .i64 W) ∧ w'.cell? ⟨Bm, 1, none⟩ = some (.int .i64 H) ∧ w'.cell? ⟨Bm, 2, none⟩ = some (.slice a n c) ∧ w'.cell? ⟨Bn, 0, none⟩ = some (.int .i64 n0) ∧ w'.cell? ⟨Bn, 1, none⟩ = some (.int .i64 n1) ∧ w'.cell? ⟨Bn, 2, none⟩ = some (.int .i64 n2) ∧ w'.cell? ⟨Bn, 3, none⟩ = some (.int .i64 n3) ∧ Blw wx.heap.size wx w')
      (first
        | (go_split_ands; refine ⟨?_, ?_, ?_, ?_, ?_, ?_, ?_, ?_⟩ <;> first | (with_reducible assumption) | exact hb2 | ((rw [hb2.cell (by simp; try omega)]; assumption)))
        | (go_split_ands; refine ⟨?_, ?_, ?_, ?_, ?_, ?_, ?_, ?_⟩ <;> first | ((rw [(hb2.alloc hb2.size _).cell (by simp; try omega)]; assumption)) | exact (hb2.alloc hb2.size _ : Below _ _ _))
        | (go_split_ands; refine ⟨?_, ?_, ?_, ?_, ?_, ?_, ?_, ?_⟩ <;> first | ((refine Eq.trans (Below.cell (B := wx.heap.size) (w := wx) (below_set3 hb2 ?_ _ _ _) ?_) ?_ <;> first | assumption | omega | (simp; done) | (simp; omega)); done) | ((refine (below_set3 hb2 ?_ _ _ _ : Below _ _ _) <;> first | omega | (simp; done) | (simp; omega)); done))
        | (go_split_ands; refine ⟨?_, ?_, ?_, ?_, ?_, ?_, ?_, ?_⟩ <;> first | ((rw [((Below.refl wx.heap.size wx).alloc (Nat.le_refl _) _).drew.cell (by simp; try omega)]; assumption)) | exact (((Below.refl wx.heap.size wx).alloc (Nat.le_refl _) _).drew : Below _ _ _))
        | go_keep)
      (first
        | (go_at_call 38; refine (KO.out _ ?_).mono ?_; rotate_left 1; rintro e wA ⟨ga, ca, rfl, hmA, hbA, hb2⟩; (obtain ⟨hcA, hfA⟩ := bcell hbA); (have hsA := hbA.size); (try simp at hsA); (try have hq0 : wx.heap.size < wA.heap.size := by omega); rotate_left 1; (simp [*]))
        | (go_at_call 50; refine (KA.out _ _ _ (by first | exact hmA | exact hmA.below ((Below.refl _ wA).alloc (Nat.le_refl _) _) (Nat.le_refl _)) (by first | exact (hb2 : Below _ _ _) | exact (hb2.alloc hb2.size _ : Below _ _ _))).mono ?_; rintro e wC ⟨X, Y, a', n', c'', rfl, hres, hbC, hb2⟩; (obtain ⟨hcC, hfC⟩ := bcell hbC); (have hsC := hbC.size); (try simp at hsC); (try have hq4 : wA.heap.size < wC.heap.size := by omega); (try have hq5 : wx.heap.size < wC.heap.size := by omega)))
    all_goals go_wp2_with fail
    all_goals go_meet
    all_goals first
      | exact ⟨⟨_, rfl, ResBox.new hres⟩, rfl, hb2.alloc hb2.size _⟩
      | (have z := (hbC.block wA.heap.size (by simp)).trans (blk_alloc_new wA _); exact ⟨⟨_, rfl, ResBox.put z hres⟩, rfl, below_set3 hb2 (by omega) _ _ _⟩)
      | (have z := (hbC.block wx.heap.size (by omega)).trans ((hbA.block wx.heap.size (by simp)).trans (blk_alloc_new wx _)); exact ⟨⟨_, rfl, ResBox.put z hres⟩, rfl, below_set3 hb2 (by omega) _ _ _⟩)
  case rest =>
    rename_i hK
    obtain ⟨⟨Bx, rfl, hbx⟩, rfl, hb⟩ := hcut
    refine hK _ _ ?_
    clear hK
    unfold Prt5 at hT
    exact hT _  _ _ _ _ _ _ _ _ _ _ _ _ _ _ _ _ _ _ _ _ _ _ _ _ _ _ _ _ _ _ _ _ _ _ _ _ _ _ _ _ _ _ _ _ _ _ _ _ _ _ _ _ _ _ _ _ _ _ _ _ _ _ _ _ _ _ _ _ _ _ _ _ _ _ _ _ _ _ _ _ _ _ _ _ _ _ _ _ _ _ _ _ _ _ _ _ _ _ _ _ _ _ _ _ _ _ _ _  (hM.kept hb) (f7.kept hb) hbx

set_option maxRecDepth 1000000 in
set_option maxHeartbeats 12800000 in
theorem parts5 (w : World) (W H : Int) (a : Option Addr) (n c : Nat) (xs : List Nat) (cf ct rf rt n0 n1 n2 n3 : Int) (r r1 q r2 : Int) (lP lQ : List Int) (hC : PartsC W H a n c xs cf ct rf rt n0 n1 n2 n3 r r1 q r2 lP lQ) (hT : Prt6 w W H a n c xs cf ct rf rt n0 n1 n2 n3 r r1 q r2 lP lQ) : Prt5 w W H a n c xs cf ct rf rt n0 n1 n2 n3 r r1 q r2 lP lQ := by
  unfold Prt5
  intro wx Bm Bs Bn B7 B9 u11 u12 u13 u14 u15 u16 u17 u18 u19 u20 u21 u22 u23 u24 u25 u26 u27 u28 u29 u30 u31 u32 u33 u34 u35 u36 u37 u38 u39 u40 u41 u42 u43 u44 u45 u46 u47 u48 u49 u50 u51 u52 u53 u54 u55 u56 u57 u58 u59 u60 u61 u62 u63 u64 u65 u66 u67 u68 u69 u70 u71 u72 u73 u74 u75 u76 u77 u78 u79 u80 u81 u82 u83 u84 u85 u86 u87 u88 u89 u90 u91 u92 u93 u94 u95 u96 u97 u98 u99 u100 u101 u102 u103 u104 u105 u106 u107 u108 u109 u110 u111 u112 u113 hM f7 f9
  conv => arg 2; whnf
  dsimp only
  go_upto_region 5 with fail
  go_cut [11] (fun s11 wr => s11 = .int .i64 r ∧ Below wx.heap.size wx wr)
  case first =>
    have hmap := hM.map
    obtain ⟨c0, c1, c2⟩ := map_cells hM.bm
    have KR := Lib.hid (hC.chk wx hmap)
    clear hC hT hmap
    go_wp2_with (go_at_call 41; refine KR.out.mono ?_; rintro e w1 ⟨rfl, hb1⟩)
    go_meet
    exact ⟨rfl, hb1⟩
  case rest =>
    rename_i hK
    obtain ⟨rfl, hb⟩ := hcut
    refine hK _ _ ?_
    clear hK
    unfold Prt6 at hT
    exact hT _  _ _ _ _ _ _ _ _ _ _ _ _ _ _ _ _ _ _ _ _ _ _ _ _ _ _ _ _ _ _ _ _ _ _ _ _ _ _ _ _ _ _ _ _ _ _ _ _ _ _ _ _ _ _ _ _ _ _ _ _ _ _ _ _ _ _ _ _ _ _ _ _ _ _ _ _ _ _ _ _ _ _ _ _ _ _ _ _ _ _ _ _ _ _ _ _ _ _ _ _ _ _ _ _ _ _ _  (hM.kept hb) (f7.kept hb) (f9.kept hb)

set_option maxRecDepth 1000000 in
set_option maxHeartbeats 12800000 in
theorem parts6 (w : World) (W H : Int) (a : Option Addr) (n c : Nat) (xs : List Nat) (cf ct rf rt n0 n1 n2 n3 : Int) (r r1 q r2 : Int) (lP lQ : List Int) (hC : PartsC W H a n c xs cf ct rf rt n0 n1 n2 n3 r r1 q r2 lP lQ) (hT : Prt7 w W H a n c xs cf ct rf rt n0 n1 n2 n3 r r1 q r2 lP lQ) : Prt6 w W H a n c xs cf ct rf rt n0 n1 n2 n3 r r1 q r2 lP lQ := by
  unfold Prt6
  intro wx Bm Bs Bn B7 B9 u12 u13 u14 u15 u16 u17 u18 u19 u20 u21 u22 u23 u24 u25 u26 u27 u28 u29 u30 u31 u32 u33 u34 u35 u36 u37 u38 u39 u40 u41 u42 u43 u44 u45 u46 u47 u48 u49 u50 u51 u52 u53 u54 u55 u56 u57 u58 u59 u60 u61 u62 u63 u64 u65 u66 u67 u68 u69 u70 u71 u72 u73 u74 u75 u76 u77 u78 u79 u80 u81 u82 u83 u84 u85 u86 u87 u88 u89 u90 u91 u92 u93 u94 u95 u96 u97 u98 u99 u100 u101 u102 u103 u104 u105 u106 u107 u108 u109 u110 u111 u112 u113 hM f7 f9
  conv => arg 2; whnf
  dsimp only
  go_upto_region 6 with fail
  go_cut [12, 13] (fun s12 s13 wr => s12 = .int .i64 r ∧ s13 = .int .i64 q ∧ Below wx.heap.size wx wr)
  case first =>
    obtain ⟨d0, d1, d2, d3⟩ := four_cells hM.bn
    have HR := Lib.hid hC.two
    have hbx : Below wx.heap.size wx ((wx.alloc (.cells #[.int .i64 r, .int .i64 (rangeErr n0 1 64), .int .i64 (rangeErr n1 1 64)] 3)).drew) := ((Below.refl wx.heap.size wx).alloc (Nat.le_refl _) _).drew
    have hby : Below wx.heap.size wx ((wx.drew).alloc (.cells #[.int .i64 r, .int .i64 (rangeErr n0 1 64), .int .i64 (rangeErr n1 1 64)] 3)) := ((Below.refl wx.heap.size wx).drew).alloc (Nat.le_refl _) _
    clear hC hT
    go_region_held3 (fun w' => w'.cell? ⟨Bn, 0, none⟩ = some (.int .i64 n0) ∧ w'.cell? ⟨Bn, 1, none⟩ = some (.int .i64 n1))
      (first | go_keep | (go_split_ands; refine ⟨?_, ?_⟩ <;> assumption))
      (first
        | (go_at_call 51; refine (refCheckSide_any _ _).mono ?_; rintro e w2 ⟨rfl, rfl⟩)
        | ((go_at_call 21; refine (pFirst_any _ 0 3 3 [r, rangeErr n0 1 64, rangeErr n1 1 64] rfl (by omega) _ ?_).mono ?_; rotate_left 1; rintro e w' ⟨rfl, rfl⟩; rw [HR.out]; rotate_left 1; (intro j hj; match j, hj with | 0, _ => simp [go_sem] | 1, _ => simp [go_sem] | 2, _ => simp [go_sem]))))
    all_goals go_wp2_with fail
    all_goals go_meet
    all_goals first | exact ⟨rfl, rfl, hbx⟩ | exact ⟨rfl, rfl, hby⟩
  case rest =>
    rename_i hK
    obtain ⟨rfl, rfl, hb⟩ := hcut
    refine hK _ _ ?_
    clear hK
    unfold Prt7 at hT
    exact hT _  _ _ _ _ _ _ _ _ _ _ _ _ _ _ _ _ _ _ _ _ _ _ _ _ _ _ _ _ _ _ _ _ _ _ _ _ _ _ _ _ _ _ _ _ _ _ _ _ _ _ _ _ _ _ _ _ _ _ _ _ _ _ _ _ _ _ _ _ _ _ _ _ _ _ _ _ _ _ _ _ _ _ _ _ _ _ _ _ _ _ _ _ _ _ _ _ _ _ _ _ _ _ _ _ _  (hM.kept hb) (f7.kept hb) (f9.kept hb)

set_option maxRecDepth 1000000 in
set_option maxHeartbeats 12800000 in
theorem parts7 (w : World) (W H : Int) (a : Option Addr) (n c : Nat) (xs : List Nat) (cf ct rf rt n0 n1 n2 n3 : Int) (r r1 q r2 : Int) (lP lQ : List Int) (hC : PartsC W H a n c xs cf ct rf rt n0 n1 n2 n3 r r1 q r2 lP lQ) (hT : Prt8 w W H a n c xs cf ct rf rt n0 n1 n2 n3 r r1 q r2 lP lQ) : Prt7 w W H a n c xs cf ct rf rt n0 n1 n2 n3 r r1 q r2 lP lQ := by
  unfold Prt7
  intro wx Bm Bs Bn B7 B9 u14 u15 u16 u17 u18 u19 u20 u21 u22 u23 u24 u25 u26 u27 u28 u29 u30 u31 u32 u33 u34 u35 u36 u37 u38 u39 u40 u41 u42 u43 u44 u45 u46 u47 u48 u49 u50 u51 u52 u53 u54 u55 u56 u57 u58 u59 u60 u61 u62 u63 u64 u65 u66 u67 u68 u69 u70 u71 u72 u73 u74 u75 u76 u77 u78 u79 u80 u81 u82 u83 u84 u85 u86 u87 u88 u89 u90 u91 u92 u93 u94 u95 u96 u97 u98 u99 u100 u101 u102 u103 u104 u105 u106 u107 u108 u109 u110 u111 u112 u113 hM f7 f9
  conv => arg 2; whnf
  dsimp only
  go_upto_region 7 with fail
  go_cut [14, 15] (fun s14 s15 wr => s14 = .pointer (some ⟨wx.heap.size, 0, none⟩) ∧ s15 = .pointer (some ⟨wx.heap.size + 1, 0, none⟩) ∧ Below wx.heap.size wx wr ∧ wr.heap[wx.heap.size]? = some (.cells #[.int .i64 0, .int .i64 0, .slice none 0 0] 48 (0, 0)) ∧ wr.heap[wx.heap.size + 1]? = some (.cells #[.int .i64 0, .int .i64 0, .slice none 0 0] 48 (0, 0)))
  case first =>
    clear hC hT
    have q1 : Below wx.heap.size wx ((wx.alloc (.cells #[.int .i64 0, .int .i64 0, .slice none 0 0] 48)).alloc (.cells #[.int .i64 0, .int .i64 0, .slice none 0 0] 48)) := ((Below.refl _ wx).alloc (Nat.le_refl _) _).alloc (by simp) _
    have q2 : ((wx.alloc (.cells #[.int .i64 0, .int .i64 0, .slice none 0 0] 48)).alloc (.cells #[.int .i64 0, .int .i64 0, .slice none 0 0] 48)).heap[wx.heap.size]? = some (.cells #[.int .i64 0, .int .i64 0, .slice none 0 0] 48 (0, 0)) := blk_alloc_other (blk_alloc_new _ _) _
    have q3 : ((wx.alloc (.cells #[.int .i64 0, .int .i64 0, .slice none 0 0] 48)).alloc (.cells #[.int .i64 0, .int .i64 0, .slice none 0 0] 48)).heap[wx.heap.size + 1]? = some (.cells #[.int .i64 0, .int .i64 0, .slice none 0 0] 48 (0, 0)) := blk_alloc_new1 _ _ _
    go_wp2_with fail
    go_meet
    exact ⟨rfl, rfl, q1, q2, q3⟩
  case rest =>
    rename_i hK
    obtain ⟨rfl, rfl, hb, q2, q3⟩ := hcut
    refine hK _ _ ?_
    clear hK
    unfold Prt8 at hT
    exact hT _ wx _ _ _ _ _ _ _ _ _ _ _ _ _ _ _ _ _ _ _ _ _ _ _ _ _ _ _ _ _ _ _ _ _ _ _ _ _ _ _ _ _ _ _ _ _ _ _ _ _ _ _ _ _ _ _ _ _ _ _ _ _ _ _ _ _ _ _ _ _ _ _ _ _ _ _ _ _ _ _ _ _ _ _ _ _ _ _ _ _ _ _ _ _ _ _ _ _ _ _ _ _ _ _  hM f7 f9 hb q2 q3

set_option maxRecDepth 1000000 in
set_option maxHeartbeats 12800000 in
theorem parts8_bad (w : World) (W H : Int) (a : Option Addr) (n c : Nat) (xs : List Nat) (cf ct rf rt n0 n1 n2 n3 : Int) (r r1 q r2 : Int) (lP lQ : List Int) (hC : PartsC W H a n c xs cf ct rf rt n0 n1 n2 n3 r r1 q r2 lP lQ) (h : r ≠ 0) (hT : Prt10 w W H a n c xs cf ct rf rt n0 n1 n2 n3 r r1 q r2 lP lQ) : Prt8 w W H a n c xs cf ct rf rt n0 n1 n2 n3 r r1 q r2 lP lQ := by
  unfold Prt8
  intro wx w8 Bm Bs Bn B7 B9 u16 u17 u18 u19 u20 u21 u22 u23 u24 u25 u26 u27 u28 u29 u30 u31 u32 u33 u34 u35 u36 u37 u38 u39 u40 u41 u42 u43 u44 u45 u46 u47 u48 u49 u50 u51 u52 u53 u54 u55 u56 u57 u58 u59 u60 u61 u62 u63 u64 u65 u66 u67 u68 u69 u70 u71 u72 u73 u74 u75 u76 u77 u78 u79 u80 u81 u82 u83 u84 u85 u86 u87 u88 u89 u90 u91 u92 u93 u94 u95 u96 u97 u98 u99 u100 u101 u102 u103 u104 u105 u106 u107 u108 u109 u110 u111 u112 u113 hM f7 f9 hb8 z14 z15
  conv => arg 2; whnf
  dsimp only
  have e0 : (r == 0) = false := by simp [h]
  go_upto_region 8 with fail
  go_cut [58] (fun s58 wr => s58 = .bool false ∧ Below wx.heap.size wx wr)
  case first =>
    clear hT hC
    go_wp2_with fail
    go_meet
    exact ⟨rfl, Below.refl _ _⟩
  case rest =>
    rename_i K1 hK1 K0 hK
    obtain ⟨rfl, hb⟩ := hcut
    refine hK _ _ ?_
    clear hK e0
    have HK1 := Lib.hid hK1
    clear hK1
    go_wp2_with fail
    refine HK1.out _ _ ?_
    have h3 := hC.one' h
    subst h3
    unfold Prt10 at hT
    exact hT _ w8 _ _ _ _ _ _ _ _ _ _ _ _ _ _ _ _ _ _ _ _ _ _ _ _ _ _ _ _ _ _ _ _ _ _ _ _ _ _ _ _ _ _ _ _ _ _ _ _ _ _ _ _ _ _ _ _ _ _ _ _ _ _ _ _ _ _ _ _ _ _ _ _ _ _ _ _ _ _ _ _ _ _ _ _ _ _ _ _ _ _ _ _ _ _ _ _ _ _ _ _ _ _ _  hM f7 f9 (hb8.trans (hb.mono hb8.size)) ((hb.block _ (lt_of_blk z14)).trans z14) ((hb.block _ (lt_of_blk z15)).trans z15)

set_option maxRecDepth 1000000 in
set_option maxHeartbeats 12800000 in
theorem parts12_bad (w : World) (W H : Int) (a : Option Addr) (n c : Nat) (xs : List Nat) (cf ct rf rt n0 n1 n2 n3 : Int) (r r1 q r2 : Int) (lP lQ : List Int) (hC : PartsC W H a n c xs cf ct rf rt n0 n1 n2 n3 r r1 q r2 lP lQ) (h : q ≠ 0) (hT : Prt14 w W H a n c xs cf ct rf rt n0 n1 n2 n3 r r1 q r2 lP lQ) : Prt12 w W H a n c xs cf ct rf rt n0 n1 n2 n3 r r1 q r2 lP lQ := by
  unfold Prt12
  intro wx w8 Bm Bs Bn B7 B9 u16 u17 u18 u19 u20 u21 u22 u23 u24 u25 u26 u27 u28 u29 u30 u31 u32 u33 u34 u35 u36 u37 u38 u39 u40 u41 u42 u43 u44 u45 u46 u47 u48 u49 u50 u51 u52 u53 u54 u55 u56 u57 u58 u59 u60 u61 u62 u63 u64 u65 u66 u67 u68 u69 u70 u71 u72 u73 u74 u75 u76 u77 u78 u79 u80 u81 u82 u83 u84 u85 u86 u87 u88 u89 u90 u91 u92 u93 u94 u95 u96 u97 u98 u99 u100 u101 u102 u103 u104 u105 u106 u107 u108 u109 u110 u111 u112 u113 hM f7 f9 hb8 wP z15
  conv => arg 2; whnf
  dsimp only
  have e0 : (q == 0) = false := by simp [h]
  go_upto_region 12 with fail
  go_cut [84] (fun s84 wr => s84 = .bool false ∧ Below wx.heap.size wx wr)
  case first =>
    clear hT hC
    go_wp2_with fail
    go_meet
    exact ⟨rfl, Below.refl _ _⟩
  case rest =>
    rename_i K1 hK1 K0 hK
    obtain ⟨rfl, hb⟩ := hcut
    refine hK _ _ ?_
    clear hK e0
    have HK1 := Lib.hid hK1
    clear hK1
    go_wp2_with fail
    refine HK1.out _ _ ?_
    have h3 := hC.two' h
    subst h3
    unfold Prt14 at hT
    exact hT _ w8 _ _ _ _ _ _ _ _ _ _ _ _ _ _ _ _ _ _ _ _ _ _ _ _ _ _ _ _ _ _ _ _ _ _ _ _ _ _ _ _ _ _ _ _ _ _ _ _ _ _ _ _ _ _ _ _ _ _ _ _ _ _ _ _ _ _ _ _ _ _ _ _ _ _ _ _ _ _ _ _ _ _ _ _ _ _ _ _ _ _ _ _ _ _ _ _ _ _ _ _ _ _ _  hM f7 f9 (hb8.trans (hb.mono hb8.size)) (wP.kept hb) (.zero ((hb.block _ (lt_of_blk z15)).trans z15) h)

set_option maxRecDepth 1000000 in
set_option maxHeartbeats 12800000 in
theorem parts10_bad (w : World) (W H : Int) (a : Option Addr) (n c : Nat) (xs : List Nat) (cf ct rf rt n0 n1 n2 n3 : Int) (r r1 q r2 : Int) (lP lQ : List Int) (hC : PartsC W H a n c xs cf ct rf rt n0 n1 n2 n3 r r1 q r2 lP lQ) (h : r1 ≠ 0) (hT : Prt12 w W H a n c xs cf ct rf rt n0 n1 n2 n3 r r1 q r2 lP lQ) : Prt10 w W H a n c xs cf ct rf rt n0 n1 n2 n3 r r1 q r2 lP lQ := by
  unfold Prt10
  intro wx w8 Bm Bs Bn B7 B9 u16 u17 u18 u19 u20 u21 u22 u23 u24 u25 u26 u27 u28 u29 u30 u31 u32 u33 u34 u35 u36 u37 u38 u39 u40 u41 u42 u43 u44 u45 u46 u47 u48 u49 u50 u51 u52 u53 u54 u55 u56 u57 u58 u59 u60 u61 u62 u63 u64 u65 u66 u67 u68 u69 u70 u71 u72 u73 u74 u75 u76 u77 u78 u79 u80 u81 u82 u83 u84 u85 u86 u87 u88 u89 u90 u91 u92 u93 u94 u95 u96 u97 u98 u99 u100 u101 u102 u103 u104 u105 u106 u107 u108 u109 u110 u111 u112 u113 hM f7 f9 hb8 z14 z15
  conv => arg 2; whnf
  dsimp only
  go_upto_region 10 with fail
  go_cut [76] (fun s76 wr => s76 = .bool false ∧ Below wx.heap.size wx wr)
  case first =>
    clear hT hC
    by_cases h0 : r = 0
    · have e0 : (r == 0) = true := by simp [h0]
      have e1 : (r1 == 0) = false := by simp [h]
      clear h0 h
      go_wp2_with fail
      go_meet
      exact ⟨rfl, Below.refl _ _⟩
    · have e0 : (r == 0) = false := by simp [h0]
      clear h0 h
      go_wp2_with fail
      go_meet
      exact ⟨rfl, Below.refl _ _⟩
  case rest =>
    rename_i K1 hK1 K0 hK
    obtain ⟨rfl, hb⟩ := hcut
    refine hK _ _ ?_
    clear hK
    have HK1 := Lib.hid hK1
    clear hK1
    go_wp2_with fail
    refine HK1.out _ _ ?_
    unfold Prt12 at hT
    exact hT _ w8 _ _ _ _ _ _ _ _ _ _ _ _ _ _ _ _ _ _ _ _ _ _ _ _ _ _ _ _ _ _ _ _ _ _ _ _ _ _ _ _ _ _ _ _ _ _ _ _ _ _ _ _ _ _ _ _ _ _ _ _ _ _ _ _ _ _ _ _ _ _ _ _ _ _ _ _ _ _ _ _ _ _ _ _ _ _ _ _ _ _ _ _ _ _ _ _ _ _ _ _ _ _ _  hM f7 f9 (hb8.trans (hb.mono hb8.size)) (.zero ((hb.block _ (lt_of_blk z14)).trans z14) h) ((hb.block _ (lt_of_blk z15)).trans z15)

end Go.Proofs.YtfdkmmllemkogaaGreatDoor
