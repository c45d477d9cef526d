/-
  The walk of LightSpreads, region by region.
-/
import Derived.Test.YtfdkmmllemkogaaGreatDoorOEf
import Derived.Test.YtfdkmmllemkogaaGreatDoorOBd
namespace Go.Proofs.YtfdkmmllemkogaaGreatDoor
open Go.RowKit Go.Shelf
set_option linter.unusedVariables false
set_option linter.unusedSimpArgs false

noncomputable def spreadsOf (n : Nat) : Code := ((Tryz.f7.body.bind (tailAt1 n)).getD .skip)

/-- The arguments' variables, and what the walk keeps. -/
structure SK (w : World) (W H : Int) (a : Option Addr) (n c : Nat) (xs : List Nat) (n0 n1 n2 n3 : Int) (wx : World) (Bm Bn : Nat) : Prop where
  below : Below w.heap.size w wx
  bm : wx.heap[Bm]? = some (.cells #[.int .i64 W, .int .i64 H, .slice a n c] 48 (0, 0))
  bn : wx.heap[Bn]? = some (.cells #[.int .i64 n0, .int .i64 n1, .int .i64 n2, .int .i64 n3] 72 (0, 0))
  map : AnyMap wx a n c xs
theorem SK.kept {w : World} {W H : Int} {a : Option Addr} {n c : Nat} {xs : List Nat} {n0 n1 n2 n3 : Int} {wx w' : World} {Bm Bn : Nat} (h : SK w W H a n c xs n0 n1 n2 n3 wx Bm Bn) (hb : Below wx.heap.size wx w') : SK w W H a n c xs n0 n1 n2 n3 w' Bm Bn :=
  ⟨h.below.trans (hb.mono h.below.size), (hb.block _ (lt_of_blk h.bm)).trans h.bm, (hb.block _ (lt_of_blk h.bn)).trans h.bn, h.map.below hb (Nat.le_refl _)⟩
theorem cells4 {w : World} {B : Nat} {T : TypeId} {x y z u : Value} (h : w.heap[B]? = some (.cells #[x, y, z, u] T (0, 0))) :
    w.cell? ⟨B, 0, none⟩ = some x ∧ w.cell? ⟨B, 1, none⟩ = some y ∧ w.cell? ⟨B, 2, none⟩ = some z ∧ w.cell? ⟨B, 3, none⟩ = some u :=
  ⟨by rw [cell_of_row w _ 0 _ _ (0, 0) h]; rfl, by rw [cell_of_row w _ 1 _ _ (0, 0) h]; rfl, by rw [cell_of_row w _ 2 _ _ (0, 0) h]; rfl, by rw [cell_of_row w _ 3 _ _ (0, 0) h]; rfl⟩
theorem cells3 {w : World} {B : Nat} {T : TypeId} {x y z : Value} (h : w.heap[B]? = some (.cells #[x, y, z] T (0, 0))) :
    w.cell? ⟨B, 0, none⟩ = some x ∧ w.cell? ⟨B, 1, none⟩ = some y ∧ w.cell? ⟨B, 2, none⟩ = some z :=
  ⟨by rw [cell_of_row w _ 0 _ _ (0, 0) h]; rfl, by rw [cell_of_row w _ 1 _ _ (0, 0) h]; rfl, by rw [cell_of_row w _ 2 _ _ (0, 0) h]; rfl⟩

/-- What the calls answer. -/
structure SpreadsC (W H : Int) (a : Option Addr) (n c : Nat) (xs : List Nat) (n0 n1 n2 n3 : Int) (r q1 q2 q3 s1 s2 s3 W3 H3 : Int) (l1 l2 l3 : List Int) : Prop where
  own : ∀ wx : World, AnyMap wx a n c xs → Calls Tryz.prog 38 #[.agg #[.int .i64 W, .int .i64 H, .slice a n c]] wx fun e w' =>
    ∃ g c', e = .returned (.agg #[.int .i64 W, .int .i64 H, .slice (some ⟨g, 0, none⟩) n c']) ∧ AnyMap w' (some ⟨g, 0, none⟩) n c' xs ∧ Below wx.heap.size wx w'
  scaled : ∀ wx g c', AnyMap wx (some ⟨g, 0, none⟩) n c' xs → Answers 62 #[.agg #[.int .i64 W, .int .i64 H, .slice (some ⟨g, 0, none⟩) n c'], .int .i64 n0, .int .i64 n1] wx s1 W H l1
  spread : ∀ wx g c', AnyMap wx (some ⟨g, 0, none⟩) n c' xs → Answers 63 #[.agg #[.int .i64 W, .int .i64 H, .slice (some ⟨g, 0, none⟩) n c'], .int .i64 n2] wx s2 W H l2
  binned : ∀ wx g c', AnyMap wx (some ⟨g, 0, none⟩) n c' xs → Answers 64 #[.agg #[.int .i64 W, .int .i64 H, .slice (some ⟨g, 0, none⟩) n c'], .int .i64 n3] wx s3 W3 H3 l3
  chk : ∀ wx, AnyMap wx a n c xs → Calls Tryz.prog 41 #[.agg #[.int .i64 W, .int .i64 H, .slice a n c]] wx fun e w' => e = .returned (.int .i64 r) ∧ Below wx.heap.size wx w'
  rscaled : q1 = 0 → ∀ wx, AnyMap wx a n c xs → Answers 65 #[.agg #[.int .i64 W, .int .i64 H, .slice a n c], .int .i64 n0, .int .i64 n1] wx s1 W H l1
  rspread : q2 = 0 → ∀ wx, AnyMap wx a n c xs → Answers 66 #[.agg #[.int .i64 W, .int .i64 H, .slice a n c], .int .i64 n2] wx s2 W H l2
  rbinned : q3 = 0 → ∀ wx, AnyMap wx a n c xs → Answers 67 #[.agg #[.int .i64 W, .int .i64 H, .slice a n c], .int .i64 n3] wx s3 W3 H3 l3
  e1 : firstNZ [r, rangeErr n0 (-1000) 1000, rangeErr n1 1 1000] = q1
  e2 : firstNZ [r, rangeErr n2 0 4] = q2
  e3 : firstNZ [r, rangeErr n3 1 64] = q3
  t1 : q1 ≠ 0 → s1 = q1
  t2 : q2 ≠ 0 → s2 = q2
  t3 : q3 ≠ 0 → s3 = q3

set_option maxHeartbeats 1600000 in
theorem sFirst_any (b o n c : Nat) (zs : List Int) (hz : zs.length = n) (hm : n ≤ 4611686018427387904) (w : World)
    (hc : ∀ j, j < n → w.cell? ⟨b, o + j, none⟩ = some (.int .i64 (zs[j]?.getD 0))) :
    Calls Tryz.prog 21 #[.slice (some ⟨b, o, none⟩) n c] w fun e w' => e = .returned (.int .i64 (firstNZ zs)) ∧ w = w' := by
  have K := Lib.hid (refFirst_any b o n c zs hz hm w hc)
  clear hz hm hc
  go_enter Tryz.func21, Tryz.ntmps21
  go_wp2_with (go_at_call 111; refine K.out.mono ?_; rintro e w1 ⟨rfl, rfl⟩)
  go_ret
  exact ⟨rfl, rfl⟩

set_option maxRecDepth 1000000 in
/-- What is still to be shown where the walk stands ahead of region 3. -/
def Spr3 (w : World) (W H : Int) (a : Option Addr) (n c : Nat) (xs : List Nat) (n0 n1 n2 n3 : Int) (r q1 q2 q3 s1 s2 s3 W3 H3 : Int) (l1 l2 l3 : List Int) : Prop :=
  ∀ (wx : World) (Bm : Nat) (Bn : Nat) (u5 u6 u7 u8 u9 u10 u11 u12 u13 u14 u15 u16 u17 u18 u19 u20 u21 u22 u23 u24 u25 u26 u27 u28 u29 u30 u31 u32 u33 u34 u35 u36 u37 u38 u39 u40 u41 u42 u43 u44 u45 u46 u47 u48 u49 u50 u51 u52 u53 u54 u55 u56 u57 u58 u59 u60 u61 u62 u63 u64 u65 u66 u67 u68 u69 u70 u71 u72 u73 u74 u75 u76 u77 u78 u79 u80 u81 u82 u83 u84 u85 u86 u87 u88 u89 u90 u91 u92 u93 u94 u95 u96 u97 u98 u99 u100 u101 u102 u103 u104 u105 u106 u107 u108 u109 u110 u111 u112 u113 u114 u115 u116 u117 u118 u119 u120 u121 : Value), (SK w W H a n c xs n0 n1 n2 n3 wx Bm Bn) → Code.wp Tryz.prog (spreadsOf 3) (bodyPost Tryz.prog Tryz.f7 (TruePost w)) ⟨#[.agg #[.int .i64 W, .int .i64 H, .slice a n c], .agg #[.int .i64 n0, .int .i64 n1, .int .i64 n2, .int .i64 n3], .pointer (some ⟨Bm, 0, none⟩), .pointer (some ⟨Bn, 0, none⟩), .bool false, u5, u6, u7, u8, u9, u10, u11, u12, u13, u14, u15, u16, u17, u18, u19, u20, u21, u22, u23, u24, u25, u26, u27, u28, u29, u30, u31, u32, u33, u34, u35, u36, u37, u38, u39, u40, u41, u42, u43, u44, u45, u46, u47, u48, u49, u50, u51, u52, u53, u54, u55, u56, u57, u58, u59, u60, u61, u62, u63, u64, u65, u66, u67, u68, u69, u70, u71, u72, u73, u74, u75, u76, u77, u78, u79, u80, u81, u82, u83, u84, u85, u86, u87, u88, u89, u90, u91, u92, u93, u94, u95, u96, u97, u98, u99, u100, u101, u102, u103, u104, u105, u106, u107, u108, u109, u110, u111, u112, u113, u114, u115, u116, u117, u118, u119, u120, u121], []⟩ wx

set_option maxRecDepth 1000000 in
/-- What is still to be shown where the walk stands ahead of region 4. -/
def Spr4 (w : World) (W H : Int) (a : Option Addr) (n c : Nat) (xs : List Nat) (n0 n1 n2 n3 : Int) (r q1 q2 q3 s1 s2 s3 W3 H3 : Int) (l1 l2 l3 : List Int) : Prop :=
  ∀ (wx : World) (Bm : Nat) (Bn : Nat) (B5 : Nat) (u7 u8 u9 u10 u11 u12 u13 u14 u15 u16 u17 u18 u19 u20 u21 u22 u23 u24 u25 u26 u27 u28 u29 u30 u31 u32 u33 u34 u35 u36 u37 u38 u39 u40 u41 u42 u43 u44 u45 u46 u47 u48 u49 u50 u51 u52 u53 u54 u55 u56 u57 u58 u59 u60 u61 u62 u63 u64 u65 u66 u67 u68 u69 u70 u71 u72 u73 u74 u75 u76 u77 u78 u79 u80 u81 u82 u83 u84 u85 u86 u87 u88 u89 u90 u91 u92 u93 u94 u95 u96 u97 u98 u99 u100 u101 u102 u103 u104 u105 u106 u107 u108 u109 u110 u111 u112 u113 u114 u115 u116 u117 u118 u119 u120 u121 : Value), (SK w W H a n c xs n0 n1 n2 n3 wx Bm Bn) → (ResBox wx B5 54 s1 W H l1) → Code.wp Tryz.prog (spreadsOf 4) (bodyPost Tryz.prog Tryz.f7 (TruePost w)) ⟨#[.agg #[.int .i64 W, .int .i64 H, .slice a n c], .agg #[.int .i64 n0, .int .i64 n1, .int .i64 n2, .int .i64 n3], .pointer (some ⟨Bm, 0, none⟩), .pointer (some ⟨Bn, 0, none⟩), .bool false, .pointer (some ⟨B5, 0, none⟩), .int .i64 s1, u7, u8, u9, u10, u11, u12, u13, u14, u15, u16, u17, u18, u19, u20, u21, u22, u23, u24, u25, u26, u27, u28, u29, u30, u31, u32, u33, u34, u35, u36, u37, u38, u39, u40, u41, u42, u43, u44, u45, u46, u47, u48, u49, u50, u51, u52, u53, u54, u55, u56, u57, u58, u59, u60, u61, u62, u63, u64, u65, u66, u67, u68, u69, u70, u71, u72, u73, u74, u75, u76, u77, u78, u79, u80, u81, u82, u83, u84, u85, u86, u87, u88, u89, u90, u91, u92, u93, u94, u95, u96, u97, u98, u99, u100, u101, u102, u103, u104, u105, u106, u107, u108, u109, u110, u111, u112, u113, u114, u115, u116, u117, u118, u119, u120, u121], []⟩ wx

set_option maxRecDepth 1000000 in
/-- What is still to be shown where the walk stands ahead of region 5. -/
def Spr5 (w : World) (W H : Int) (a : Option Addr) (n c : Nat) (xs : List Nat) (n0 n1 n2 n3 : Int) (r q1 q2 q3 s1 s2 s3 W3 H3 : Int) (l1 l2 l3 : List Int) : Prop :=
  ∀ (wx : World) (Bm : Nat) (Bn : Nat) (B5 : Nat) (B7 : Nat) (u9 u10 u11 u12 u13 u14 u15 u16 u17 u18 u19 u20 u21 u22 u23 u24 u25 u26 u27 u28 u29 u30 u31 u32 u33 u34 u35 u36 u37 u38 u39 u40 u41 u42 u43 u44 u45 u46 u47 u48 u49 u50 u51 u52 u53 u54 u55 u56 u57 u58 u59 u60 u61 u62 u63 u64 u65 u66 u67 u68 u69 u70 u71 u72 u73 u74 u75 u76 u77 u78 u79 u80 u81 u82 u83 u84 u85 u86 u87 u88 u89 u90 u91 u92 u93 u94 u95 u96 u97 u98 u99 u100 u101 u102 u103 u104 u105 u106 u107 u108 u109 u110 u111 u112 u113 u114 u115 u116 u117 u118 u119 u120 u121 : Value), (SK w W H a n c xs n0 n1 n2 n3 wx Bm Bn) → (ResBox wx B5 54 s1 W H l1) → (ResBox wx B7 54 s2 W H l2) → Code.wp Tryz.prog (spreadsOf 5) (bodyPost Tryz.prog Tryz.f7 (TruePost w)) ⟨#[.agg #[.int .i64 W, .int .i64 H, .slice a n c], .agg #[.int .i64 n0, .int .i64 n1, .int .i64 n2, .int .i64 n3], .pointer (some ⟨Bm, 0, none⟩), .pointer (some ⟨Bn, 0, none⟩), .bool false, .pointer (some ⟨B5, 0, none⟩), .int .i64 s1, .pointer (some ⟨B7, 0, none⟩), .int .i64 s2, u9, u10, u11, u12, u13, u14, u15, u16, u17, u18, u19, u20, u21, u22, u23, u24, u25, u26, u27, u28, u29, u30, u31, u32, u33, u34, u35, u36, u37, u38, u39, u40, u41, u42, u43, u44, u45, u46, u47, u48, u49, u50, u51, u52, u53, u54, u55, u56, u57, u58, u59, u60, u61, u62, u63, u64, u65, u66, u67, u68, u69, u70, u71, u72, u73, u74, u75, u76, u77, u78, u79, u80, u81, u82, u83, u84, u85, u86, u87, u88, u89, u90, u91, u92, u93, u94, u95, u96, u97, u98, u99, u100, u101, u102, u103, u104, u105, u106, u107, u108, u109, u110, u111, u112, u113, u114, u115, u116, u117, u118, u119, u120, u121], []⟩ wx

set_option maxRecDepth 1000000 in
/-- What is still to be shown where the walk stands ahead of region 6. -/
def Spr6 (w : World) (W H : Int) (a : Option Addr) (n c : Nat) (xs : List Nat) (n0 n1 n2 n3 : Int) (r q1 q2 q3 s1 s2 s3 W3 H3 : Int) (l1 l2 l3 : List Int) : Prop :=
  ∀ (wx : World) (Bm : Nat) (Bn : Nat) (B5 : Nat) (B7 : Nat) (B9 : Nat) (u11 u12 u13 u14 u15 u16 u17 u18 u19 u20 u21 u22 u23 u24 u25 u26 u27 u28 u29 u30 u31 u32 u33 u34 u35 u36 u37 u38 u39 u40 u41 u42 u43 u44 u45 u46 u47 u48 u49 u50 u51 u52 u53 u54 u55 u56 u57 u58 u59 u60 u61 u62 u63 u64 u65 u66 u67 u68 u69 u70 u71 u72 u73 u74 u75 u76 u77 u78 u79 u80 u81 u82 u83 u84 u85 u86 u87 u88 u89 u90 u91 u92 u93 u94 u95 u96 u97 u98 u99 u100 u101 u102 u103 u104 u105 u106 u107 u108 u109 u110 u111 u112 u113 u114 u115 u116 u117 u118 u119 u120 u121 : Value), (SK w W H a n c xs n0 n1 n2 n3 wx Bm Bn) → (ResBox wx B5 54 s1 W H l1) → (ResBox wx B7 54 s2 W H l2) → (ResBox wx B9 54 s3 W3 H3 l3) → Code.wp Tryz.prog (spreadsOf 6) (bodyPost Tryz.prog Tryz.f7 (TruePost w)) ⟨#[.agg #[.int .i64 W, .int .i64 H, .slice a n c], .agg #[.int .i64 n0, .int .i64 n1, .int .i64 n2, .int .i64 n3], .pointer (some ⟨Bm, 0, none⟩), .pointer (some ⟨Bn, 0, none⟩), .bool false, .pointer (some ⟨B5, 0, none⟩), .int .i64 s1, .pointer (some ⟨B7, 0, none⟩), .int .i64 s2, .pointer (some ⟨B9, 0, none⟩), .int .i64 s3, u11, u12, u13, u14, u15, u16, u17, u18, u19, u20, u21, u22, u23, u24, u25, u26, u27, u28, u29, u30, u31, u32, u33, u34, u35, u36, u37, u38, u39, u40, u41, u42, u43, u44, u45, u46, u47, u48, u49, u50, u51, u52, u53, u54, u55, u56, u57, u58, u59, u60, u61, u62, u63, u64, u65, u66, u67, u68, u69, u70, u71, u72, u73, u74, u75, u76, u77, u78, u79, u80, u81, u82, u83, u84, u85, u86, u87, u88, u89, u90, u91, u92, u93, u94, u95, u96, u97, u98, u99, u100, u101, u102, u103, u104, u105, u106, u107, u108, u109, u110, u111, u112, u113, u114, u115, u116, u117, u118, u119, u120, u121], []⟩ wx

set_option maxRecDepth 1000000 in
/-- What is still to be shown where the walk stands ahead of region 7. -/
def Spr7 (w : World) (W H : Int) (a : Option Addr) (n c : Nat) (xs : List Nat) (n0 n1 n2 n3 : Int) (r q1 q2 q3 s1 s2 s3 W3 H3 : Int) (l1 l2 l3 : List Int) : Prop :=
  ∀ (wx : World) (Bm : Nat) (Bn : Nat) (B5 : Nat) (B7 : Nat) (B9 : Nat) (u12 u13 u14 u15 u16 u17 u18 u19 u20 u21 u22 u23 u24 u25 u26 u27 u28 u29 u30 u31 u32 u33 u34 u35 u36 u37 u38 u39 u40 u41 u42 u43 u44 u45 u46 u47 u48 u49 u50 u51 u52 u53 u54 u55 u56 u57 u58 u59 u60 u61 u62 u63 u64 u65 u66 u67 u68 u69 u70 u71 u72 u73 u74 u75 u76 u77 u78 u79 u80 u81 u82 u83 u84 u85 u86 u87 u88 u89 u90 u91 u92 u93 u94 u95 u96 u97 u98 u99 u100 u101 u102 u103 u104 u105 u106 u107 u108 u109 u110 u111 u112 u113 u114 u115 u116 u117 u118 u119 u120 u121 : Value), (SK w W H a n c xs n0 n1 n2 n3 wx Bm Bn) → (ResBox wx B5 54 s1 W H l1) → (ResBox wx B7 54 s2 W H l2) → (ResBox wx B9 54 s3 W3 H3 l3) → Code.wp Tryz.prog (spreadsOf 7) (bodyPost Tryz.prog Tryz.f7 (TruePost w)) ⟨#[.agg #[.int .i64 W, .int .i64 H, .slice a n c], .agg #[.int .i64 n0, .int .i64 n1, .int .i64 n2, .int .i64 n3], .pointer (some ⟨Bm, 0, none⟩), .pointer (some ⟨Bn, 0, none⟩), .bool false, .pointer (some ⟨B5, 0, none⟩), .int .i64 s1, .pointer (some ⟨B7, 0, none⟩), .int .i64 s2, .pointer (some ⟨B9, 0, none⟩), .int .i64 s3, .int .i64 r, u12, u13, u14, u15, u16, u17, u18, u19, u20, u21, u22, u23, u24, u25, u26, u27, u28, u29, u30, u31, u32, u33, u34, u35, u36, u37, u38, u39, u40, u41, u42, u43, u44, u45, u46, u47, u48, u49, u50, u51, u52, u53, u54, u55, u56, u57, u58, u59, u60, u61, u62, u63, u64, u65, u66, u67, u68, u69, u70, u71, u72, u73, u74, u75, u76, u77, u78, u79, u80, u81, u82, u83, u84, u85, u86, u87, u88, u89, u90, u91, u92, u93, u94, u95, u96, u97, u98, u99, u100, u101, u102, u103, u104, u105, u106, u107, u108, u109, u110, u111, u112, u113, u114, u115, u116, u117, u118, u119, u120, u121], []⟩ wx

set_option maxRecDepth 1000000 in
/-- What is still to be shown where the walk stands ahead of region 8. -/
def Spr8 (w : World) (W H : Int) (a : Option Addr) (n c : Nat) (xs : List Nat) (n0 n1 n2 n3 : Int) (r q1 q2 q3 s1 s2 s3 W3 H3 : Int) (l1 l2 l3 : List Int) : Prop :=
  ∀ (wx : World) (Bm : Nat) (Bn : Nat) (B5 : Nat) (B7 : Nat) (B9 : Nat) (u13 u14 u15 u16 u17 u18 u19 u20 u21 u22 u23 u24 u25 u26 u27 u28 u29 u30 u31 u32 u33 u34 u35 u36 u37 u38 u39 u40 u41 u42 u43 u44 u45 u46 u47 u48 u49 u50 u51 u52 u53 u54 u55 u56 u57 u58 u59 u60 u61 u62 u63 u64 u65 u66 u67 u68 u69 u70 u71 u72 u73 u74 u75 u76 u77 u78 u79 u80 u81 u82 u83 u84 u85 u86 u87 u88 u89 u90 u91 u92 u93 u94 u95 u96 u97 u98 u99 u100 u101 u102 u103 u104 u105 u106 u107 u108 u109 u110 u111 u112 u113 u114 u115 u116 u117 u118 u119 u120 u121 : Value), (SK w W H a n c xs n0 n1 n2 n3 wx Bm Bn) → (ResBox wx B5 54 s1 W H l1) → (ResBox wx B7 54 s2 W H l2) → (ResBox wx B9 54 s3 W3 H3 l3) → Code.wp Tryz.prog (spreadsOf 8) (bodyPost Tryz.prog Tryz.f7 (TruePost w)) ⟨#[.agg #[.int .i64 W, .int .i64 H, .slice a n c], .agg #[.int .i64 n0, .int .i64 n1, .int .i64 n2, .int .i64 n3], .pointer (some ⟨Bm, 0, none⟩), .pointer (some ⟨Bn, 0, none⟩), .bool false, .pointer (some ⟨B5, 0, none⟩), .int .i64 s1, .pointer (some ⟨B7, 0, none⟩), .int .i64 s2, .pointer (some ⟨B9, 0, none⟩), .int .i64 s3, .int .i64 r, .int .i64 q1, u13, u14, u15, u16, u17, u18, u19, u20, u21, u22, u23, u24, u25, u26, u27, u28, u29, u30, u31, u32, u33, u34, u35, u36, u37, u38, u39, u40, u41, u42, u43, u44, u45, u46, u47, u48, u49, u50, u51, u52, u53, u54, u55, u56, u57, u58, u59, u60, u61, u62, u63, u64, u65, u66, u67, u68, u69, u70, u71, u72, u73, u74, u75, u76, u77, u78, u79, u80, u81, u82, u83, u84, u85, u86, u87, u88, u89, u90, u91, u92, u93, u94, u95, u96, u97, u98, u99, u100, u101, u102, u103, u104, u105, u106, u107, u108, u109, u110, u111, u112, u113, u114, u115, u116, u117, u118, u119, u120, u121], []⟩ wx

set_option maxRecDepth 1000000 in
/-- What is still to be shown where the walk stands ahead of region 9. -/
def Spr9 (w : World) (W H : Int) (a : Option Addr) (n c : Nat) (xs : List Nat) (n0 n1 n2 n3 : Int) (r q1 q2 q3 s1 s2 s3 W3 H3 : Int) (l1 l2 l3 : List Int) : Prop :=
  ∀ (wx : World) (Bm : Nat) (Bn : Nat) (B5 : Nat) (B7 : Nat) (B9 : Nat) (u14 u15 u16 u17 u18 u19 u20 u21 u22 u23 u24 u25 u26 u27 u28 u29 u30 u31 u32 u33 u34 u35 u36 u37 u38 u39 u40 u41 u42 u43 u44 u45 u46 u47 u48 u49 u50 u51 u52 u53 u54 u55 u56 u57 u58 u59 u60 u61 u62 u63 u64 u65 u66 u67 u68 u69 u70 u71 u72 u73 u74 u75 u76 u77 u78 u79 u80 u81 u82 u83 u84 u85 u86 u87 u88 u89 u90 u91 u92 u93 u94 u95 u96 u97 u98 u99 u100 u101 u102 u103 u104 u105 u106 u107 u108 u109 u110 u111 u112 u113 u114 u115 u116 u117 u118 u119 u120 u121 : Value), (SK w W H a n c xs n0 n1 n2 n3 wx Bm Bn) → (ResBox wx B5 54 s1 W H l1) → (ResBox wx B7 54 s2 W H l2) → (ResBox wx B9 54 s3 W3 H3 l3) → Code.wp Tryz.prog (spreadsOf 9) (bodyPost Tryz.prog Tryz.f7 (TruePost w)) ⟨#[.agg #[.int .i64 W, .int .i64 H, .slice a n c], .agg #[.int .i64 n0, .int .i64 n1, .int .i64 n2, .int .i64 n3], .pointer (some ⟨Bm, 0, none⟩), .pointer (some ⟨Bn, 0, none⟩), .bool false, .pointer (some ⟨B5, 0, none⟩), .int .i64 s1, .pointer (some ⟨B7, 0, none⟩), .int .i64 s2, .pointer (some ⟨B9, 0, none⟩), .int .i64 s3, .int .i64 r, .int .i64 q1, .int .i64 q2, u14, u15, u16, u17, u18, u19, u20, u21, u22, u23, u24, u25, u26, u27, u28, u29, u30, u31, u32, u33, u34, u35, u36, u37, u38, u39, u40, u41, u42, u43, u44, u45, u46, u47, u48, u49, u50, u51, u52, u53, u54, u55, u56, u57, u58, u59, u60, u61, u62, u63, u64, u65, u66, u67, u68, u69, u70, u71, u72, u73, u74, u75, u76, u77, u78, u79, u80, u81, u82, u83, u84, u85, u86, u87, u88, u89, u90, u91, u92, u93, u94, u95, u96, u97, u98, u99, u100, u101, u102, u103, u104, u105, u106, u107, u108, u109, u110, u111, u112, u113, u114, u115, u116, u117, u118, u119, u120, u121], []⟩ wx

set_option maxRecDepth 1000000 in
/-- What is still to be shown where the walk stands ahead of region 10. -/
def Spr10 (w : World) (W H : Int) (a : Option Addr) (n c : Nat) (xs : List Nat) (n0 n1 n2 n3 : Int) (r q1 q2 q3 s1 s2 s3 W3 H3 : Int) (l1 l2 l3 : List Int) : Prop :=
  ∀ (wx : World) (Bm : Nat) (Bn : Nat) (B5 : Nat) (B7 : Nat) (B9 : Nat) (u15 u16 u17 u18 u19 u20 u21 u22 u23 u24 u25 u26 u27 u28 u29 u30 u31 u32 u33 u34 u35 u36 u37 u38 u39 u40 u41 u42 u43 u44 u45 u46 u47 u48 u49 u50 u51 u52 u53 u54 u55 u56 u57 u58 u59 u60 u61 u62 u63 u64 u65 u66 u67 u68 u69 u70 u71 u72 u73 u74 u75 u76 u77 u78 u79 u80 u81 u82 u83 u84 u85 u86 u87 u88 u89 u90 u91 u92 u93 u94 u95 u96 u97 u98 u99 u100 u101 u102 u103 u104 u105 u106 u107 u108 u109 u110 u111 u112 u113 u114 u115 u116 u117 u118 u119 u120 u121 : Value), (SK w W H a n c xs n0 n1 n2 n3 wx Bm Bn) → (ResBox wx B5 54 s1 W H l1) → (ResBox wx B7 54 s2 W H l2) → (ResBox wx B9 54 s3 W3 H3 l3) → Code.wp Tryz.prog (spreadsOf 10) (bodyPost Tryz.prog Tryz.f7 (TruePost w)) ⟨#[.agg #[.int .i64 W, .int .i64 H, .slice a n c], .agg #[.int .i64 n0, .int .i64 n1, .int .i64 n2, .int .i64 n3], .pointer (some ⟨Bm, 0, none⟩), .pointer (some ⟨Bn, 0, none⟩), .bool false, .pointer (some ⟨B5, 0, none⟩), .int .i64 s1, .pointer (some ⟨B7, 0, none⟩), .int .i64 s2, .pointer (some ⟨B9, 0, none⟩), .int .i64 s3, .int .i64 r, .int .i64 q1, .int .i64 q2, .int .i64 q3, u15, u16, u17, u18, u19, u20, u21, u22, u23, u24, u25, u26, u27, u28, u29, u30, u31, u32, u33, u34, u35, u36, u37, u38, u39, u40, u41, u42, u43, u44, u45, u46, u47, u48, u49, u50, u51, u52, u53, u54, u55, u56, u57, u58, u59, u60, u61, u62, u63, u64, u65, u66, u67, u68, u69, u70, u71, u72, u73, u74, u75, u76, u77, u78, u79, u80, u81, u82, u83, u84, u85, u86, u87, u88, u89, u90, u91, u92, u93, u94, u95, u96, u97, u98, u99, u100, u101, u102, u103, u104, u105, u106, u107, u108, u109, u110, u111, u112, u113, u114, u115, u116, u117, u118, u119, u120, u121], []⟩ wx

set_option maxRecDepth 1000000 in
/-- What is still to be shown where the walk stands ahead of region 11. -/
def Spr11 (w : World) (W H : Int) (a : Option Addr) (n c : Nat) (xs : List Nat) (n0 n1 n2 n3 : Int) (r q1 q2 q3 s1 s2 s3 W3 H3 : Int) (l1 l2 l3 : List Int) : Prop :=
  ∀ (wx : World) (w8 : World) (Bm : Nat) (Bn : Nat) (B5 : Nat) (B7 : Nat) (B9 : Nat) (u18 u19 u20 u21 u22 u23 u24 u25 u26 u27 u28 u29 u30 u31 u32 u33 u34 u35 u36 u37 u38 u39 u40 u41 u42 u43 u44 u45 u46 u47 u48 u49 u50 u51 u52 u53 u54 u55 u56 u57 u58 u59 u60 u61 u62 u63 u64 u65 u66 u67 u68 u69 u70 u71 u72 u73 u74 u75 u76 u77 u78 u79 u80 u81 u82 u83 u84 u85 u86 u87 u88 u89 u90 u91 u92 u93 u94 u95 u96 u97 u98 u99 u100 u101 u102 u103 u104 u105 u106 u107 u108 u109 u110 u111 u112 u113 u114 u115 u116 u117 u118 u119 u120 u121 : Value), (SK w W H a n c xs n0 n1 n2 n3 w8 Bm Bn) → (ResBox w8 B5 54 s1 W H l1) → (ResBox w8 B7 54 s2 W H l2) → (ResBox w8 B9 54 s3 W3 H3 l3) → (Below w8.heap.size w8 wx) → (wx.heap[w8.heap.size]? = some (.cells #[.int .i64 0, .int .i64 0, .slice none 0 0] 48 (0, 0))) → (wx.heap[w8.heap.size + 1]? = some (.cells #[.int .i64 0, .int .i64 0, .slice none 0 0] 48 (0, 0))) → (wx.heap[w8.heap.size + 1 + 1]? = some (.cells #[.int .i64 0, .int .i64 0, .slice none 0 0] 48 (0, 0))) → Code.wp Tryz.prog (spreadsOf 11) (bodyPost Tryz.prog Tryz.f7 (TruePost w)) ⟨#[.agg #[.int .i64 W, .int .i64 H, .slice a n c], .agg #[.int .i64 n0, .int .i64 n1, .int .i64 n2, .int .i64 n3], .pointer (some ⟨Bm, 0, none⟩), .pointer (some ⟨Bn, 0, none⟩), .bool false, .pointer (some ⟨B5, 0, none⟩), .int .i64 s1, .pointer (some ⟨B7, 0, none⟩), .int .i64 s2, .pointer (some ⟨B9, 0, none⟩), .int .i64 s3, .int .i64 r, .int .i64 q1, .int .i64 q2, .int .i64 q3, .pointer (some ⟨w8.heap.size, 0, none⟩), .pointer (some ⟨w8.heap.size + 1, 0, none⟩), .pointer (some ⟨w8.heap.size + 1 + 1, 0, none⟩), u18, u19, u20, u21, u22, u23, u24, u25, u26, u27, u28, u29, u30, u31, u32, u33, u34, u35, u36, u37, u38, u39, u40, u41, u42, u43, u44, u45, u46, u47, u48, u49, u50, u51, u52, u53, u54, u55, u56, u57, u58, u59, u60, u61, u62, u63, u64, u65, u66, u67, u68, u69, u70, u71, u72, u73, u74, u75, u76, u77, u78, u79, u80, u81, u82, u83, u84, u85, u86, u87, u88, u89, u90, u91, u92, u93, u94, u95, u96, u97, u98, u99, u100, u101, u102, u103, u104, u105, u106, u107, u108, u109, u110, u111, u112, u113, u114, u115, u116, u117, u118, u119, u120, u121], []⟩ wx

set_option maxRecDepth 1000000 in
/-- What is still to be shown where the walk stands ahead of region 13. -/
def Spr13 (w : World) (W H : Int) (a : Option Addr) (n c : Nat) (xs : List Nat) (n0 n1 n2 n3 : Int) (r q1 q2 q3 s1 s2 s3 W3 H3 : Int) (l1 l2 l3 : List Int) : Prop :=
  ∀ (wx : World) (w8 : World) (Bm : Nat) (Bn : Nat) (B5 : Nat) (B7 : Nat) (B9 : Nat) (u18 u19 u20 u21 u22 u23 u24 u25 u26 u27 u28 u29 u30 u31 u32 u33 u34 u35 u36 u37 u38 u39 u40 u41 u42 u43 u44 u45 u46 u47 u48 u49 u50 u51 u52 u53 u54 u55 u56 u57 u58 u59 u60 u61 u62 u63 u64 u65 u66 u67 u68 u69 u70 u71 u72 u73 u74 u75 u76 u77 u78 u79 u80 u81 u82 u83 u84 u85 u86 u87 u88 u89 u90 u91 u92 u93 u94 u95 u96 u97 u98 u99 u100 u101 u102 u103 u104 u105 u106 u107 u108 u109 u110 u111 u112 u113 u114 u115 u116 u117 u118 u119 u120 u121 : Value), (SK w W H a n c xs n0 n1 n2 n3 w8 Bm Bn) → (ResBox w8 B5 54 s1 W H l1) → (ResBox w8 B7 54 s2 W H l2) → (ResBox w8 B9 54 s3 W3 H3 l3) → (Below w8.heap.size w8 wx) → (WantBox wx (w8.heap.size) s1 W H l1) → (wx.heap[w8.heap.size + 1]? = some (.cells #[.int .i64 0, .int .i64 0, .slice none 0 0] 48 (0, 0))) → (wx.heap[w8.heap.size + 1 + 1]? = some (.cells #[.int .i64 0, .int .i64 0, .slice none 0 0] 48 (0, 0))) → Code.wp Tryz.prog (spreadsOf 13) (bodyPost Tryz.prog Tryz.f7 (TruePost w)) ⟨#[.agg #[.int .i64 W, .int .i64 H, .slice a n c], .agg #[.int .i64 n0, .int .i64 n1, .int .i64 n2, .int .i64 n3], .pointer (some ⟨Bm, 0, none⟩), .pointer (some ⟨Bn, 0, none⟩), .bool false, .pointer (some ⟨B5, 0, none⟩), .int .i64 s1, .pointer (some ⟨B7, 0, none⟩), .int .i64 s2, .pointer (some ⟨B9, 0, none⟩), .int .i64 s3, .int .i64 r, .int .i64 s1, .int .i64 q2, .int .i64 q3, .pointer (some ⟨w8.heap.size, 0, none⟩), .pointer (some ⟨w8.heap.size + 1, 0, none⟩), .pointer (some ⟨w8.heap.size + 1 + 1, 0, none⟩), u18, u19, u20, u21, u22, u23, u24, u25, u26, u27, u28, u29, u30, u31, u32, u33, u34, u35, u36, u37, u38, u39, u40, u41, u42, u43, u44, u45, u46, u47, u48, u49, u50, u51, u52, u53, u54, u55, u56, u57, u58, u59, u60, u61, u62, u63, u64, u65, u66, u67, u68, u69, u70, u71, u72, u73, u74, u75, u76, u77, u78, u79, u80, u81, u82, u83, u84, u85, u86, u87, u88, u89, u90, u91, u92, u93, u94, u95, u96, u97, u98, u99, u100, u101, u102, u103, u104, u105, u106, u107, u108, u109, u110, u111, u112, u113, u114, u115, u116, u117, u118, u119, u120, u121], []⟩ wx

set_option maxRecDepth 1000000 in
/-- What is still to be shown where the walk stands ahead of region 15. -/
def Spr15 (w : World) (W H : Int) (a : Option Addr) (n c : Nat) (xs : List Nat) (n0 n1 n2 n3 : Int) (r q1 q2 q3 s1 s2 s3 W3 H3 : Int) (l1 l2 l3 : List Int) : Prop :=
  ∀ (wx : World) (w8 : World) (Bm : Nat) (Bn : Nat) (B5 : Nat) (B7 : Nat) (B9 : Nat) (u18 u19 u20 u21 u22 u23 u24 u25 u26 u27 u28 u29 u30 u31 u32 u33 u34 u35 u36 u37 u38 u39 u40 u41 u42 u43 u44 u45 u46 u47 u48 u49 u50 u51 u52 u53 u54 u55 u56 u57 u58 u59 u60 u61 u62 u63 u64 u65 u66 u67 u68 u69 u70 u71 u72 u73 u74 u75 u76 u77 u78 u79 u80 u81 u82 u83 u84 u85 u86 u87 u88 u89 u90 u91 u92 u93 u94 u95 u96 u97 u98 u99 u100 u101 u102 u103 u104 u105 u106 u107 u108 u109 u110 u111 u112 u113 u114 u115 u116 u117 u118 u119 u120 u121 : Value), (SK w W H a n c xs n0 n1 n2 n3 w8 Bm Bn) → (ResBox w8 B5 54 s1 W H l1) → (ResBox w8 B7 54 s2 W H l2) → (ResBox w8 B9 54 s3 W3 H3 l3) → (Below w8.heap.size w8 wx) → (WantBox wx (w8.heap.size) s1 W H l1) → (WantBox wx (w8.heap.size + 1) s2 W H l2) → (wx.heap[w8.heap.size + 1 + 1]? = some (.cells #[.int .i64 0, .int .i64 0, .slice none 0 0] 48 (0, 0))) → Code.wp Tryz.prog (spreadsOf 15) (bodyPost Tryz.prog Tryz.f7 (TruePost w)) ⟨#[.agg #[.int .i64 W, .int .i64 H, .slice a n c], .agg #[.int .i64 n0, .int .i64 n1, .int .i64 n2, .int .i64 n3], .pointer (some ⟨Bm, 0, none⟩), .pointer (some ⟨Bn, 0, none⟩), .bool false, .pointer (some ⟨B5, 0, none⟩), .int .i64 s1, .pointer (some ⟨B7, 0, none⟩), .int .i64 s2, .pointer (some ⟨B9, 0, none⟩), .int .i64 s3, .int .i64 r, .int .i64 s1, .int .i64 s2, .int .i64 q3, .pointer (some ⟨w8.heap.size, 0, none⟩), .pointer (some ⟨w8.heap.size + 1, 0, none⟩), .pointer (some ⟨w8.heap.size + 1 + 1, 0, none⟩), u18, u19, u20, u21, u22, u23, u24, u25, u26, u27, u28, u29, u30, u31, u32, u33, u34, u35, u36, u37, u38, u39, u40, u41, u42, u43, u44, u45, u46, u47, u48, u49, u50, u51, u52, u53, u54, u55, u56, u57, u58, u59, u60, u61, u62, u63, u64, u65, u66, u67, u68, u69, u70, u71, u72, u73, u74, u75, u76, u77, u78, u79, u80, u81, u82, u83, u84, u85, u86, u87, u88, u89, u90, u91, u92, u93, u94, u95, u96, u97, u98, u99, u100, u101, u102, u103, u104, u105, u106, u107, u108, u109, u110, u111, u112, u113, u114, u115, u116, u117, u118, u119, u120, u121], []⟩ wx

set_option maxRecDepth 1000000 in
/-- What is still to be shown where the walk stands ahead of region 17. -/
def Spr17 (w : World) (W H : Int) (a : Option Addr) (n c : Nat) (xs : List Nat) (n0 n1 n2 n3 : Int) (r q1 q2 q3 s1 s2 s3 W3 H3 : Int) (l1 l2 l3 : List Int) : Prop :=
  ∀ (wx : World) (w8 : World) (Bm : Nat) (Bn : Nat) (B5 : Nat) (B7 : Nat) (B9 : Nat) (u18 u19 u20 u21 u22 u23 u24 u25 u26 u27 u28 u29 u30 u31 u32 u33 u34 u35 u36 u37 u38 u39 u40 u41 u42 u43 u44 u45 u46 u47 u48 u49 u50 u51 u52 u53 u54 u55 u56 u57 u58 u59 u60 u61 u62 u63 u64 u65 u66 u67 u68 u69 u70 u71 u72 u73 u74 u75 u76 u77 u78 u79 u80 u81 u82 u83 u84 u85 u86 u87 u88 u89 u90 u91 u92 u93 u94 u95 u96 u97 u98 u99 u100 u101 u102 u103 u104 u105 u106 u107 u108 u109 u110 u111 u112 u113 u114 u115 u116 u117 u118 u119 u120 u121 : Value), (SK w W H a n c xs n0 n1 n2 n3 w8 Bm Bn) → (ResBox w8 B5 54 s1 W H l1) → (ResBox w8 B7 54 s2 W H l2) → (ResBox w8 B9 54 s3 W3 H3 l3) → (Below w8.heap.size w8 wx) → (WantBox wx (w8.heap.size) s1 W H l1) → (WantBox wx (w8.heap.size + 1) s2 W H l2) → (WantBox wx (w8.heap.size + 1 + 1) s3 W3 H3 l3) → Code.wp Tryz.prog (spreadsOf 17) (bodyPost Tryz.prog Tryz.f7 (TruePost w)) ⟨#[.agg #[.int .i64 W, .int .i64 H, .slice a n c], .agg #[.int .i64 n0, .int .i64 n1, .int .i64 n2, .int .i64 n3], .pointer (some ⟨Bm, 0, none⟩), .pointer (some ⟨Bn, 0, none⟩), .bool false, .pointer (some ⟨B5, 0, none⟩), .int .i64 s1, .pointer (some ⟨B7, 0, none⟩), .int .i64 s2, .pointer (some ⟨B9, 0, none⟩), .int .i64 s3, .int .i64 r, .int .i64 s1, .int .i64 s2, .int .i64 s3, .pointer (some ⟨w8.heap.size, 0, none⟩), .pointer (some ⟨w8.heap.size + 1, 0, none⟩), .pointer (some ⟨w8.heap.size + 1 + 1, 0, none⟩), u18, u19, u20, u21, u22, u23, u24, u25, u26, u27, u28, u29, u30, u31, u32, u33, u34, u35, u36, u37, u38, u39, u40, u41, u42, u43, u44, u45, u46, u47, u48, u49, u50, u51, u52, u53, u54, u55, u56, u57, u58, u59, u60, u61, u62, u63, u64, u65, u66, u67, u68, u69, u70, u71, u72, u73, u74, u75, u76, u77, u78, u79, u80, u81, u82, u83, u84, u85, u86, u87, u88, u89, u90, u91, u92, u93, u94, u95, u96, u97, u98, u99, u100, u101, u102, u103, u104, u105, u106, u107, u108, u109, u110, u111, u112, u113, u114, u115, u116, u117, u118, u119, u120, u121], []⟩ wx

set_option maxRecDepth 1000000 in
set_option maxHeartbeats 12800000 in
theorem spreads3 (w : World) (W H : Int) (a : Option Addr) (n c : Nat) (xs : List Nat) (n0 n1 n2 n3 : Int) (r q1 q2 q3 s1 s2 s3 W3 H3 : Int) (l1 l2 l3 : List Int) (hC : SpreadsC W H a n c xs n0 n1 n2 n3 r q1 q2 q3 s1 s2 s3 W3 H3 l1 l2 l3) (hT : Spr4 w W H a n c xs n0 n1 n2 n3 r q1 q2 q3 s1 s2 s3 W3 H3 l1 l2 l3) : Spr3 w W H a n c xs n0 n1 n2 n3 r q1 q2 q3 s1 s2 s3 W3 H3 l1 l2 l3 := by
  unfold Spr3
  intro wx Bm Bn u5 u6 u7 u8 u9 u10 u11 u12 u13 u14 u15 u16 u17 u18 u19 u20 u21 u22 u23 u24 u25 u26 u27 u28 u29 u30 u31 u32 u33 u34 u35 u36 u37 u38 u39 u40 u41 u42 u43 u44 u45 u46 u47 u48 u49 u50 u51 u52 u53 u54 u55 u56 u57 u58 u59 u60 u61 u62 u63 u64 u65 u66 u67 u68 u69 u70 u71 u72 u73 u74 u75 u76 u77 u78 u79 u80 u81 u82 u83 u84 u85 u86 u87 u88 u89 u90 u91 u92 u93 u94 u95 u96 u97 u98 u99 u100 u101 u102 u103 u104 u105 u106 u107 u108 u109 u110 u111 u112 u113 u114 u115 u116 u117 u118 u119 u120 u121 hM
  conv => arg 2; whnf
  dsimp only
  go_upto_region 3 with fail
  go_cut [5, 6] (fun s5 s6 wr => (∃ B, s5 = .pointer (some ⟨B, 0, none⟩) ∧ ResBox wr B 54 s1 W H l1) ∧ s6 = .int .i64 s1 ∧ Below wx.heap.size wx wr)
  case first =>
    have hla := lt_of_blk hM.bm
    have hlb := lt_of_blk hM.bn
    obtain ⟨c0, c1, c2⟩ := map_cells hM.bm
    obtain ⟨d0, d1, d2, d3⟩ := cells4 hM.bn
    have HMA := hM.map
    have KO : Hid (∀ w1 : World, Blw wx.heap.size wx w1 → Calls Tryz.prog 38 #[.agg #[.int .i64 W, .int .i64 H, .slice a n c]] w1 fun e w' =>
        ∃ g c', e = .returned (.agg #[.int .i64 W, .int .i64 H, .slice (some ⟨g, 0, none⟩) n c']) ∧ AnyMap w' (some ⟨g, 0, none⟩) n c' xs ∧ Below w1.heap.size w1 w' ∧ Below wx.heap.size wx w') :=
      Lib.hid (fun w1 (h : Below wx.heap.size wx w1) => (hC.own w1 (HMA.below h (Nat.le_refl _))).mono fun e w' ⟨g, c', he, hm, hb⟩ => ⟨g, c', he, hm, hb, h.trans (hb.mono h.size)⟩)
    have KA : Hid (∀ w1 g c', AnyMap w1 (some ⟨g, 0, none⟩) n c' xs → Blw wx.heap.size wx w1 → Calls Tryz.prog 62 #[.agg #[.int .i64 W, .int .i64 H, .slice (some ⟨g, 0, none⟩) n c'], .int .i64 n0, .int .i64 n1] w1 fun e w' =>
        ∃ X Y a' n' c'', e = .returned (.tuple #[.agg #[.int .i64 X, .int .i64 Y, .slice a' n' c''], .int .i64 s1]) ∧ ResV w' s1 W H l1 X Y a' n' c'' ∧ Below w1.heap.size w1 w' ∧ Below wx.heap.size wx w') :=
      Lib.hid (fun w1 g c' h1 (h : Below wx.heap.size wx w1) => (hC.scaled w1 g c' h1).mono fun e w' ⟨X, Y, a', n', c'', he, hr, hb⟩ => ⟨X, Y, a', n', c'', he, hr, hb, h.trans (hb.mono h.size)⟩)
    clear hC hT hM HMA 
    have hR : Blw wx.heap.size wx wx.drew := show Below _ _ _ from (Below.refl wx.heap.size wx).drew
    go_region_held3 (fun w' => w'.cell? ⟨Bm, 0, none⟩ = some (.int .i64 W) ∧ w'.cell? ⟨Bm, 1, none⟩ = some (.int .i64 H) ∧ w'.cell? ⟨Bm, 2, none⟩ = some (.slice a n c) ∧ w'.cell? ⟨Bn, 0, none⟩ = some (.int .i64 n0) ∧ w'.cell? ⟨Bn, 1, none⟩ = some (.int .i64 n1) ∧ w'.cell? ⟨Bn, 2, none⟩ = some (.int .i64 n2) ∧ w'.cell? ⟨Bn, 3, none⟩ = some (.int .i64 n3) ∧ Blw wx.heap.size wx w')
      (first
        | (go_split_ands; refine ⟨?_, ?_, ?_, ?_, ?_, ?_, ?_, ?_⟩ <;> first | (with_reducible assumption) | exact hb2 | ((rw [hb2.cell (by simp; try omega)]; assumption)))
        | (go_split_ands; refine ⟨?_, ?_, ?_, ?_, ?_, ?_, ?_, ?_⟩ <;> first | ((rw [(hb2.alloc hb2.size _).cell (by simp; try omega)]; assumption)) | exact (hb2.alloc hb2.size _ : Below _ _ _))
        | (go_split_ands; refine ⟨?_, ?_, ?_, ?_, ?_, ?_, ?_, ?_⟩ <;> first | ((refine Eq.trans (Below.cell (B := wx.heap.size) (w := wx) (below_set3 hb2 ?_ _ _ _) ?_) ?_ <;> first | assumption | omega | (simp; done) | (simp; omega)); done) | ((refine (below_set3 hb2 ?_ _ _ _ : Below _ _ _) <;> first | omega | (simp; done) | (simp; omega)); done))
        | (go_split_ands; refine ⟨?_, ?_, ?_, ?_, ?_, ?_, ?_, ?_⟩ <;> first | ((rw [((Below.refl wx.heap.size wx).alloc (Nat.le_refl _) _).drew.cell (by simp; try omega)]; assumption)) | exact (((Below.refl wx.heap.size wx).alloc (Nat.le_refl _) _).drew : Below _ _ _))
        | go_keep)
      (first
        | (go_at_call 38; refine (KO.out _ ?_).mono ?_; rotate_left 1; rintro e wA ⟨ga, ca, rfl, hmA, hbA, hb2⟩; (obtain ⟨hcA, hfA⟩ := bcell hbA); (have hsA := hbA.size); (try simp at hsA); (try have hq0 : wx.heap.size < wA.heap.size := by omega); rotate_left 1; (simp [*]))
        | (go_at_call 62; refine (KA.out _ _ _ (by first | exact hmA | exact hmA.below ((Below.refl _ wA).alloc (Nat.le_refl _) _) (Nat.le_refl _)) (by first | exact (hb2 : Below _ _ _) | exact (hb2.alloc hb2.size _ : Below _ _ _))).mono ?_; rintro e wC ⟨X, Y, a', n', c'', rfl, hres, hbC, hb2⟩; (obtain ⟨hcC, hfC⟩ := bcell hbC); (have hsC := hbC.size); (try simp at hsC); (try have hq4 : wA.heap.size < wC.heap.size := by omega); (try have hq5 : wx.heap.size < wC.heap.size := by omega)))
    all_goals go_wp2_with fail
    all_goals go_meet
    all_goals first
      | exact ⟨⟨_, rfl, ResBox.new hres⟩, rfl, hb2.alloc hb2.size _⟩
      | (have z := (hbC.block wA.heap.size (by simp)).trans (blk_alloc_new wA _); exact ⟨⟨_, rfl, ResBox.put z hres⟩, rfl, below_set3 hb2 (by omega) _ _ _⟩)
      | (have z := (hbC.block wx.heap.size (by omega)).trans ((hbA.block wx.heap.size (by simp)).trans (blk_alloc_new wx _)); exact ⟨⟨_, rfl, ResBox.put z hres⟩, rfl, below_set3 hb2 (by omega) _ _ _⟩)
  case rest =>
    rename_i hK
    obtain ⟨⟨Bx, rfl, hbx⟩, rfl, hb⟩ := hcut
    refine hK _ _ ?_
    clear hK
    unfold Spr4 at hT
    exact hT _  _ _ _ _ _ _ _ _ _ _ _ _ _ _ _ _ _ _ _ _ _ _ _ _ _ _ _ _ _ _ _ _ _ _ _ _ _ _ _ _ _ _ _ _ _ _ _ _ _ _ _ _ _ _ _ _ _ _ _ _ _ _ _ _ _ _ _ _ _ _ _ _ _ _ _ _ _ _ _ _ _ _ _ _ _ _ _ _ _ _ _ _ _ _ _ _ _ _ _ _ _ _ _ _ _ _ _ _ _ _ _ _ _ _ _ _ _ _  (hM.kept hb) hbx

set_option maxRecDepth 1000000 in
set_option maxHeartbeats 12800000 in
theorem spreads4 (w : World) (W H : Int) (a : Option Addr) (n c : Nat) (xs : List Nat) (n0 n1 n2 n3 : Int) (r q1 q2 q3 s1 s2 s3 W3 H3 : Int) (l1 l2 l3 : List Int) (hC : SpreadsC W H a n c xs n0 n1 n2 n3 r q1 q2 q3 s1 s2 s3 W3 H3 l1 l2 l3) (hT : Spr5 w W H a n c xs n0 n1 n2 n3 r q1 q2 q3 s1 s2 s3 W3 H3 l1 l2 l3) : Spr4 w W H a n c xs n0 n1 n2 n3 r q1 q2 q3 s1 s2 s3 W3 H3 l1 l2 l3 := by
  unfold Spr4
  intro wx Bm Bn B5 u7 u8 u9 u10 u11 u12 u13 u14 u15 u16 u17 u18 u19 u20 u21 u22 u23 u24 u25 u26 u27 u28 u29 u30 u31 u32 u33 u34 u35 u36 u37 u38 u39 u40 u41 u42 u43 u44 u45 u46 u47 u48 u49 u50 u51 u52 u53 u54 u55 u56 u57 u58 u59 u60 u61 u62 u63 u64 u65 u66 u67 u68 u69 u70 u71 u72 u73 u74 u75 u76 u77 u78 u79 u80 u81 u82 u83 u84 u85 u86 u87 u88 u89 u90 u91 u92 u93 u94 u95 u96 u97 u98 u99 u100 u101 u102 u103 u104 u105 u106 u107 u108 u109 u110 u111 u112 u113 u114 u115 u116 u117 u118 u119 u120 u121 hM f5
  conv => arg 2; whnf
  dsimp only
  go_upto_region 4 with fail
  go_cut [7, 8] (fun s7 s8 wr => (∃ B, s7 = .pointer (some ⟨B, 0, none⟩) ∧ ResBox wr B 54 s2 W H l2) ∧ s8 = .int .i64 s2 ∧ Below wx.heap.size wx wr)
  case first =>
    have hla := lt_of_blk hM.bm
    have hlb := lt_of_blk hM.bn
    obtain ⟨c0, c1, c2⟩ := map_cells hM.bm
    obtain ⟨d0, d1, d2, d3⟩ := cells4 hM.bn
    have HMA := hM.map
    have KO : Hid (∀ w1 : World, Blw wx.heap.size wx w1 → Calls Tryz.prog 38 #[.agg #[.int .i64 W, .int .i64 H, .slice a n c]] w1 fun e w' =>
        ∃ g c', e = .returned (.agg #[.int .i64 W, .int .i64 H, .slice (some ⟨g, 0, none⟩) n c']) ∧ AnyMap w' (some ⟨g, 0, none⟩) n c' xs ∧ Below w1.heap.size w1 w' ∧ Below wx.heap.size wx w') :=
      Lib.hid (fun w1 (h : Below wx.heap.size wx w1) => (hC.own w1 (HMA.below h (Nat.le_refl _))).mono fun e w' ⟨g, c', he, hm, hb⟩ => ⟨g, c', he, hm, hb, h.trans (hb.mono h.size)⟩)
    have KA : Hid (∀ w1 g c', AnyMap w1 (some ⟨g, 0, none⟩) n c' xs → Blw wx.heap.size wx w1 → Calls Tryz.prog 63 #[.agg #[.int .i64 W, .int .i64 H, .slice (some ⟨g, 0, none⟩) n c'], .int .i64 n2] w1 fun e w' =>
        ∃ X Y a' n' c'', e = .returned (.tuple #[.agg #[.int .i64 X, .int .i64 Y, .slice a' n' c''], .int .i64 s2]) ∧ ResV w' s2 W H l2 X Y a' n' c'' ∧ Below w1.heap.size w1 w' ∧ Below wx.heap.size wx w') :=
      Lib.hid (fun w1 g c' h1 (h : Below wx.heap.size wx w1) => (hC.spread w1 g c' h1).mono fun e w' ⟨X, Y, a', n', c'', he, hr, hb⟩ => ⟨X, Y, a', n', c'', he, hr, hb, h.trans (hb.mono h.size)⟩)
    clear hC hT hM HMA f5
    have hR : Blw wx.heap.size wx wx.drew := show Below _ _ _ from (Below.refl wx.heap.size wx).drew
    go_region_held3 (fun w' => w'.cell? ⟨Bm, 0, none⟩ = some (.int .i64 W) ∧ w'.cell? ⟨Bm, 1, none⟩ = some (.int .i64 H) ∧ w'.cell? ⟨Bm, 2, none⟩ = some (.slice a n c) ∧ w'.cell? ⟨Bn, 0, none⟩ = some (.int .i64 n0) ∧ w'.cell? ⟨Bn, 1, none⟩ = some (.int .i64 n1) ∧ w'.cell? ⟨Bn, 2, none⟩ = some (.int .i64 n2) ∧ w'.cell? ⟨Bn, 3, none⟩ = some (.int .i64 n3) ∧ Blw wx.heap.size wx w')
      (first
        | (go_split_ands; refine ⟨?_, ?_, ?_, ?_, ?_, ?_, ?_, ?_⟩ <;> first | (with_reducible assumption) | exact hb2 | ((rw [hb2.cell (by simp; try omega)]; assumption)))
        | (go_split_ands; refine ⟨?_, ?_, ?_, ?_, ?_, ?_, ?_, ?_⟩ <;> first | ((rw [(hb2.alloc hb2.size _).cell (by simp; try omega)]; assumption)) | exact (hb2.alloc hb2.size _ : Below _ _ _))
        | (go_split_ands; refine ⟨?_, ?_, ?_, ?_, ?_, ?_, ?_, ?_⟩ <;> first | ((refine Eq.trans (Below.cell (B := wx.heap.size) (w := wx) (below_set3 hb2 ?_ _ _ _) ?_) ?_ <;> first | assumption | omega | (simp; done) | (simp; omega)); done) | ((refine (below_set3 hb2 ?_ _ _ _ : Below _ _ _) <;> first | omega | (simp; done) | (simp; omega)); done))
        | (go_split_ands; refine ⟨?_, ?_, ?_, ?_, ?_, ?_, ?_, ?_⟩ <;> first | ((rw [((Below.refl wx.heap.size wx).alloc (Nat.le_refl _) _).drew.cell (by simp; try omega)]; assumption)) | exact (((Below.refl wx.heap.size wx).alloc (Nat.le_refl _) _).drew : Below _ _ _))
        | go_keep)
      (first
        | (go_at_call 38; refine (KO.out _ ?_).mono ?_; rotate_left 1; rintro e wA ⟨ga, ca, rfl, hmA, hbA, hb2⟩; (obtain ⟨hcA, hfA⟩ := bcell hbA); (have hsA := hbA.size); (try simp at hsA); (try have hq0 : wx.heap.size < wA.heap.size := by omega); rotate_left 1; (simp [*]))
        | (go_at_call 63; refine (KA.out _ _ _ (by first | exact hmA | exact hmA.below ((Below.refl _ wA).alloc (Nat.le_refl _) _) (Nat.le_refl _)) (by first | exact (hb2 : Below _ _ _) | exact (hb2.alloc hb2.size _ : Below _ _ _))).mono ?_; rintro e wC ⟨X, Y, a', n', c'', rfl, hres, hbC, hb2⟩; (obtain ⟨hcC, hfC⟩ := bcell hbC); (have hsC := hbC.size); (try simp at hsC); (try have hq4 : wA.heap.size < wC.heap.size := by omega); (try have hq5 : wx.heap.size < wC.heap.size := by omega)))
    all_goals go_wp2_with fail
    all_goals go_meet
    all_goals first
      | exact ⟨⟨_, rfl, ResBox.new hres⟩, rfl, hb2.alloc hb2.size _⟩
      | (have z := (hbC.block wA.heap.size (by simp)).trans (blk_alloc_new wA _); exact ⟨⟨_, rfl, ResBox.put z hres⟩, rfl, below_set3 hb2 (by omega) _ _ _⟩)
      | (have z := (hbC.block wx.heap.size (by omega)).trans ((hbA.block wx.heap.size (by simp)).trans (blk_alloc_new wx _)); exact ⟨⟨_, rfl, ResBox.put z hres⟩, rfl, below_set3 hb2 (by omega) _ _ _⟩)
  case rest =>
    rename_i hK
    obtain ⟨⟨Bx, rfl, hbx⟩, rfl, hb⟩ := hcut
    refine hK _ _ ?_
    clear hK
    unfold Spr5 at hT
    exact hT _  _ _ _ _ _ _ _ _ _ _ _ _ _ _ _ _ _ _ _ _ _ _ _ _ _ _ _ _ _ _ _ _ _ _ _ _ _ _ _ _ _ _ _ _ _ _ _ _ _ _ _ _ _ _ _ _ _ _ _ _ _ _ _ _ _ _ _ _ _ _ _ _ _ _ _ _ _ _ _ _ _ _ _ _ _ _ _ _ _ _ _ _ _ _ _ _ _ _ _ _ _ _ _ _ _ _ _ _ _ _ _ _ _ _ _ _ _  (hM.kept hb) (f5.kept hb) hbx

set_option maxRecDepth 1000000 in
set_option maxHeartbeats 12800000 in
theorem spreads5 (w : World) (W H : Int) (a : Option Addr) (n c : Nat) (xs : List Nat) (n0 n1 n2 n3 : Int) (r q1 q2 q3 s1 s2 s3 W3 H3 : Int) (l1 l2 l3 : List Int) (hC : SpreadsC W H a n c xs n0 n1 n2 n3 r q1 q2 q3 s1 s2 s3 W3 H3 l1 l2 l3) (hT : Spr6 w W H a n c xs n0 n1 n2 n3 r q1 q2 q3 s1 s2 s3 W3 H3 l1 l2 l3) : Spr5 w W H a n c xs n0 n1 n2 n3 r q1 q2 q3 s1 s2 s3 W3 H3 l1 l2 l3 := by
  unfold Spr5
  intro wx Bm Bn B5 B7 u9 u10 u11 u12 u13 u14 u15 u16 u17 u18 u19 u20 u21 u22 u23 u24 u25 u26 u27 u28 u29 u30 u31 u32 u33 u34 u35 u36 u37 u38 u39 u40 u41 u42 u43 u44 u45 u46 u47 u48 u49 u50 u51 u52 u53 u54 u55 u56 u57 u58 u59 u60 u61 u62 u63 u64 u65 u66 u67 u68 u69 u70 u71 u72 u73 u74 u75 u76 u77 u78 u79 u80 u81 u82 u83 u84 u85 u86 u87 u88 u89 u90 u91 u92 u93 u94 u95 u96 u97 u98 u99 u100 u101 u102 u103 u104 u105 u106 u107 u108 u109 u110 u111 u112 u113 u114 u115 u116 u117 u118 u119 u120 u121 hM f5 f7
  conv => arg 2; whnf
  dsimp only
  go_upto_region 5 with fail
  go_cut [9, 10] (fun s9 s10 wr => (∃ B, s9 = .pointer (some ⟨B, 0, none⟩) ∧ ResBox wr B 54 s3 W3 H3 l3) ∧ s10 = .int .i64 s3 ∧ Below wx.heap.size wx wr)
  case first =>
    have hla := lt_of_blk hM.bm
    have hlb := lt_of_blk hM.bn
    obtain ⟨c0, c1, c2⟩ := map_cells hM.bm
    obtain ⟨d0, d1, d2, d3⟩ := cells4 hM.bn
    have HMA := hM.map
    have KO : Hid (∀ w1 : World, Blw wx.heap.size wx w1 → Calls Tryz.prog 38 #[.agg #[.int .i64 W, .int .i64 H, .slice a n c]] w1 fun e w' =>
        ∃ g c', e = .returned (.agg #[.int .i64 W, .int .i64 H, .slice (some ⟨g, 0, none⟩) n c']) ∧ AnyMap w' (some ⟨g, 0, none⟩) n c' xs ∧ Below w1.heap.size w1 w' ∧ Below wx.heap.size wx w') :=
      Lib.hid (fun w1 (h : Below wx.heap.size wx w1) => (hC.own w1 (HMA.below h (Nat.le_refl _))).mono fun e w' ⟨g, c', he, hm, hb⟩ => ⟨g, c', he, hm, hb, h.trans (hb.mono h.size)⟩)
    have KA : Hid (∀ w1 g c', AnyMap w1 (some ⟨g, 0, none⟩) n c' xs → Blw wx.heap.size wx w1 → Calls Tryz.prog 64 #[.agg #[.int .i64 W, .int .i64 H, .slice (some ⟨g, 0, none⟩) n c'], .int .i64 n3] w1 fun e w' =>
        ∃ X Y a' n' c'', e = .returned (.tuple #[.agg #[.int .i64 X, .int .i64 Y, .slice a' n' c''], .int .i64 s3]) ∧ ResV w' s3 W3 H3 l3 X Y a' n' c'' ∧ Below w1.heap.size w1 w' ∧ Below wx.heap.size wx w') :=
      Lib.hid (fun w1 g c' h1 (h : Below wx.heap.size wx w1) => (hC.binned w1 g c' h1).mono fun e w' ⟨X, Y, a', n', c'', he, hr, hb⟩ => ⟨X, Y, a', n', c'', he, hr, hb, h.trans (hb.mono h.size)⟩)
    clear hC hT hM HMA f5 f7
    have hR : Blw wx.heap.size wx wx.drew := show Below _ _ _ from (Below.refl wx.heap.size wx).drew
    go_region_held3 (fun w' => w'.cell? ⟨Bm, 0, none⟩ = some (.int .i64 W) ∧ w'.cell? ⟨Bm, 1, none⟩ = some (.int .i64 H) ∧ w'.cell? ⟨Bm, 2, none⟩ = some (.slice a n c) ∧ w'.cell? ⟨Bn, 0, none⟩ = some (.int .i64 n0) ∧ w'.cell? ⟨Bn, 1, none⟩ = some (.int .i64 n1) ∧ w'.cell? ⟨Bn, 2, none⟩ = some (.int .i64 n2) ∧ w'.cell? ⟨Bn, 3, none⟩ = some (.int .i64 n3) ∧ Blw wx.heap.size wx w')
      (first
        | (go_split_ands; refine ⟨?_, ?_, ?_, ?_, ?_, ?_, ?_, ?_⟩ <;> first | (with_reducible assumption) | exact hb2 | ((rw [hb2.cell (by simp; try omega)]; assumption)))
        | (go_split_ands; refine ⟨?_, ?_, ?_, ?_, ?_, ?_, ?_, ?_⟩ <;> first | ((rw [(hb2.alloc hb2.size _).cell (by simp; try omega)]; assumption)) | exact (hb2.alloc hb2.size _ : Below _ _ _))
        | (go_split_ands; refine ⟨?_, ?_, ?_, ?_, ?_, ?_, ?_, ?_⟩ <;> first | ((refine Eq.trans (Below.cell (B := wx.heap.size) (w := wx) (below_set3 hb2 ?_ _ _ _) ?_) ?_ <;> first | assumption | omega | (simp; done) | (simp; omega)); done) | ((refine (below_set3 hb2 ?_ _ _ _ : Below _ _ _) <;> first | omega | (simp; done) | (simp; omega)); done))
        | (go_split_ands; refine ⟨?_, ?_, ?_, ?_, ?_, ?_, ?_, ?_⟩ <;> first | ((rw [((Below.refl wx.heap.size wx).alloc (Nat.le_refl _) _).drew.cell (by simp; try omega)]; assumption)) | exact (((Below.refl wx.heap.size wx).alloc (Nat.le_refl _) _).drew : Below _ _ _))
        | go_keep)
      (first
        | (go_at_call 38; refine (KO.out _ ?_).mono ?_; rotate_left 1; rintro e wA ⟨ga, ca, rfl, hmA, hbA, hb2⟩; (obtain ⟨hcA, hfA⟩ := bcell hbA); (have hsA := hbA.size); (try simp at hsA); (try have hq0 : wx.heap.size < wA.heap.size := by omega); rotate_left 1; (simp [*]))
        | (go_at_call 64; refine (KA.out _ _ _ (by first | exact hmA | exact hmA.below ((Below.refl _ wA).alloc (Nat.le_refl _) _) (Nat.le_refl _)) (by first | exact (hb2 : Below _ _ _) | exact (hb2.alloc hb2.size _ : Below _ _ _))).mono ?_; rintro e wC ⟨X, Y, a', n', c'', rfl, hres, hbC, hb2⟩; (obtain ⟨hcC, hfC⟩ := bcell hbC); (have hsC := hbC.size); (try simp at hsC); (try have hq4 : wA.heap.size < wC.heap.size := by omega); (try have hq5 : wx.heap.size < wC.heap.size := by omega)))
    all_goals go_wp2_with fail
    all_goals go_meet
    all_goals first
      | exact ⟨⟨_, rfl, ResBox.new hres⟩, rfl, hb2.alloc hb2.size _⟩
      | (have z := (hbC.block wA.heap.size (by simp)).trans (blk_alloc_new wA _); exact ⟨⟨_, rfl, ResBox.put z hres⟩, rfl, below_set3 hb2 (by omega) _ _ _⟩)
      | (have z := (hbC.block wx.heap.size (by omega)).trans ((hbA.block wx.heap.size (by simp)).trans (blk_alloc_new wx _)); exact ⟨⟨_, rfl, ResBox.put z hres⟩, rfl, below_set3 hb2 (by omega) _ _ _⟩)
  case rest =>
    rename_i hK
    obtain ⟨⟨Bx, rfl, hbx⟩, rfl, hb⟩ := hcut
    refine hK _ _ ?_
    clear hK
    unfold Spr6 at hT
    exact hT _  _ _ _ _ _ _ _ _ _ _ _ _ _ _ _ _ _ _ _ _ _ _ _ _ _ _ _ _ _ _ _ _ _ _ _ _ _ _ _ _ _ _ _ _ _ _ _ _ _ _ _ _ _ _ _ _ _ _ _ _ _ _ _ _ _ _ _ _ _ _ _ _ _ _ _ _ _ _ _ _ _ _ _ _ _ _ _ _ _ _ _ _ _ _ _ _ _ _ _ _ _ _ _ _ _ _ _ _ _ _ _ _ _ _ _ _  (hM.kept hb) (f5.kept hb) (f7.kept hb) hbx

set_option maxRecDepth 1000000 in
set_option maxHeartbeats 12800000 in
theorem spreads6 (w : World) (W H : Int) (a : Option Addr) (n c : Nat) (xs : List Nat) (n0 n1 n2 n3 : Int) (r q1 q2 q3 s1 s2 s3 W3 H3 : Int) (l1 l2 l3 : List Int) (hC : SpreadsC W H a n c xs n0 n1 n2 n3 r q1 q2 q3 s1 s2 s3 W3 H3 l1 l2 l3) (hT : Spr7 w W H a n c xs n0 n1 n2 n3 r q1 q2 q3 s1 s2 s3 W3 H3 l1 l2 l3) : Spr6 w W H a n c xs n0 n1 n2 n3 r q1 q2 q3 s1 s2 s3 W3 H3 l1 l2 l3 := by
  unfold Spr6
  intro wx Bm Bn B5 B7 B9 u11 u12 u13 u14 u15 u16 u17 u18 u19 u20 u21 u22 u23 u24 u25 u26 u27 u28 u29 u30 u31 u32 u33 u34 u35 u36 u37 u38 u39 u40 u41 u42 u43 u44 u45 u46 u47 u48 u49 u50 u51 u52 u53 u54 u55 u56 u57 u58 u59 u60 u61 u62 u63 u64 u65 u66 u67 u68 u69 u70 u71 u72 u73 u74 u75 u76 u77 u78 u79 u80 u81 u82 u83 u84 u85 u86 u87 u88 u89 u90 u91 u92 u93 u94 u95 u96 u97 u98 u99 u100 u101 u102 u103 u104 u105 u106 u107 u108 u109 u110 u111 u112 u113 u114 u115 u116 u117 u118 u119 u120 u121 hM f5 f7 f9
  conv => arg 2; whnf
  dsimp only
  go_upto_region 6 with fail
  go_cut [11] (fun s11 wr => s11 = .int .i64 r ∧ Below wx.heap.size wx wr)
  case first =>
    have hmap := hM.map
    obtain ⟨c0, c1, c2⟩ := map_cells hM.bm
    have KR := Lib.hid (hC.chk wx hmap)
    clear hC hT hmap
    go_wp2_with (go_at_call 41; refine KR.out.mono ?_; rintro e w1 ⟨rfl, hb1⟩)
    go_meet
    exact ⟨rfl, hb1⟩
  case rest =>
    rename_i hK
    obtain ⟨rfl, hb⟩ := hcut
    refine hK _ _ ?_
    clear hK
    unfold Spr7 at hT
    exact hT _  _ _ _ _ _ _ _ _ _ _ _ _ _ _ _ _ _ _ _ _ _ _ _ _ _ _ _ _ _ _ _ _ _ _ _ _ _ _ _ _ _ _ _ _ _ _ _ _ _ _ _ _ _ _ _ _ _ _ _ _ _ _ _ _ _ _ _ _ _ _ _ _ _ _ _ _ _ _ _ _ _ _ _ _ _ _ _ _ _ _ _ _ _ _ _ _ _ _ _ _ _ _ _ _ _ _ _ _ _ _ _ _ _ _ _  (hM.kept hb) (f5.kept hb) (f7.kept hb) (f9.kept hb)

set_option maxRecDepth 1000000 in
set_option maxHeartbeats 12800000 in
theorem spreads7 (w : World) (W H : Int) (a : Option Addr) (n c : Nat) (xs : List Nat) (n0 n1 n2 n3 : Int) (r q1 q2 q3 s1 s2 s3 W3 H3 : Int) (l1 l2 l3 : List Int) (hC : SpreadsC W H a n c xs n0 n1 n2 n3 r q1 q2 q3 s1 s2 s3 W3 H3 l1 l2 l3) (hT : Spr8 w W H a n c xs n0 n1 n2 n3 r q1 q2 q3 s1 s2 s3 W3 H3 l1 l2 l3) : Spr7 w W H a n c xs n0 n1 n2 n3 r q1 q2 q3 s1 s2 s3 W3 H3 l1 l2 l3 := by
  unfold Spr7
  intro wx Bm Bn B5 B7 B9 u12 u13 u14 u15 u16 u17 u18 u19 u20 u21 u22 u23 u24 u25 u26 u27 u28 u29 u30 u31 u32 u33 u34 u35 u36 u37 u38 u39 u40 u41 u42 u43 u44 u45 u46 u47 u48 u49 u50 u51 u52 u53 u54 u55 u56 u57 u58 u59 u60 u61 u62 u63 u64 u65 u66 u67 u68 u69 u70 u71 u72 u73 u74 u75 u76 u77 u78 u79 u80 u81 u82 u83 u84 u85 u86 u87 u88 u89 u90 u91 u92 u93 u94 u95 u96 u97 u98 u99 u100 u101 u102 u103 u104 u105 u106 u107 u108 u109 u110 u111 u112 u113 u114 u115 u116 u117 u118 u119 u120 u121 hM f5 f7 f9
  conv => arg 2; whnf
  dsimp only
  go_upto_region 7 with fail
  go_cut [12] (fun s12 wr => s12 = .int .i64 q1 ∧ Below wx.heap.size wx wr)
  case first =>
    obtain ⟨d0, d1, d2, d3⟩ := cells4 hM.bn
    have HR := Lib.hid hC.e1
    have hbx : Below wx.heap.size wx ((wx.alloc (.cells #[.int .i64 r, .int .i64 (rangeErr n0 (-1000) 1000), .int .i64 (rangeErr n1 1 1000)] 3)).drew) := ((Below.refl wx.heap.size wx).alloc (Nat.le_refl _) _).drew
    have hby : Below wx.heap.size wx ((wx.drew).alloc (.cells #[.int .i64 r, .int .i64 (rangeErr n0 (-1000) 1000), .int .i64 (rangeErr n1 1 1000)] 3)) := ((Below.refl wx.heap.size wx).drew).alloc (Nat.le_refl _) _
    clear hC hT
    go_region_held3 (fun w' => w'.cell? ⟨Bn, 0, none⟩ = some (.int .i64 n0) ∧ w'.cell? ⟨Bn, 1, none⟩ = some (.int .i64 n1))
      (first | go_keep | (go_split_ands; refine ⟨?_, ?_⟩ <;> assumption))
      (first
        | (go_at_call_of 23 (Value.int .i64 n0); refine (refCheckRange_any n0 (-1000) 1000 _).mono ?_; rintro e w2 ⟨rfl, rfl⟩)
        | (go_at_call_of 23 (Value.int .i64 n1); refine (refCheckRange_any n1 1 1000 _).mono ?_; rintro e w2 ⟨rfl, rfl⟩)
        | ((go_at_call 21; refine (sFirst_any _ 0 3 3 [r, rangeErr n0 (-1000) 1000, rangeErr n1 1 1000] rfl (by omega) _ ?_).mono ?_; rotate_left 1; rintro e w' ⟨rfl, rfl⟩; rw [HR.out]; rotate_left 1; (intro j hj; match j, hj with | 0, _ => simp [go_sem] | 1, _ => simp [go_sem] | 2, _ => simp [go_sem]))))
    all_goals go_wp2_with fail
    all_goals go_meet
    all_goals first | exact ⟨rfl, hbx⟩ | exact ⟨rfl, hby⟩
  case rest =>
    rename_i hK
    obtain ⟨rfl, hb⟩ := hcut
    refine hK _ _ ?_
    clear hK
    unfold Spr8 at hT
    exact hT _  _ _ _ _ _ _ _ _ _ _ _ _ _ _ _ _ _ _ _ _ _ _ _ _ _ _ _ _ _ _ _ _ _ _ _ _ _ _ _ _ _ _ _ _ _ _ _ _ _ _ _ _ _ _ _ _ _ _ _ _ _ _ _ _ _ _ _ _ _ _ _ _ _ _ _ _ _ _ _ _ _ _ _ _ _ _ _ _ _ _ _ _ _ _ _ _ _ _ _ _ _ _ _ _ _ _ _ _ _ _ _ _ _ _  (hM.kept hb) (f5.kept hb) (f7.kept hb) (f9.kept hb)

set_option maxRecDepth 1000000 in
set_option maxHeartbeats 12800000 in
theorem spreads8 (w : World) (W H : Int) (a : Option Addr) (n c : Nat) (xs : List Nat) (n0 n1 n2 n3 : Int) (r q1 q2 q3 s1 s2 s3 W3 H3 : Int) (l1 l2 l3 : List Int) (hC : SpreadsC W H a n c xs n0 n1 n2 n3 r q1 q2 q3 s1 s2 s3 W3 H3 l1 l2 l3) (hT : Spr9 w W H a n c xs n0 n1 n2 n3 r q1 q2 q3 s1 s2 s3 W3 H3 l1 l2 l3) : Spr8 w W H a n c xs n0 n1 n2 n3 r q1 q2 q3 s1 s2 s3 W3 H3 l1 l2 l3 := by
  unfold Spr8
  intro wx Bm Bn B5 B7 B9 u13 u14 u15 u16 u17 u18 u19 u20 u21 u22 u23 u24 u25 u26 u27 u28 u29 u30 u31 u32 u33 u34 u35 u36 u37 u38 u39 u40 u41 u42 u43 u44 u45 u46 u47 u48 u49 u50 u51 u52 u53 u54 u55 u56 u57 u58 u59 u60 u61 u62 u63 u64 u65 u66 u67 u68 u69 u70 u71 u72 u73 u74 u75 u76 u77 u78 u79 u80 u81 u82 u83 u84 u85 u86 u87 u88 u89 u90 u91 u92 u93 u94 u95 u96 u97 u98 u99 u100 u101 u102 u103 u104 u105 u106 u107 u108 u109 u110 u111 u112 u113 u114 u115 u116 u117 u118 u119 u120 u121 hM f5 f7 f9
  conv => arg 2; whnf
  dsimp only
  go_upto_region 8 with fail
  go_cut [13] (fun s13 wr => s13 = .int .i64 q2 ∧ Below wx.heap.size wx wr)
  case first =>
    obtain ⟨d0, d1, d2, d3⟩ := cells4 hM.bn
    have HR := Lib.hid hC.e2
    have hbx : Below wx.heap.size wx (wx.alloc (.cells #[.int .i64 r, .int .i64 (rangeErr n2 0 4)] 3)) := (Below.refl wx.heap.size wx).alloc (Nat.le_refl _) _
    clear hC hT
    go_wp2_with (first
      | (go_at_call 23; refine (refCheckRange_any n2 0 4 _).mono ?_; rintro e w2 ⟨rfl, rfl⟩)
      | ((go_at_call 21; refine (sFirst_any _ 0 2 2 [r, rangeErr n2 0 4] rfl (by omega) _ ?_).mono ?_; rotate_left 1; rintro e w' ⟨rfl, rfl⟩; rw [HR.out]; rotate_left 1; (intro j hj; match j, hj with | 0, _ => simp [go_sem] | 1, _ => simp [go_sem]))))
    go_meet
    exact ⟨rfl, hbx⟩
  case rest =>
    rename_i hK
    obtain ⟨rfl, hb⟩ := hcut
    refine hK _ _ ?_
    clear hK
    unfold Spr9 at hT
    exact hT _  _ _ _ _ _ _ _ _ _ _ _ _ _ _ _ _ _ _ _ _ _ _ _ _ _ _ _ _ _ _ _ _ _ _ _ _ _ _ _ _ _ _ _ _ _ _ _ _ _ _ _ _ _ _ _ _ _ _ _ _ _ _ _ _ _ _ _ _ _ _ _ _ _ _ _ _ _ _ _ _ _ _ _ _ _ _ _ _ _ _ _ _ _ _ _ _ _ _ _ _ _ _ _ _ _ _ _ _ _ _ _ _ _  (hM.kept hb) (f5.kept hb) (f7.kept hb) (f9.kept hb)

set_option maxRecDepth 1000000 in
set_option maxHeartbeats 12800000 in
theorem spreads9 (w : World) (W H : Int) (a : Option Addr) (n c : Nat) (xs : List Nat) (n0 n1 n2 n3 : Int) (r q1 q2 q3 s1 s2 s3 W3 H3 : Int) (l1 l2 l3 : List Int) (hC : SpreadsC W H a n c xs n0 n1 n2 n3 r q1 q2 q3 s1 s2 s3 W3 H3 l1 l2 l3) (hT : Spr10 w W H a n c xs n0 n1 n2 n3 r q1 q2 q3 s1 s2 s3 W3 H3 l1 l2 l3) : Spr9 w W H a n c xs n0 n1 n2 n3 r q1 q2 q3 s1 s2 s3 W3 H3 l1 l2 l3 := by
  unfold Spr9
  intro wx Bm Bn B5 B7 B9 u14 u15 u16 u17 u18 u19 u20 u21 u22 u23 u24 u25 u26 u27 u28 u29 u30 u31 u32 u33 u34 u35 u36 u37 u38 u39 u40 u41 u42 u43 u44 u45 u46 u47 u48 u49 u50 u51 u52 u53 u54 u55 u56 u57 u58 u59 u60 u61 u62 u63 u64 u65 u66 u67 u68 u69 u70 u71 u72 u73 u74 u75 u76 u77 u78 u79 u80 u81 u82 u83 u84 u85 u86 u87 u88 u89 u90 u91 u92 u93 u94 u95 u96 u97 u98 u99 u100 u101 u102 u103 u104 u105 u106 u107 u108 u109 u110 u111 u112 u113 u114 u115 u116 u117 u118 u119 u120 u121 hM f5 f7 f9
  conv => arg 2; whnf
  dsimp only
  go_upto_region 9 with fail
  go_cut [14] (fun s14 wr => s14 = .int .i64 q3 ∧ Below wx.heap.size wx wr)
  case first =>
    obtain ⟨d0, d1, d2, d3⟩ := cells4 hM.bn
    have HR := Lib.hid hC.e3
    have hbx : Below wx.heap.size wx (wx.alloc (.cells #[.int .i64 r, .int .i64 (rangeErr n3 1 64)] 3)) := (Below.refl wx.heap.size wx).alloc (Nat.le_refl _) _
    clear hC hT
    go_wp2_with (first
      | (go_at_call 51; refine (refCheckSide_any _ _).mono ?_; rintro e w2 ⟨rfl, rfl⟩)
      | ((go_at_call 21; refine (sFirst_any _ 0 2 2 [r, rangeErr n3 1 64] rfl (by omega) _ ?_).mono ?_; rotate_left 1; rintro e w' ⟨rfl, rfl⟩; rw [HR.out]; rotate_left 1; (intro j hj; match j, hj with | 0, _ => simp [go_sem] | 1, _ => simp [go_sem]))))
    go_meet
    exact ⟨rfl, hbx⟩
  case rest =>
    rename_i hK
    obtain ⟨rfl, hb⟩ := hcut
    refine hK _ _ ?_
    clear hK
    unfold Spr10 at hT
    exact hT _  _ _ _ _ _ _ _ _ _ _ _ _ _ _ _ _ _ _ _ _ _ _ _ _ _ _ _ _ _ _ _ _ _ _ _ _ _ _ _ _ _ _ _ _ _ _ _ _ _ _ _ _ _ _ _ _ _ _ _ _ _ _ _ _ _ _ _ _ _ _ _ _ _ _ _ _ _ _ _ _ _ _ _ _ _ _ _ _ _ _ _ _ _ _ _ _ _ _ _ _ _ _ _ _ _ _ _ _ _ _ _ _  (hM.kept hb) (f5.kept hb) (f7.kept hb) (f9.kept hb)

set_option maxRecDepth 1000000 in
set_option maxHeartbeats 12800000 in
theorem spreads10 (w : World) (W H : Int) (a : Option Addr) (n c : Nat) (xs : List Nat) (n0 n1 n2 n3 : Int) (r q1 q2 q3 s1 s2 s3 W3 H3 : Int) (l1 l2 l3 : List Int) (hC : SpreadsC W H a n c xs n0 n1 n2 n3 r q1 q2 q3 s1 s2 s3 W3 H3 l1 l2 l3) (hT : Spr11 w W H a n c xs n0 n1 n2 n3 r q1 q2 q3 s1 s2 s3 W3 H3 l1 l2 l3) : Spr10 w W H a n c xs n0 n1 n2 n3 r q1 q2 q3 s1 s2 s3 W3 H3 l1 l2 l3 := by
  unfold Spr10
  intro wx Bm Bn B5 B7 B9 u15 u16 u17 u18 u19 u20 u21 u22 u23 u24 u25 u26 u27 u28 u29 u30 u31 u32 u33 u34 u35 u36 u37 u38 u39 u40 u41 u42 u43 u44 u45 u46 u47 u48 u49 u50 u51 u52 u53 u54 u55 u56 u57 u58 u59 u60 u61 u62 u63 u64 u65 u66 u67 u68 u69 u70 u71 u72 u73 u74 u75 u76 u77 u78 u79 u80 u81 u82 u83 u84 u85 u86 u87 u88 u89 u90 u91 u92 u93 u94 u95 u96 u97 u98 u99 u100 u101 u102 u103 u104 u105 u106 u107 u108 u109 u110 u111 u112 u113 u114 u115 u116 u117 u118 u119 u120 u121 hM f5 f7 f9
  conv => arg 2; whnf
  dsimp only
  go_upto_region 10 with fail
  go_cut [15, 16, 17] (fun s15 s16 s17 wr => s15 = .pointer (some ⟨wx.heap.size, 0, none⟩) ∧ s16 = .pointer (some ⟨wx.heap.size + 1, 0, none⟩) ∧ s17 = .pointer (some ⟨wx.heap.size + 1 + 1, 0, none⟩) ∧ Below wx.heap.size wx wr ∧ wr.heap[wx.heap.size]? = some (.cells #[.int .i64 0, .int .i64 0, .slice none 0 0] 48 (0, 0)) ∧ wr.heap[wx.heap.size + 1]? = some (.cells #[.int .i64 0, .int .i64 0, .slice none 0 0] 48 (0, 0)) ∧ wr.heap[wx.heap.size + 1 + 1]? = some (.cells #[.int .i64 0, .int .i64 0, .slice none 0 0] 48 (0, 0)))
  case first =>
    clear hC hT
    have x1 : Below wx.heap.size wx (((wx.alloc (.cells #[.int .i64 0, .int .i64 0, .slice none 0 0] 48)).alloc (.cells #[.int .i64 0, .int .i64 0, .slice none 0 0] 48)).alloc (.cells #[.int .i64 0, .int .i64 0, .slice none 0 0] 48)) := (((Below.refl _ wx).alloc (Nat.le_refl _) _).alloc (by simp) _).alloc (by simp; omega) _
    have x2 : (((wx.alloc (.cells #[.int .i64 0, .int .i64 0, .slice none 0 0] 48)).alloc (.cells #[.int .i64 0, .int .i64 0, .slice none 0 0] 48)).alloc (.cells #[.int .i64 0, .int .i64 0, .slice none 0 0] 48)).heap[wx.heap.size]? = some (.cells #[.int .i64 0, .int .i64 0, .slice none 0 0] 48 (0, 0)) := blk_alloc_other (blk_alloc_other (blk_alloc_new _ _) _) _
    have x3 : (((wx.alloc (.cells #[.int .i64 0, .int .i64 0, .slice none 0 0] 48)).alloc (.cells #[.int .i64 0, .int .i64 0, .slice none 0 0] 48)).alloc (.cells #[.int .i64 0, .int .i64 0, .slice none 0 0] 48)).heap[wx.heap.size + 1]? = some (.cells #[.int .i64 0, .int .i64 0, .slice none 0 0] 48 (0, 0)) := blk_alloc_other (blk_alloc_new1 _ _ _) _
    have x4 : (((wx.alloc (.cells #[.int .i64 0, .int .i64 0, .slice none 0 0] 48)).alloc (.cells #[.int .i64 0, .int .i64 0, .slice none 0 0] 48)).alloc (.cells #[.int .i64 0, .int .i64 0, .slice none 0 0] 48)).heap[wx.heap.size + 1 + 1]? = some (.cells #[.int .i64 0, .int .i64 0, .slice none 0 0] 48 (0, 0)) := by
      have h := blk_alloc_new ((wx.alloc (.cells #[.int .i64 0, .int .i64 0, .slice none 0 0] 48)).alloc (.cells #[.int .i64 0, .int .i64 0, .slice none 0 0] 48)) (.cells #[.int .i64 0, .int .i64 0, .slice none 0 0] 48)
      simpa using h
    go_wp2_with fail
    go_meet
    exact ⟨rfl, rfl, rfl, x1, x2, x3, x4⟩
  case rest =>
    rename_i hK
    obtain ⟨rfl, rfl, rfl, hb, x2, x3, x4⟩ := hcut
    refine hK _ _ ?_
    clear hK
    unfold Spr11 at hT
    exact hT _ wx _ _ _ _ _ _ _ _ _ _ _ _ _ _ _ _ _ _ _ _ _ _ _ _ _ _ _ _ _ _ _ _ _ _ _ _ _ _ _ _ _ _ _ _ _ _ _ _ _ _ _ _ _ _ _ _ _ _ _ _ _ _ _ _ _ _ _ _ _ _ _ _ _ _ _ _ _ _ _ _ _ _ _ _ _ _ _ _ _ _ _ _ _ _ _ _ _ _ _ _ _ _ _ _ _ _ _ _ _  hM f5 f7 f9 hb x2 x3 x4

set_option maxRecDepth 1000000 in
set_option maxHeartbeats 12800000 in
theorem spreads11_bad (w : World) (W H : Int) (a : Option Addr) (n c : Nat) (xs : List Nat) (n0 n1 n2 n3 : Int) (r q1 q2 q3 s1 s2 s3 W3 H3 : Int) (l1 l2 l3 : List Int) (hC : SpreadsC W H a n c xs n0 n1 n2 n3 r q1 q2 q3 s1 s2 s3 W3 H3 l1 l2 l3) (h : q1 ≠ 0) (hT : Spr13 w W H a n c xs n0 n1 n2 n3 r q1 q2 q3 s1 s2 s3 W3 H3 l1 l2 l3) : Spr11 w W H a n c xs n0 n1 n2 n3 r q1 q2 q3 s1 s2 s3 W3 H3 l1 l2 l3 := by
  unfold Spr11
  intro wx w8 Bm Bn B5 B7 B9 u18 u19 u20 u21 u22 u23 u24 u25 u26 u27 u28 u29 u30 u31 u32 u33 u34 u35 u36 u37 u38 u39 u40 u41 u42 u43 u44 u45 u46 u47 u48 u49 u50 u51 u52 u53 u54 u55 u56 u57 u58 u59 u60 u61 u62 u63 u64 u65 u66 u67 u68 u69 u70 u71 u72 u73 u74 u75 u76 u77 u78 u79 u80 u81 u82 u83 u84 u85 u86 u87 u88 u89 u90 u91 u92 u93 u94 u95 u96 u97 u98 u99 u100 u101 u102 u103 u104 u105 u106 u107 u108 u109 u110 u111 u112 u113 u114 u115 u116 u117 u118 u119 u120 u121 hM f5 f7 f9 hb8 z15 z16 z17
  conv => arg 2; whnf
  dsimp only
  have e0 : (q1 == 0) = false := by simp [h]
  go_upto_region 11 with fail
  go_cut [72] (fun s72 wr => s72 = .bool false ∧ wx = wr)
  case first =>
    clear hT hC
    go_wp2_with fail
    go_meet
    exact ⟨rfl, rfl⟩
  case rest =>
    rename_i K1 hK1 K0 hK
    obtain ⟨rfl, rfl⟩ := hcut
    refine hK _ _ ?_
    clear hK e0
    have HK1 := Lib.hid hK1
    clear hK1
    go_wp2_with fail
    refine HK1.out _ _ ?_
    have h3 := hC.t1 h
    subst h3
    unfold Spr13 at hT
    exact hT _ w8 _ _ _ _ _ _ _ _ _ _ _ _ _ _ _ _ _ _ _ _ _ _ _ _ _ _ _ _ _ _ _ _ _ _ _ _ _ _ _ _ _ _ _ _ _ _ _ _ _ _ _ _ _ _ _ _ _ _ _ _ _ _ _ _ _ _ _ _ _ _ _ _ _ _ _ _ _ _ _ _ _ _ _ _ _ _ _ _ _ _ _ _ _ _ _ _ _ _ _ _ _ _ _ _ _ _ _ _ _  hM f5 f7 f9 hb8 (.zero z15 h) z16 z17

set_option maxRecDepth 1000000 in
set_option maxHeartbeats 12800000 in
theorem spreads13_bad (w : World) (W H : Int) (a : Option Addr) (n c : Nat) (xs : List Nat) (n0 n1 n2 n3 : Int) (r q1 q2 q3 s1 s2 s3 W3 H3 : Int) (l1 l2 l3 : List Int) (hC : SpreadsC W H a n c xs n0 n1 n2 n3 r q1 q2 q3 s1 s2 s3 W3 H3 l1 l2 l3) (h : q2 ≠ 0) (hT : Spr15 w W H a n c xs n0 n1 n2 n3 r q1 q2 q3 s1 s2 s3 W3 H3 l1 l2 l3) : Spr13 w W H a n c xs n0 n1 n2 n3 r q1 q2 q3 s1 s2 s3 W3 H3 l1 l2 l3 := by
  unfold Spr13
  intro wx w8 Bm Bn B5 B7 B9 u18 u19 u20 u21 u22 u23 u24 u25 u26 u27 u28 u29 u30 u31 u32 u33 u34 u35 u36 u37 u38 u39 u40 u41 u42 u43 u44 u45 u46 u47 u48 u49 u50 u51 u52 u53 u54 u55 u56 u57 u58 u59 u60 u61 u62 u63 u64 u65 u66 u67 u68 u69 u70 u71 u72 u73 u74 u75 u76 u77 u78 u79 u80 u81 u82 u83 u84 u85 u86 u87 u88 u89 u90 u91 u92 u93 u94 u95 u96 u97 u98 u99 u100 u101 u102 u103 u104 u105 u106 u107 u108 u109 u110 u111 u112 u113 u114 u115 u116 u117 u118 u119 u120 u121 hM f5 f7 f9 hb8 wA z16 z17
  conv => arg 2; whnf
  dsimp only
  have e0 : (q2 == 0) = false := by simp [h]
  go_upto_region 13 with fail
  go_cut [83] (fun s83 wr => s83 = .bool false ∧ wx = wr)
  case first =>
    clear hT hC
    go_wp2_with fail
    go_meet
    exact ⟨rfl, rfl⟩
  case rest =>
    rename_i K1 hK1 K0 hK
    obtain ⟨rfl, rfl⟩ := hcut
    refine hK _ _ ?_
    clear hK e0
    have HK1 := Lib.hid hK1
    clear hK1
    go_wp2_with fail
    refine HK1.out _ _ ?_
    have h3 := hC.t2 h
    subst h3
    unfold Spr15 at hT
    exact hT _ w8 _ _ _ _ _ _ _ _ _ _ _ _ _ _ _ _ _ _ _ _ _ _ _ _ _ _ _ _ _ _ _ _ _ _ _ _ _ _ _ _ _ _ _ _ _ _ _ _ _ _ _ _ _ _ _ _ _ _ _ _ _ _ _ _ _ _ _ _ _ _ _ _ _ _ _ _ _ _ _ _ _ _ _ _ _ _ _ _ _ _ _ _ _ _ _ _ _ _ _ _ _ _ _ _ _ _ _ _ _  hM f5 f7 f9 hb8 wA (.zero z16 h) z17

set_option maxRecDepth 1000000 in
set_option maxHeartbeats 12800000 in
theorem spreads15_bad (w : World) (W H : Int) (a : Option Addr) (n c : Nat) (xs : List Nat) (n0 n1 n2 n3 : Int) (r q1 q2 q3 s1 s2 s3 W3 H3 : Int) (l1 l2 l3 : List Int) (hC : SpreadsC W H a n c xs n0 n1 n2 n3 r q1 q2 q3 s1 s2 s3 W3 H3 l1 l2 l3) (h : q3 ≠ 0) (hT : Spr17 w W H a n c xs n0 n1 n2 n3 r q1 q2 q3 s1 s2 s3 W3 H3 l1 l2 l3) : Spr15 w W H a n c xs n0 n1 n2 n3 r q1 q2 q3 s1 s2 s3 W3 H3 l1 l2 l3 := by
  unfold Spr15
  intro wx w8 Bm Bn B5 B7 B9 u18 u19 u20 u21 u22 u23 u24 u25 u26 u27 u28 u29 u30 u31 u32 u33 u34 u35 u36 u37 u38 u39 u40 u41 u42 u43 u44 u45 u46 u47 u48 u49 u50 u51 u52 u53 u54 u55 u56 u57 u58 u59 u60 u61 u62 u63 u64 u65 u66 u67 u68 u69 u70 u71 u72 u73 u74 u75 u76 u77 u78 u79 u80 u81 u82 u83 u84 u85 u86 u87 u88 u89 u90 u91 u92 u93 u94 u95 u96 u97 u98 u99 u100 u101 u102 u103 u104 u105 u106 u107 u108 u109 u110 u111 u112 u113 u114 u115 u116 u117 u118 u119 u120 u121 hM f5 f7 f9 hb8 wA wB z17
  conv => arg 2; whnf
  dsimp only
  have e0 : (q3 == 0) = false := by simp [h]
  go_upto_region 15 with fail
  go_cut [92] (fun s92 wr => s92 = .bool false ∧ wx = wr)
  case first =>
    clear hT hC
    go_wp2_with fail
    go_meet
    exact ⟨rfl, rfl⟩
  case rest =>
    rename_i K1 hK1 K0 hK
    obtain ⟨rfl, rfl⟩ := hcut
    refine hK _ _ ?_
    clear hK e0
    have HK1 := Lib.hid hK1
    clear hK1
    go_wp2_with fail
    refine HK1.out _ _ ?_
    have h3 := hC.t3 h
    subst h3
    unfold Spr17 at hT
    exact hT _ w8 _ _ _ _ _ _ _ _ _ _ _ _ _ _ _ _ _ _ _ _ _ _ _ _ _ _ _ _ _ _ _ _ _ _ _ _ _ _ _ _ _ _ _ _ _ _ _ _ _ _ _ _ _ _ _ _ _ _ _ _ _ _ _ _ _ _ _ _ _ _ _ _ _ _ _ _ _ _ _ _ _ _ _ _ _ _ _ _ _ _ _ _ _ _ _ _ _ _ _ _ _ _ _ _ _ _ _ _ _  hM f5 f7 f9 hb8 wA wB (.zero z17 h)

end Go.Proofs.YtfdkmmllemkogaaGreatDoor
