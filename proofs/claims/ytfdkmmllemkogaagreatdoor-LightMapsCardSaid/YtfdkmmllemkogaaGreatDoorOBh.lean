/-
  The walk of LightMaps, region by region.
-/
import Derived.Test.YtfdkmmllemkogaaGreatDoorOBe
import Derived.Test.YtfdkmmllemkogaaGreatDoorOBd
namespace Go.Proofs.YtfdkmmllemkogaaGreatDoor
open Go.RowKit Go.Shelf
set_option linter.unusedVariables false
set_option linter.unusedSimpArgs false

noncomputable def mapsOf (n : Nat) : Code := ((Tryz.f4.body.bind (tailAt1 n)).getD .skip)

/-- The two arguments' variables, and what the walk keeps. -/
structure MK (w : World) (W H : Int) (a : Option Addr) (n c : Nat) (xs : List Nat) (X Y : Int) (wx : World) (Bm Bp : Nat) : Prop where
  below : Below w.heap.size w wx
  bm : wx.heap[Bm]? = some (.cells #[.int .i64 W, .int .i64 H, .slice a n c] 48 (0, 0))
  bp : wx.heap[Bp]? = some (.cells #[.int .i64 X, .int .i64 Y] 50 (0, 0))
  map : AnyMap wx a n c xs
theorem MK.kept {w : World} {W H : Int} {a : Option Addr} {n c : Nat} {xs : List Nat} {X Y : Int} {wx w' : World} {Bm Bp : Nat} (h : MK w W H a n c xs X Y wx Bm Bp) (hb : Below wx.heap.size wx w') : MK w W H a n c xs X Y w' Bm Bp :=
  ⟨h.below.trans (hb.mono h.below.size), (hb.block _ (lt_of_blk h.bm)).trans h.bm, (hb.block _ (lt_of_blk h.bp)).trans h.bp, h.map.below hb (Nat.le_refl _)⟩
def PtBox (w : World) (B : Nat) (X Y : Int) : Prop := w.heap[B]? = some (.cells #[.int .i64 X, .int .i64 Y] 50 (0, 0))
theorem PtBox.kept {w w' : World} {B : Nat} {X Y : Int} (h : PtBox w B X Y) (hb : Below w.heap.size w w') : PtBox w' B X Y := (hb.block _ (lt_of_blk h)).trans h
theorem PtBox.new (w : World) (X Y : Int) : PtBox (w.alloc (.cells #[.int .i64 X, .int .i64 Y] 50)) w.heap.size X Y := blk_alloc_new _ _
theorem pt_cells {w : World} {B : Nat} {X Y : Int} (h : w.heap[B]? = some (.cells #[.int .i64 X, .int .i64 Y] 50 (0, 0))) :
    w.cell? ⟨B, 0, none⟩ = some (.int .i64 X) ∧ w.cell? ⟨B, 1, none⟩ = some (.int .i64 Y) :=
  ⟨by rw [cell_of_row w _ 0 _ _ (0, 0) h]; rfl, by rw [cell_of_row w _ 1 _ _ (0, 0) h]; rfl⟩

/-- What the calls answer. -/
structure MapsC (W H : Int) (a : Option Addr) (n c : Nat) (xs : List Nat) (X Y : Int) (v : Nat) (r2 t r : Int) (pv : Nat) (px py : Int) : Prop where
  own : ∀ wx, AnyMap wx a n c xs → Calls Tryz.prog 38 #[.agg #[.int .i64 W, .int .i64 H, .slice a n c]] wx fun e w' =>
    ∃ g c', e = .returned (.agg #[.int .i64 W, .int .i64 H, .slice (some ⟨g, 0, none⟩) n c']) ∧ AnyMap w' (some ⟨g, 0, none⟩) n c' xs ∧ Below wx.heap.size wx w'
  at' : ∀ wx g c', AnyMap wx (some ⟨g, 0, none⟩) n c' xs → Calls Tryz.prog 37 #[.agg #[.int .i64 W, .int .i64 H, .slice (some ⟨g, 0, none⟩) n c'], .agg #[.int .i64 X, .int .i64 Y]] wx fun e w' => e = .returned (.tuple #[.float .f32 v, .int .i64 r2]) ∧ Below wx.heap.size wx w'
  tot : ∀ wx g c', AnyMap wx (some ⟨g, 0, none⟩) n c' xs → Calls Tryz.prog 39 #[.agg #[.int .i64 W, .int .i64 H, .slice (some ⟨g, 0, none⟩) n c']] wx fun e w' => e = .returned (.tuple #[.int .i64 t, .int .i64 r]) ∧ Below wx.heap.size wx w'
  peak : ∀ wx g c', AnyMap wx (some ⟨g, 0, none⟩) n c' xs → Calls Tryz.prog 40 #[.agg #[.int .i64 W, .int .i64 H, .slice (some ⟨g, 0, none⟩) n c']] wx fun e w' => e = .returned (.tuple #[.float .f32 pv, .agg #[.int .i64 px, .int .i64 py], .int .i64 r]) ∧ Below wx.heap.size wx w'
  chk : ∀ wx g c', AnyMap wx (some ⟨g, 0, none⟩) n c' xs → Calls Tryz.prog 47 #[.agg #[.int .i64 W, .int .i64 H, .slice (some ⟨g, 0, none⟩) n c']] wx fun e w' => e = .returned (.int .i64 r) ∧ Below wx.heap.size wx w'
  rchk : ∀ wx, AnyMap wx a n c xs → Calls Tryz.prog 41 #[.agg #[.int .i64 W, .int .i64 H, .slice a n c]] wx fun e w' => e = .returned (.int .i64 r) ∧ Below wx.heap.size wx w'

set_option maxRecDepth 1000000 in
/-- What is still to be shown where the walk stands ahead of region 3. -/
def Mps3 (w : World) (W H : Int) (a : Option Addr) (n c : Nat) (xs : List Nat) (X Y : Int) (v : Nat) (r2 t r : Int) (pv : Nat) (px py : Int) : Prop :=
  ∀ (wx : World) (Bm : Nat) (Bp : Nat) (u5 u6 u7 u8 u9 u10 u11 u12 u13 u14 u15 u16 u17 u18 u19 u20 u21 u22 u23 u24 u25 u26 u27 u28 u29 u30 u31 u32 u33 u34 u35 u36 u37 u38 u39 u40 u41 u42 u43 u44 u45 u46 u47 u48 u49 u50 u51 u52 u53 u54 u55 u56 u57 u58 u59 u60 u61 u62 u63 u64 u65 u66 u67 u68 u69 u70 u71 u72 u73 u74 u75 u76 u77 u78 u79 u80 u81 u82 u83 u84 u85 u86 u87 u88 u89 u90 u91 u92 u93 u94 u95 u96 u97 u98 u99 u100 u101 u102 u103 u104 u105 u106 u107 u108 u109 u110 u111 u112 u113 u114 u115 u116 u117 u118 u119 u120 u121 u122 u123 u124 u125 u126 u127 u128 u129 u130 : Value), MK w W H a n c xs X Y wx Bm Bp → Code.wp Tryz.prog (mapsOf 3) (bodyPost Tryz.prog Tryz.f4 (TruePost w)) ⟨#[.agg #[.int .i64 W, .int .i64 H, .slice a n c], .agg #[.int .i64 X, .int .i64 Y], .pointer (some ⟨Bm, 0, none⟩), .pointer (some ⟨Bp, 0, none⟩), .bool false, u5, u6, u7, u8, u9, u10, u11, u12, u13, u14, u15, u16, u17, u18, u19, u20, u21, u22, u23, u24, u25, u26, u27, u28, u29, u30, u31, u32, u33, u34, u35, u36, u37, u38, u39, u40, u41, u42, u43, u44, u45, u46, u47, u48, u49, u50, u51, u52, u53, u54, u55, u56, u57, u58, u59, u60, u61, u62, u63, u64, u65, u66, u67, u68, u69, u70, u71, u72, u73, u74, u75, u76, u77, u78, u79, u80, u81, u82, u83, u84, u85, u86, u87, u88, u89, u90, u91, u92, u93, u94, u95, u96, u97, u98, u99, u100, u101, u102, u103, u104, u105, u106, u107, u108, u109, u110, u111, u112, u113, u114, u115, u116, u117, u118, u119, u120, u121, u122, u123, u124, u125, u126, u127, u128, u129, u130], []⟩ wx

set_option maxRecDepth 1000000 in
/-- What is still to be shown where the walk stands ahead of region 4. -/
def Mps4 (w : World) (W H : Int) (a : Option Addr) (n c : Nat) (xs : List Nat) (X Y : Int) (v : Nat) (r2 t r : Int) (pv : Nat) (px py : Int) : Prop :=
  ∀ (wx : World) (Bm : Nat) (Bp : Nat) (u7 u8 u9 u10 u11 u12 u13 u14 u15 u16 u17 u18 u19 u20 u21 u22 u23 u24 u25 u26 u27 u28 u29 u30 u31 u32 u33 u34 u35 u36 u37 u38 u39 u40 u41 u42 u43 u44 u45 u46 u47 u48 u49 u50 u51 u52 u53 u54 u55 u56 u57 u58 u59 u60 u61 u62 u63 u64 u65 u66 u67 u68 u69 u70 u71 u72 u73 u74 u75 u76 u77 u78 u79 u80 u81 u82 u83 u84 u85 u86 u87 u88 u89 u90 u91 u92 u93 u94 u95 u96 u97 u98 u99 u100 u101 u102 u103 u104 u105 u106 u107 u108 u109 u110 u111 u112 u113 u114 u115 u116 u117 u118 u119 u120 u121 u122 u123 u124 u125 u126 u127 u128 u129 u130 : Value), MK w W H a n c xs X Y wx Bm Bp → Code.wp Tryz.prog (mapsOf 4) (bodyPost Tryz.prog Tryz.f4 (TruePost w)) ⟨#[.agg #[.int .i64 W, .int .i64 H, .slice a n c], .agg #[.int .i64 X, .int .i64 Y], .pointer (some ⟨Bm, 0, none⟩), .pointer (some ⟨Bp, 0, none⟩), .bool false, .float .f32 v, .int .i64 r2, u7, u8, u9, u10, u11, u12, u13, u14, u15, u16, u17, u18, u19, u20, u21, u22, u23, u24, u25, u26, u27, u28, u29, u30, u31, u32, u33, u34, u35, u36, u37, u38, u39, u40, u41, u42, u43, u44, u45, u46, u47, u48, u49, u50, u51, u52, u53, u54, u55, u56, u57, u58, u59, u60, u61, u62, u63, u64, u65, u66, u67, u68, u69, u70, u71, u72, u73, u74, u75, u76, u77, u78, u79, u80, u81, u82, u83, u84, u85, u86, u87, u88, u89, u90, u91, u92, u93, u94, u95, u96, u97, u98, u99, u100, u101, u102, u103, u104, u105, u106, u107, u108, u109, u110, u111, u112, u113, u114, u115, u116, u117, u118, u119, u120, u121, u122, u123, u124, u125, u126, u127, u128, u129, u130], []⟩ wx

set_option maxRecDepth 1000000 in
/-- What is still to be shown where the walk stands ahead of region 5. -/
def Mps5 (w : World) (W H : Int) (a : Option Addr) (n c : Nat) (xs : List Nat) (X Y : Int) (v : Nat) (r2 t r : Int) (pv : Nat) (px py : Int) : Prop :=
  ∀ (wx : World) (Bm : Nat) (Bp : Nat) (u9 u10 u11 u12 u13 u14 u15 u16 u17 u18 u19 u20 u21 u22 u23 u24 u25 u26 u27 u28 u29 u30 u31 u32 u33 u34 u35 u36 u37 u38 u39 u40 u41 u42 u43 u44 u45 u46 u47 u48 u49 u50 u51 u52 u53 u54 u55 u56 u57 u58 u59 u60 u61 u62 u63 u64 u65 u66 u67 u68 u69 u70 u71 u72 u73 u74 u75 u76 u77 u78 u79 u80 u81 u82 u83 u84 u85 u86 u87 u88 u89 u90 u91 u92 u93 u94 u95 u96 u97 u98 u99 u100 u101 u102 u103 u104 u105 u106 u107 u108 u109 u110 u111 u112 u113 u114 u115 u116 u117 u118 u119 u120 u121 u122 u123 u124 u125 u126 u127 u128 u129 u130 : Value), MK w W H a n c xs X Y wx Bm Bp → Code.wp Tryz.prog (mapsOf 5) (bodyPost Tryz.prog Tryz.f4 (TruePost w)) ⟨#[.agg #[.int .i64 W, .int .i64 H, .slice a n c], .agg #[.int .i64 X, .int .i64 Y], .pointer (some ⟨Bm, 0, none⟩), .pointer (some ⟨Bp, 0, none⟩), .bool false, .float .f32 v, .int .i64 r2, .int .i64 t, .int .i64 r, u9, u10, u11, u12, u13, u14, u15, u16, u17, u18, u19, u20, u21, u22, u23, u24, u25, u26, u27, u28, u29, u30, u31, u32, u33, u34, u35, u36, u37, u38, u39, u40, u41, u42, u43, u44, u45, u46, u47, u48, u49, u50, u51, u52, u53, u54, u55, u56, u57, u58, u59, u60, u61, u62, u63, u64, u65, u66, u67, u68, u69, u70, u71, u72, u73, u74, u75, u76, u77, u78, u79, u80, u81, u82, u83, u84, u85, u86, u87, u88, u89, u90, u91, u92, u93, u94, u95, u96, u97, u98, u99, u100, u101, u102, u103, u104, u105, u106, u107, u108, u109, u110, u111, u112, u113, u114, u115, u116, u117, u118, u119, u120, u121, u122, u123, u124, u125, u126, u127, u128, u129, u130], []⟩ wx

set_option maxRecDepth 1000000 in
/-- What is still to be shown where the walk stands ahead of region 6. -/
def Mps6 (w : World) (W H : Int) (a : Option Addr) (n c : Nat) (xs : List Nat) (X Y : Int) (v : Nat) (r2 t r : Int) (pv : Nat) (px py : Int) : Prop :=
  ∀ (wx : World) (Bm : Nat) (Bp : Nat) (B10 : Nat) (u12 u13 u14 u15 u16 u17 u18 u19 u20 u21 u22 u23 u24 u25 u26 u27 u28 u29 u30 u31 u32 u33 u34 u35 u36 u37 u38 u39 u40 u41 u42 u43 u44 u45 u46 u47 u48 u49 u50 u51 u52 u53 u54 u55 u56 u57 u58 u59 u60 u61 u62 u63 u64 u65 u66 u67 u68 u69 u70 u71 u72 u73 u74 u75 u76 u77 u78 u79 u80 u81 u82 u83 u84 u85 u86 u87 u88 u89 u90 u91 u92 u93 u94 u95 u96 u97 u98 u99 u100 u101 u102 u103 u104 u105 u106 u107 u108 u109 u110 u111 u112 u113 u114 u115 u116 u117 u118 u119 u120 u121 u122 u123 u124 u125 u126 u127 u128 u129 u130 : Value), MK w W H a n c xs X Y wx Bm Bp → PtBox wx B10 px py → Code.wp Tryz.prog (mapsOf 6) (bodyPost Tryz.prog Tryz.f4 (TruePost w)) ⟨#[.agg #[.int .i64 W, .int .i64 H, .slice a n c], .agg #[.int .i64 X, .int .i64 Y], .pointer (some ⟨Bm, 0, none⟩), .pointer (some ⟨Bp, 0, none⟩), .bool false, .float .f32 v, .int .i64 r2, .int .i64 t, .int .i64 r, .float .f32 pv, .pointer (some ⟨B10, 0, none⟩), .int .i64 r, u12, u13, u14, u15, u16, u17, u18, u19, u20, u21, u22, u23, u24, u25, u26, u27, u28, u29, u30, u31, u32, u33, u34, u35, u36, u37, u38, u39, u40, u41, u42, u43, u44, u45, u46, u47, u48, u49, u50, u51, u52, u53, u54, u55, u56, u57, u58, u59, u60, u61, u62, u63, u64, u65, u66, u67, u68, u69, u70, u71, u72, u73, u74, u75, u76, u77, u78, u79, u80, u81, u82, u83, u84, u85, u86, u87, u88, u89, u90, u91, u92, u93, u94, u95, u96, u97, u98, u99, u100, u101, u102, u103, u104, u105, u106, u107, u108, u109, u110, u111, u112, u113, u114, u115, u116, u117, u118, u119, u120, u121, u122, u123, u124, u125, u126, u127, u128, u129, u130], []⟩ wx

set_option maxRecDepth 1000000 in
/-- What is still to be shown where the walk stands ahead of region 7. -/
def Mps7 (w : World) (W H : Int) (a : Option Addr) (n c : Nat) (xs : List Nat) (X Y : Int) (v : Nat) (r2 t r : Int) (pv : Nat) (px py : Int) : Prop :=
  ∀ (wx : World) (Bm : Nat) (Bp : Nat) (B10 : Nat) (u13 u14 u15 u16 u17 u18 u19 u20 u21 u22 u23 u24 u25 u26 u27 u28 u29 u30 u31 u32 u33 u34 u35 u36 u37 u38 u39 u40 u41 u42 u43 u44 u45 u46 u47 u48 u49 u50 u51 u52 u53 u54 u55 u56 u57 u58 u59 u60 u61 u62 u63 u64 u65 u66 u67 u68 u69 u70 u71 u72 u73 u74 u75 u76 u77 u78 u79 u80 u81 u82 u83 u84 u85 u86 u87 u88 u89 u90 u91 u92 u93 u94 u95 u96 u97 u98 u99 u100 u101 u102 u103 u104 u105 u106 u107 u108 u109 u110 u111 u112 u113 u114 u115 u116 u117 u118 u119 u120 u121 u122 u123 u124 u125 u126 u127 u128 u129 u130 : Value), MK w W H a n c xs X Y wx Bm Bp → PtBox wx B10 px py → Code.wp Tryz.prog (mapsOf 7) (bodyPost Tryz.prog Tryz.f4 (TruePost w)) ⟨#[.agg #[.int .i64 W, .int .i64 H, .slice a n c], .agg #[.int .i64 X, .int .i64 Y], .pointer (some ⟨Bm, 0, none⟩), .pointer (some ⟨Bp, 0, none⟩), .bool false, .float .f32 v, .int .i64 r2, .int .i64 t, .int .i64 r, .float .f32 pv, .pointer (some ⟨B10, 0, none⟩), .int .i64 r, .int .i64 r, u13, u14, u15, u16, u17, u18, u19, u20, u21, u22, u23, u24, u25, u26, u27, u28, u29, u30, u31, u32, u33, u34, u35, u36, u37, u38, u39, u40, u41, u42, u43, u44, u45, u46, u47, u48, u49, u50, u51, u52, u53, u54, u55, u56, u57, u58, u59, u60, u61, u62, u63, u64, u65, u66, u67, u68, u69, u70, u71, u72, u73, u74, u75, u76, u77, u78, u79, u80, u81, u82, u83, u84, u85, u86, u87, u88, u89, u90, u91, u92, u93, u94, u95, u96, u97, u98, u99, u100, u101, u102, u103, u104, u105, u106, u107, u108, u109, u110, u111, u112, u113, u114, u115, u116, u117, u118, u119, u120, u121, u122, u123, u124, u125, u126, u127, u128, u129, u130], []⟩ wx

set_option maxRecDepth 1000000 in
/-- What is still to be shown where the walk stands ahead of region 8. -/
def Mps8 (w : World) (W H : Int) (a : Option Addr) (n c : Nat) (xs : List Nat) (X Y : Int) (v : Nat) (r2 t r : Int) (pv : Nat) (px py : Int) : Prop :=
  ∀ (wx : World) (Bm : Nat) (Bp : Nat) (B10 : Nat) (u14 u15 u16 u17 u18 u19 u20 u21 u22 u23 u24 u25 u26 u27 u28 u29 u30 u31 u32 u33 u34 u35 u36 u37 u38 u39 u40 u41 u42 u43 u44 u45 u46 u47 u48 u49 u50 u51 u52 u53 u54 u55 u56 u57 u58 u59 u60 u61 u62 u63 u64 u65 u66 u67 u68 u69 u70 u71 u72 u73 u74 u75 u76 u77 u78 u79 u80 u81 u82 u83 u84 u85 u86 u87 u88 u89 u90 u91 u92 u93 u94 u95 u96 u97 u98 u99 u100 u101 u102 u103 u104 u105 u106 u107 u108 u109 u110 u111 u112 u113 u114 u115 u116 u117 u118 u119 u120 u121 u122 u123 u124 u125 u126 u127 u128 u129 u130 : Value), MK w W H a n c xs X Y wx Bm Bp → PtBox wx B10 px py → Code.wp Tryz.prog (mapsOf 8) (bodyPost Tryz.prog Tryz.f4 (TruePost w)) ⟨#[.agg #[.int .i64 W, .int .i64 H, .slice a n c], .agg #[.int .i64 X, .int .i64 Y], .pointer (some ⟨Bm, 0, none⟩), .pointer (some ⟨Bp, 0, none⟩), .bool false, .float .f32 v, .int .i64 r2, .int .i64 t, .int .i64 r, .float .f32 pv, .pointer (some ⟨B10, 0, none⟩), .int .i64 r, .int .i64 r, .int .i64 r, u14, u15, u16, u17, u18, u19, u20, u21, u22, u23, u24, u25, u26, u27, u28, u29, u30, u31, u32, u33, u34, u35, u36, u37, u38, u39, u40, u41, u42, u43, u44, u45, u46, u47, u48, u49, u50, u51, u52, u53, u54, u55, u56, u57, u58, u59, u60, u61, u62, u63, u64, u65, u66, u67, u68, u69, u70, u71, u72, u73, u74, u75, u76, u77, u78, u79, u80, u81, u82, u83, u84, u85, u86, u87, u88, u89, u90, u91, u92, u93, u94, u95, u96, u97, u98, u99, u100, u101, u102, u103, u104, u105, u106, u107, u108, u109, u110, u111, u112, u113, u114, u115, u116, u117, u118, u119, u120, u121, u122, u123, u124, u125, u126, u127, u128, u129, u130], []⟩ wx

set_option maxRecDepth 1000000 in
/-- What is still to be shown where the walk stands ahead of region 9. -/
def Mps9 (w : World) (W H : Int) (a : Option Addr) (n c : Nat) (xs : List Nat) (X Y : Int) (v : Nat) (r2 t r : Int) (pv : Nat) (px py : Int) : Prop :=
  ∀ (wx : World) (Bm : Nat) (Bp : Nat) (B10 : Nat) (u16 u17 u18 u19 u20 u21 u22 u23 u24 u25 u26 u27 u28 u29 u30 u31 u32 u33 u34 u35 u36 u37 u38 u39 u40 u41 u42 u43 u44 u45 u46 u47 u48 u49 u50 u51 u52 u53 u54 u55 u56 u57 u58 u59 u60 u61 u62 u63 u64 u65 u66 u67 u68 u69 u70 u71 u72 u73 u74 u75 u76 u77 u78 u79 u80 u81 u82 u83 u84 u85 u86 u87 u88 u89 u90 u91 u92 u93 u94 u95 u96 u97 u98 u99 u100 u101 u102 u103 u104 u105 u106 u107 u108 u109 u110 u111 u112 u113 u114 u115 u116 u117 u118 u119 u120 u121 u122 u123 u124 u125 u126 u127 u128 u129 u130 : Value), MK w W H a n c xs X Y wx Bm Bp → PtBox wx B10 px py → Code.wp Tryz.prog (mapsOf 9) (bodyPost Tryz.prog Tryz.f4 (TruePost w)) ⟨#[.agg #[.int .i64 W, .int .i64 H, .slice a n c], .agg #[.int .i64 X, .int .i64 Y], .pointer (some ⟨Bm, 0, none⟩), .pointer (some ⟨Bp, 0, none⟩), .bool false, .float .f32 v, .int .i64 r2, .int .i64 t, .int .i64 r, .float .f32 pv, .pointer (some ⟨B10, 0, none⟩), .int .i64 r, .int .i64 r, .int .i64 r, .float .f32 0, .float .f32 0, u16, u17, u18, u19, u20, u21, u22, u23, u24, u25, u26, u27, u28, u29, u30, u31, u32, u33, u34, u35, u36, u37, u38, u39, u40, u41, u42, u43, u44, u45, u46, u47, u48, u49, u50, u51, u52, u53, u54, u55, u56, u57, u58, u59, u60, u61, u62, u63, u64, u65, u66, u67, u68, u69, u70, u71, u72, u73, u74, u75, u76, u77, u78, u79, u80, u81, u82, u83, u84, u85, u86, u87, u88, u89, u90, u91, u92, u93, u94, u95, u96, u97, u98, u99, u100, u101, u102, u103, u104, u105, u106, u107, u108, u109, u110, u111, u112, u113, u114, u115, u116, u117, u118, u119, u120, u121, u122, u123, u124, u125, u126, u127, u128, u129, u130], []⟩ wx

set_option maxRecDepth 1000000 in
/-- What is still to be shown where the walk stands ahead of region 10. -/
def Mps10 (w : World) (W H : Int) (a : Option Addr) (n c : Nat) (xs : List Nat) (X Y : Int) (v : Nat) (r2 t r : Int) (pv : Nat) (px py : Int) : Prop :=
  ∀ (wx : World) (Bm : Nat) (Bp : Nat) (B10 : Nat) (B17 : Nat) (u18 u19 u20 u21 u22 u23 u24 u25 u26 u27 u28 u29 u30 u31 u32 u33 u34 u35 u36 u37 u38 u39 u40 u41 u42 u43 u44 u45 u46 u47 u48 u49 u50 u51 u52 u53 u54 u55 u56 u57 u58 u59 u60 u61 u62 u63 u64 u65 u66 u67 u68 u69 u70 u71 u72 u73 u74 u75 u76 u77 u78 u79 u80 u81 u82 u83 u84 u85 u86 u87 u88 u89 u90 u91 u92 u93 u94 u95 u96 u97 u98 u99 u100 u101 u102 u103 u104 u105 u106 u107 u108 u109 u110 u111 u112 u113 u114 u115 u116 u117 u118 u119 u120 u121 u122 u123 u124 u125 u126 u127 u128 u129 u130 : Value), MK w W H a n c xs X Y wx Bm Bp → PtBox wx B10 px py → PtBox wx B17 0 0 → (w.heap.size ≤ B17 ∧ Bm ≠ B17 ∧ Bp ≠ B17 ∧ B10 ≠ B17) → Code.wp Tryz.prog (mapsOf 10) (bodyPost Tryz.prog Tryz.f4 (TruePost w)) ⟨#[.agg #[.int .i64 W, .int .i64 H, .slice a n c], .agg #[.int .i64 X, .int .i64 Y], .pointer (some ⟨Bm, 0, none⟩), .pointer (some ⟨Bp, 0, none⟩), .bool false, .float .f32 v, .int .i64 r2, .int .i64 t, .int .i64 r, .float .f32 pv, .pointer (some ⟨B10, 0, none⟩), .int .i64 r, .int .i64 r, .int .i64 r, .float .f32 0, .float .f32 0, .int .i64 0, .pointer (some ⟨B17, 0, none⟩), u18, u19, u20, u21, u22, u23, u24, u25, u26, u27, u28, u29, u30, u31, u32, u33, u34, u35, u36, u37, u38, u39, u40, u41, u42, u43, u44, u45, u46, u47, u48, u49, u50, u51, u52, u53, u54, u55, u56, u57, u58, u59, u60, u61, u62, u63, u64, u65, u66, u67, u68, u69, u70, u71, u72, u73, u74, u75, u76, u77, u78, u79, u80, u81, u82, u83, u84, u85, u86, u87, u88, u89, u90, u91, u92, u93, u94, u95, u96, u97, u98, u99, u100, u101, u102, u103, u104, u105, u106, u107, u108, u109, u110, u111, u112, u113, u114, u115, u116, u117, u118, u119, u120, u121, u122, u123, u124, u125, u126, u127, u128, u129, u130], []⟩ wx

set_option maxRecDepth 1000000 in
/-- What is still to be shown where the walk stands ahead of region 14. -/
def Mps14 (w : World) (W H : Int) (a : Option Addr) (n c : Nat) (xs : List Nat) (X Y : Int) (v : Nat) (r2 t r : Int) (pv : Nat) (px py : Int) : Prop :=
  ∀ (wx : World) (Bm : Nat) (Bp : Nat) (B10 : Nat) (B17 : Nat) (pv' : Nat) (u18 u19 u20 u21 u22 u23 u24 u25 u26 u27 u28 u29 u30 u31 u32 u33 u34 u35 u36 u37 u38 u39 u40 u41 u42 u43 u44 u45 u46 u47 u48 u49 u50 u51 u52 u53 u54 u55 u56 u57 u58 u59 u60 u61 u62 u63 u64 u65 u66 u67 u68 u69 u70 u71 u72 u73 u74 u75 u76 u77 u78 u79 u80 u81 u82 u83 u84 u85 u86 u87 u88 u89 u90 u91 u92 u93 u94 u95 u96 u97 u98 u99 u100 u101 u102 u103 u104 u105 u106 u107 u108 u109 u110 u111 u112 u113 u114 u115 u116 u117 u118 u119 u120 u121 u122 u123 u124 u125 u126 u127 u128 u129 u130 : Value), MK w W H a n c xs X Y wx Bm Bp → PtBox wx B10 px py → PtBox wx B17 px py → (FloatKind.f32.format.order pv pv' == some .eq) = true → Code.wp Tryz.prog (mapsOf 14) (bodyPost Tryz.prog Tryz.f4 (TruePost w)) ⟨#[.agg #[.int .i64 W, .int .i64 H, .slice a n c], .agg #[.int .i64 X, .int .i64 Y], .pointer (some ⟨Bm, 0, none⟩), .pointer (some ⟨Bp, 0, none⟩), .bool false, .float .f32 v, .int .i64 r2, .int .i64 t, .int .i64 r, .float .f32 pv, .pointer (some ⟨B10, 0, none⟩), .int .i64 r, .int .i64 r, .int .i64 r2, .float .f32 0, .float .f32 pv', .int .i64 t, .pointer (some ⟨B17, 0, none⟩), u18, u19, u20, u21, u22, u23, u24, u25, u26, u27, u28, u29, u30, u31, u32, u33, u34, u35, u36, u37, u38, u39, u40, u41, u42, u43, u44, u45, u46, u47, u48, u49, u50, u51, u52, u53, u54, u55, u56, u57, u58, u59, u60, u61, u62, u63, u64, u65, u66, u67, u68, u69, u70, u71, u72, u73, u74, u75, u76, u77, u78, u79, u80, u81, u82, u83, u84, u85, u86, u87, u88, u89, u90, u91, u92, u93, u94, u95, u96, u97, u98, u99, u100, u101, u102, u103, u104, u105, u106, u107, u108, u109, u110, u111, u112, u113, u114, u115, u116, u117, u118, u119, u120, u121, u122, u123, u124, u125, u126, u127, u128, u129, u130], []⟩ wx

set_option maxRecDepth 1000000 in
/-- What is still to be shown where the walk stands ahead of region 16. -/
def Mps16 (w : World) (W H : Int) (a : Option Addr) (n c : Nat) (xs : List Nat) (X Y : Int) (v : Nat) (r2 t r : Int) (pv : Nat) (px py : Int) : Prop :=
  ∀ (wx : World) (Bm : Nat) (Bp : Nat) (B10 : Nat) (B17 : Nat) (v' : Nat) (pv' : Nat) (u18 u19 u20 u21 u22 u23 u24 u25 u26 u27 u28 u29 u30 u31 u32 u33 u34 u35 u36 u37 u38 u39 u40 u41 u42 u43 u44 u45 u46 u47 u48 u49 u50 u51 u52 u53 u54 u55 u56 u57 u58 u59 u60 u61 u62 u63 u64 u65 u66 u67 u68 u69 u70 u71 u72 u73 u74 u75 u76 u77 u78 u79 u80 u81 u82 u83 u84 u85 u86 u87 u88 u89 u90 u91 u92 u93 u94 u95 u96 u97 u98 u99 u100 u101 u102 u103 u104 u105 u106 u107 u108 u109 u110 u111 u112 u113 u114 u115 u116 u117 u118 u119 u120 u121 u122 u123 u124 u125 u126 u127 u128 u129 u130 : Value), MK w W H a n c xs X Y wx Bm Bp → PtBox wx B10 px py → PtBox wx B17 px py → (FloatKind.f32.format.order v v' == some .eq) = true → (FloatKind.f32.format.order pv pv' == some .eq) = true → Code.wp Tryz.prog (mapsOf 16) (bodyPost Tryz.prog Tryz.f4 (TruePost w)) ⟨#[.agg #[.int .i64 W, .int .i64 H, .slice a n c], .agg #[.int .i64 X, .int .i64 Y], .pointer (some ⟨Bm, 0, none⟩), .pointer (some ⟨Bp, 0, none⟩), .bool false, .float .f32 v, .int .i64 r2, .int .i64 t, .int .i64 r, .float .f32 pv, .pointer (some ⟨B10, 0, none⟩), .int .i64 r, .int .i64 r, .int .i64 r2, .float .f32 v', .float .f32 pv', .int .i64 t, .pointer (some ⟨B17, 0, none⟩), u18, u19, u20, u21, u22, u23, u24, u25, u26, u27, u28, u29, u30, u31, u32, u33, u34, u35, u36, u37, u38, u39, u40, u41, u42, u43, u44, u45, u46, u47, u48, u49, u50, u51, u52, u53, u54, u55, u56, u57, u58, u59, u60, u61, u62, u63, u64, u65, u66, u67, u68, u69, u70, u71, u72, u73, u74, u75, u76, u77, u78, u79, u80, u81, u82, u83, u84, u85, u86, u87, u88, u89, u90, u91, u92, u93, u94, u95, u96, u97, u98, u99, u100, u101, u102, u103, u104, u105, u106, u107, u108, u109, u110, u111, u112, u113, u114, u115, u116, u117, u118, u119, u120, u121, u122, u123, u124, u125, u126, u127, u128, u129, u130], []⟩ wx

set_option maxRecDepth 1000000 in
set_option maxHeartbeats 12800000 in
theorem maps3 (w : World) (W H : Int) (a : Option Addr) (n c : Nat) (xs : List Nat) (X Y : Int) (v : Nat) (r2 t r : Int) (pv : Nat) (px py : Int) (hC : MapsC W H a n c xs X Y v r2 t r pv px py) (hT : Mps4 w W H a n c xs X Y v r2 t r pv px py) : Mps3 w W H a n c xs X Y v r2 t r pv px py := by
  unfold Mps3
  intro wx Bm Bp u5 u6 u7 u8 u9 u10 u11 u12 u13 u14 u15 u16 u17 u18 u19 u20 u21 u22 u23 u24 u25 u26 u27 u28 u29 u30 u31 u32 u33 u34 u35 u36 u37 u38 u39 u40 u41 u42 u43 u44 u45 u46 u47 u48 u49 u50 u51 u52 u53 u54 u55 u56 u57 u58 u59 u60 u61 u62 u63 u64 u65 u66 u67 u68 u69 u70 u71 u72 u73 u74 u75 u76 u77 u78 u79 u80 u81 u82 u83 u84 u85 u86 u87 u88 u89 u90 u91 u92 u93 u94 u95 u96 u97 u98 u99 u100 u101 u102 u103 u104 u105 u106 u107 u108 u109 u110 u111 u112 u113 u114 u115 u116 u117 u118 u119 u120 u121 u122 u123 u124 u125 u126 u127 u128 u129 u130 hM
  conv => arg 2; whnf
  dsimp only
  go_upto_region 3 with fail
  go_cut [5, 6] (fun s5 s6 wr => s5 = .float .f32 v ∧ s6 = .int .i64 r2 ∧ Below wx.heap.size wx wr)
  case first =>
    have hmap := hM.map
    have hlm := lt_of_blk hM.bm
    have hlp := lt_of_blk hM.bp
    obtain ⟨c0, c1, c2⟩ := map_cells hM.bm
    obtain ⟨p0, p1⟩ := pt_cells hM.bp
    have KO : Hid (∀ w1 : World, Below wx.heap.size wx w1 → Calls Tryz.prog 38 #[.agg #[.int .i64 W, .int .i64 H, .slice a n c]] w1 fun e w' =>
        ∃ g c', e = .returned (.agg #[.int .i64 W, .int .i64 H, .slice (some ⟨g, 0, none⟩) n c']) ∧ AnyMap w' (some ⟨g, 0, none⟩) n c' xs ∧ Below wx.heap.size wx w' ∧ Below w1.heap.size w1 w') := Lib.hid (fun w1 h => (hC.own w1 (hmap.below h (Nat.le_refl _))).mono fun e w' ⟨g, c', he, hm, hb⟩ => ⟨g, c', he, hm, h.trans (hb.mono h.size), hb⟩)
    have KA : Hid (∀ w1 g c', AnyMap w1 (some ⟨g, 0, none⟩) n c' xs → Calls Tryz.prog 37 #[.agg #[.int .i64 W, .int .i64 H, .slice (some ⟨g, 0, none⟩) n c'], .agg #[.int .i64 X, .int .i64 Y]] w1 fun e w' => e = .returned (.tuple #[.float .f32 v, .int .i64 r2]) ∧ Below w1.heap.size w1 w') := Lib.hid hC.at'
    clear hC hT hM hmap
    go_region_held3 (fun w' => w'.cell? ⟨Bm, 0, none⟩ = some (.int .i64 W) ∧ w'.cell? ⟨Bm, 1, none⟩ = some (.int .i64 H) ∧ w'.cell? ⟨Bm, 2, none⟩ = some (.slice a n c) ∧ w'.cell? ⟨Bp, 0, none⟩ = some (.int .i64 X) ∧ w'.cell? ⟨Bp, 1, none⟩ = some (.int .i64 Y))
      (first | go_keep | (go_split_ands; refine ⟨?_, ?_, ?_, ?_, ?_⟩ <;> (first | (rw [hb3.cell (by simp; try omega)]; assumption) | (rw [hb2.cell (by simp; try omega)]; assumption))))
      (first
        | (go_at_call 38; refine (KO.out _ (by first | exact Below.refl _ _ | exact (Below.refl _ _).drew)).mono ?_; rintro e w1 ⟨g, c', rfl, hm1, hb1, hb2⟩; (have hs1 := hb1.size))
        | (go_at_call 37; refine (KA.out _ _ _ hm1).mono ?_; rintro e w2 ⟨rfl, hb3⟩))
    all_goals go_wp2_with fail
    all_goals go_meet
    all_goals exact ⟨rfl, rfl, hb1.trans (hb3.mono hb1.size)⟩
  case rest =>
    rename_i hK
    obtain ⟨rfl, rfl, hb⟩ := hcut
    refine hK _ _ ?_
    clear hK
    unfold Mps4 at hT
    exact hT _ _ _ _ _ _ _ _ _ _ _ _ _ _ _ _ _ _ _ _ _ _ _ _ _ _ _ _ _ _ _ _ _ _ _ _ _ _ _ _ _ _ _ _ _ _ _ _ _ _ _ _ _ _ _ _ _ _ _ _ _ _ _ _ _ _ _ _ _ _ _ _ _ _ _ _ _ _ _ _ _ _ _ _ _ _ _ _ _ _ _ _ _ _ _ _ _ _ _ _ _ _ _ _ _ _ _ _ _ _ _ _ _ _ _ _ _ _ _ _ _ _ _ _ _ _ _  (hM.kept hb)

set_option maxRecDepth 1000000 in
set_option maxHeartbeats 12800000 in
theorem maps4 (w : World) (W H : Int) (a : Option Addr) (n c : Nat) (xs : List Nat) (X Y : Int) (v : Nat) (r2 t r : Int) (pv : Nat) (px py : Int) (hC : MapsC W H a n c xs X Y v r2 t r pv px py) (hT : Mps5 w W H a n c xs X Y v r2 t r pv px py) : Mps4 w W H a n c xs X Y v r2 t r pv px py := by
  unfold Mps4
  intro wx Bm Bp u7 u8 u9 u10 u11 u12 u13 u14 u15 u16 u17 u18 u19 u20 u21 u22 u23 u24 u25 u26 u27 u28 u29 u30 u31 u32 u33 u34 u35 u36 u37 u38 u39 u40 u41 u42 u43 u44 u45 u46 u47 u48 u49 u50 u51 u52 u53 u54 u55 u56 u57 u58 u59 u60 u61 u62 u63 u64 u65 u66 u67 u68 u69 u70 u71 u72 u73 u74 u75 u76 u77 u78 u79 u80 u81 u82 u83 u84 u85 u86 u87 u88 u89 u90 u91 u92 u93 u94 u95 u96 u97 u98 u99 u100 u101 u102 u103 u104 u105 u106 u107 u108 u109 u110 u111 u112 u113 u114 u115 u116 u117 u118 u119 u120 u121 u122 u123 u124 u125 u126 u127 u128 u129 u130 hM
  conv => arg 2; whnf
  dsimp only
  go_upto_region 4 with fail
  go_cut [7, 8] (fun s7 s8 wr => s7 = .int .i64 t ∧ s8 = .int .i64 r ∧ Below wx.heap.size wx wr)
  case first =>
    have hmap := hM.map
    obtain ⟨c0, c1, c2⟩ := map_cells hM.bm
    have KO := Lib.hid (hC.own wx hmap)
    have KA := Lib.hid hC.tot
    clear hC hT hmap
    go_wp2_with (first
      | (go_at_call 38; refine KO.out.mono ?_; rintro e w1 ⟨g, c', rfl, hm1, hb1⟩)
      | (go_at_call 39; refine (KA.out _ _ _ hm1).mono ?_; rintro e w2 ⟨rfl, hb3⟩))
    go_meet
    exact ⟨rfl, rfl, (hb1.trans (hb3.mono hb1.size))⟩
  case rest =>
    rename_i hK
    obtain ⟨rfl, rfl, hb⟩ := hcut
    refine hK _ _ ?_
    clear hK
    unfold Mps5 at hT
    exact hT _ _ _ _ _ _ _ _ _ _ _ _ _ _ _ _ _ _ _ _ _ _ _ _ _ _ _ _ _ _ _ _ _ _ _ _ _ _ _ _ _ _ _ _ _ _ _ _ _ _ _ _ _ _ _ _ _ _ _ _ _ _ _ _ _ _ _ _ _ _ _ _ _ _ _ _ _ _ _ _ _ _ _ _ _ _ _ _ _ _ _ _ _ _ _ _ _ _ _ _ _ _ _ _ _ _ _ _ _ _ _ _ _ _ _ _ _ _ _ _ _ _ _ _ _  (hM.kept hb)

set_option maxRecDepth 1000000 in
set_option maxHeartbeats 12800000 in
theorem maps5 (w : World) (W H : Int) (a : Option Addr) (n c : Nat) (xs : List Nat) (X Y : Int) (v : Nat) (r2 t r : Int) (pv : Nat) (px py : Int) (hC : MapsC W H a n c xs X Y v r2 t r pv px py) (hT : Mps6 w W H a n c xs X Y v r2 t r pv px py) : Mps5 w W H a n c xs X Y v r2 t r pv px py := by
  unfold Mps5
  intro wx Bm Bp u9 u10 u11 u12 u13 u14 u15 u16 u17 u18 u19 u20 u21 u22 u23 u24 u25 u26 u27 u28 u29 u30 u31 u32 u33 u34 u35 u36 u37 u38 u39 u40 u41 u42 u43 u44 u45 u46 u47 u48 u49 u50 u51 u52 u53 u54 u55 u56 u57 u58 u59 u60 u61 u62 u63 u64 u65 u66 u67 u68 u69 u70 u71 u72 u73 u74 u75 u76 u77 u78 u79 u80 u81 u82 u83 u84 u85 u86 u87 u88 u89 u90 u91 u92 u93 u94 u95 u96 u97 u98 u99 u100 u101 u102 u103 u104 u105 u106 u107 u108 u109 u110 u111 u112 u113 u114 u115 u116 u117 u118 u119 u120 u121 u122 u123 u124 u125 u126 u127 u128 u129 u130 hM
  conv => arg 2; whnf
  dsimp only
  go_upto_region 5 with fail
  go_cut [9, 10, 11] (fun s9 s10 s11 wr => s9 = .float .f32 pv ∧ (∃ B, s10 = .pointer (some ⟨B, 0, none⟩) ∧ PtBox wr B px py) ∧ s11 = .int .i64 r ∧ Below wx.heap.size wx wr)
  case first =>
    have hmap := hM.map
    obtain ⟨c0, c1, c2⟩ := map_cells hM.bm
    have KO := Lib.hid (hC.own wx hmap)
    have KA := Lib.hid hC.peak
    clear hC hT hmap
    go_wp2_with (first
      | (go_at_call 38; refine KO.out.mono ?_; rintro e w1 ⟨g, c', rfl, hm1, hb1⟩)
      | (go_at_call 40; refine (KA.out _ _ _ hm1).mono ?_; rintro e w2 ⟨rfl, hb3⟩))
    go_meet
    exact ⟨rfl, ⟨_, rfl, PtBox.new w2 px py⟩, rfl, (hb1.trans (hb3.mono hb1.size)).alloc (hb1.trans (hb3.mono hb1.size)).size _⟩
  case rest =>
    rename_i hK
    obtain ⟨rfl, ⟨B10, rfl, hbx⟩, rfl, hb⟩ := hcut
    refine hK _ _ ?_
    clear hK
    unfold Mps6 at hT
    exact hT _ _ _ _ _ _ _ _ _ _ _ _ _ _ _ _ _ _ _ _ _ _ _ _ _ _ _ _ _ _ _ _ _ _ _ _ _ _ _ _ _ _ _ _ _ _ _ _ _ _ _ _ _ _ _ _ _ _ _ _ _ _ _ _ _ _ _ _ _ _ _ _ _ _ _ _ _ _ _ _ _ _ _ _ _ _ _ _ _ _ _ _ _ _ _ _ _ _ _ _ _ _ _ _ _ _ _ _ _ _ _ _ _ _ _ _ _ _ _ _ _ _ _  (hM.kept hb) hbx

set_option maxRecDepth 1000000 in
set_option maxHeartbeats 12800000 in
theorem maps6 (w : World) (W H : Int) (a : Option Addr) (n c : Nat) (xs : List Nat) (X Y : Int) (v : Nat) (r2 t r : Int) (pv : Nat) (px py : Int) (hC : MapsC W H a n c xs X Y v r2 t r pv px py) (hT : Mps7 w W H a n c xs X Y v r2 t r pv px py) : Mps6 w W H a n c xs X Y v r2 t r pv px py := by
  unfold Mps6
  intro wx Bm Bp B10 u12 u13 u14 u15 u16 u17 u18 u19 u20 u21 u22 u23 u24 u25 u26 u27 u28 u29 u30 u31 u32 u33 u34 u35 u36 u37 u38 u39 u40 u41 u42 u43 u44 u45 u46 u47 u48 u49 u50 u51 u52 u53 u54 u55 u56 u57 u58 u59 u60 u61 u62 u63 u64 u65 u66 u67 u68 u69 u70 u71 u72 u73 u74 u75 u76 u77 u78 u79 u80 u81 u82 u83 u84 u85 u86 u87 u88 u89 u90 u91 u92 u93 u94 u95 u96 u97 u98 u99 u100 u101 u102 u103 u104 u105 u106 u107 u108 u109 u110 u111 u112 u113 u114 u115 u116 u117 u118 u119 u120 u121 u122 u123 u124 u125 u126 u127 u128 u129 u130 hM f10
  conv => arg 2; whnf
  dsimp only
  go_upto_region 6 with fail
  go_cut [12] (fun s12 wr => s12 = .int .i64 r ∧ Below wx.heap.size wx wr)
  case first =>
    have hmap := hM.map
    obtain ⟨c0, c1, c2⟩ := map_cells hM.bm
    have KR := Lib.hid (hC.rchk wx hmap)
    clear hC hT hmap
    go_wp2_with (go_at_call 41; refine KR.out.mono ?_; rintro e w1 ⟨rfl, hb1⟩)
    go_meet
    exact ⟨rfl, hb1⟩
  case rest =>
    rename_i hK
    obtain ⟨rfl, hb⟩ := hcut
    refine hK _ _ ?_
    clear hK
    unfold Mps7 at hT
    exact hT _ _ _ _ _ _ _ _ _ _ _ _ _ _ _ _ _ _ _ _ _ _ _ _ _ _ _ _ _ _ _ _ _ _ _ _ _ _ _ _ _ _ _ _ _ _ _ _ _ _ _ _ _ _ _ _ _ _ _ _ _ _ _ _ _ _ _ _ _ _ _ _ _ _ _ _ _ _ _ _ _ _ _ _ _ _ _ _ _ _ _ _ _ _ _ _ _ _ _ _ _ _ _ _ _ _ _ _ _ _ _ _ _ _ _ _ _ _ _ _ _ _  (hM.kept hb) (f10.kept hb)

set_option maxRecDepth 1000000 in
set_option maxHeartbeats 12800000 in
theorem maps7 (w : World) (W H : Int) (a : Option Addr) (n c : Nat) (xs : List Nat) (X Y : Int) (v : Nat) (r2 t r : Int) (pv : Nat) (px py : Int) (hC : MapsC W H a n c xs X Y v r2 t r pv px py) (hT : Mps8 w W H a n c xs X Y v r2 t r pv px py) : Mps7 w W H a n c xs X Y v r2 t r pv px py := by
  unfold Mps7
  intro wx Bm Bp B10 u13 u14 u15 u16 u17 u18 u19 u20 u21 u22 u23 u24 u25 u26 u27 u28 u29 u30 u31 u32 u33 u34 u35 u36 u37 u38 u39 u40 u41 u42 u43 u44 u45 u46 u47 u48 u49 u50 u51 u52 u53 u54 u55 u56 u57 u58 u59 u60 u61 u62 u63 u64 u65 u66 u67 u68 u69 u70 u71 u72 u73 u74 u75 u76 u77 u78 u79 u80 u81 u82 u83 u84 u85 u86 u87 u88 u89 u90 u91 u92 u93 u94 u95 u96 u97 u98 u99 u100 u101 u102 u103 u104 u105 u106 u107 u108 u109 u110 u111 u112 u113 u114 u115 u116 u117 u118 u119 u120 u121 u122 u123 u124 u125 u126 u127 u128 u129 u130 hM f10
  conv => arg 2; whnf
  dsimp only
  go_upto_region 7 with fail
  go_cut [13] (fun s13 wr => s13 = .int .i64 r ∧ Below wx.heap.size wx wr)
  case first =>
    clear hC hT
    go_wp2_with fail
    go_meet
    exact ⟨rfl, Below.refl _ _⟩
  case rest =>
    rename_i hK
    obtain ⟨rfl, hb⟩ := hcut
    refine hK _ _ ?_
    clear hK
    unfold Mps8 at hT
    exact hT _ _ _ _ _ _ _ _ _ _ _ _ _ _ _ _ _ _ _ _ _ _ _ _ _ _ _ _ _ _ _ _ _ _ _ _ _ _ _ _ _ _ _ _ _ _ _ _ _ _ _ _ _ _ _ _ _ _ _ _ _ _ _ _ _ _ _ _ _ _ _ _ _ _ _ _ _ _ _ _ _ _ _ _ _ _ _ _ _ _ _ _ _ _ _ _ _ _ _ _ _ _ _ _ _ _ _ _ _ _ _ _ _ _ _ _ _ _ _ _ _  (hM.kept hb) (f10.kept hb)

set_option maxRecDepth 1000000 in
set_option maxHeartbeats 12800000 in
theorem maps8 (w : World) (W H : Int) (a : Option Addr) (n c : Nat) (xs : List Nat) (X Y : Int) (v : Nat) (r2 t r : Int) (pv : Nat) (px py : Int) (hC : MapsC W H a n c xs X Y v r2 t r pv px py) (hT : Mps9 w W H a n c xs X Y v r2 t r pv px py) : Mps8 w W H a n c xs X Y v r2 t r pv px py := by
  unfold Mps8
  intro wx Bm Bp B10 u14 u15 u16 u17 u18 u19 u20 u21 u22 u23 u24 u25 u26 u27 u28 u29 u30 u31 u32 u33 u34 u35 u36 u37 u38 u39 u40 u41 u42 u43 u44 u45 u46 u47 u48 u49 u50 u51 u52 u53 u54 u55 u56 u57 u58 u59 u60 u61 u62 u63 u64 u65 u66 u67 u68 u69 u70 u71 u72 u73 u74 u75 u76 u77 u78 u79 u80 u81 u82 u83 u84 u85 u86 u87 u88 u89 u90 u91 u92 u93 u94 u95 u96 u97 u98 u99 u100 u101 u102 u103 u104 u105 u106 u107 u108 u109 u110 u111 u112 u113 u114 u115 u116 u117 u118 u119 u120 u121 u122 u123 u124 u125 u126 u127 u128 u129 u130 hM f10
  conv => arg 2; whnf
  dsimp only
  go_upto_region 8 with fail
  go_cut [14, 15] (fun s14 s15 wr => s14 = .float .f32 0 ∧ s15 = .float .f32 0 ∧ Below wx.heap.size wx wr)
  case first =>
    clear hC hT
    go_wp2_with fail
    go_meet
    exact ⟨rfl, rfl, Below.refl _ _⟩
  case rest =>
    rename_i hK
    obtain ⟨rfl, rfl, hb⟩ := hcut
    refine hK _ _ ?_
    clear hK
    unfold Mps9 at hT
    exact hT _ _ _ _ _ _ _ _ _ _ _ _ _ _ _ _ _ _ _ _ _ _ _ _ _ _ _ _ _ _ _ _ _ _ _ _ _ _ _ _ _ _ _ _ _ _ _ _ _ _ _ _ _ _ _ _ _ _ _ _ _ _ _ _ _ _ _ _ _ _ _ _ _ _ _ _ _ _ _ _ _ _ _ _ _ _ _ _ _ _ _ _ _ _ _ _ _ _ _ _ _ _ _ _ _ _ _ _ _ _ _ _ _ _ _ _ _ _ _  (hM.kept hb) (f10.kept hb)

set_option maxRecDepth 1000000 in
set_option maxHeartbeats 12800000 in
theorem maps9 (w : World) (W H : Int) (a : Option Addr) (n c : Nat) (xs : List Nat) (X Y : Int) (v : Nat) (r2 t r : Int) (pv : Nat) (px py : Int) (hC : MapsC W H a n c xs X Y v r2 t r pv px py) (hT : Mps10 w W H a n c xs X Y v r2 t r pv px py) : Mps9 w W H a n c xs X Y v r2 t r pv px py := by
  unfold Mps9
  intro wx Bm Bp B10 u16 u17 u18 u19 u20 u21 u22 u23 u24 u25 u26 u27 u28 u29 u30 u31 u32 u33 u34 u35 u36 u37 u38 u39 u40 u41 u42 u43 u44 u45 u46 u47 u48 u49 u50 u51 u52 u53 u54 u55 u56 u57 u58 u59 u60 u61 u62 u63 u64 u65 u66 u67 u68 u69 u70 u71 u72 u73 u74 u75 u76 u77 u78 u79 u80 u81 u82 u83 u84 u85 u86 u87 u88 u89 u90 u91 u92 u93 u94 u95 u96 u97 u98 u99 u100 u101 u102 u103 u104 u105 u106 u107 u108 u109 u110 u111 u112 u113 u114 u115 u116 u117 u118 u119 u120 u121 u122 u123 u124 u125 u126 u127 u128 u129 u130 hM f10
  conv => arg 2; whnf
  dsimp only
  go_upto_region 9 with fail
  go_cut [16, 17] (fun s16 s17 wr => s16 = .int .i64 0 ∧ (∃ B, s17 = .pointer (some ⟨B, 0, none⟩) ∧ PtBox wr B 0 0 ∧ wx.heap.size ≤ B) ∧ Below wx.heap.size wx wr)
  case first =>
    clear hC hT
    go_wp2_with fail
    go_meet
    exact ⟨rfl, ⟨_, rfl, PtBox.new wx 0 0, Nat.le_refl _⟩, (Below.refl _ _).alloc (Nat.le_refl _) _⟩
  case rest =>
    rename_i hK
    obtain ⟨rfl, ⟨B17, rfl, hbx, hge⟩, hb⟩ := hcut
    refine hK _ _ ?_
    clear hK
    unfold Mps10 at hT
    exact hT _ _ _ _ _ _ _ _ _ _ _ _ _ _ _ _ _ _ _ _ _ _ _ _ _ _ _ _ _ _ _ _ _ _ _ _ _ _ _ _ _ _ _ _ _ _ _ _ _ _ _ _ _ _ _ _ _ _ _ _ _ _ _ _ _ _ _ _ _ _ _ _ _ _ _ _ _ _ _ _ _ _ _ _ _ _ _ _ _ _ _ _ _ _ _ _ _ _ _ _ _ _ _ _ _ _ _ _ _ _ _ _ _ _ _ _ _ _  (hM.kept hb) (f10.kept hb) hbx ⟨Nat.le_trans hM.below.size hge, Nat.ne_of_lt (Nat.lt_of_lt_of_le (lt_of_blk hM.bm) hge), Nat.ne_of_lt (Nat.lt_of_lt_of_le (lt_of_blk hM.bp) hge), Nat.ne_of_lt (Nat.lt_of_lt_of_le (lt_of_blk f10) hge)⟩

end Go.Proofs.YtfdkmmllemkogaaGreatDoor

/-
  The walk of LightMaps from region 10 on, and its contract.
-/
namespace Go.Proofs.YtfdkmmllemkogaaGreatDoor
open Go.RowKit Go.Shelf
set_option linter.unusedVariables false
set_option linter.unusedSimpArgs false

theorem number_ok (t r : Int) (h : r ≠ 0 → t = 0) (w : World) :
    Calls Tryz.prog 48 #[.int .i64 t, .int .i64 r, .int .i64 r, .int .i64 t] w fun e w' => e = .returned (.bool true) ∧ w = w' := by
  have hs := number_same t r w
  by_cases h0 : r = 0
  · rwa [if_pos h0] at hs
  · rw [if_neg h0] at hs
    rw [h h0]; exact hs

set_option maxRecDepth 1000000 in
set_option maxHeartbeats 12800000 in
theorem maps16 (w : World) (W H : Int) (a : Option Addr) (n c : Nat) (xs : List Nat) (X Y : Int) (v : Nat) (r2 t r : Int) (pv : Nat) (px py : Int) (hC : MapsC W H a n c xs X Y v r2 t r pv px py) (ht : TabAt w) (hrt : r ≠ 0 → t = 0) : Mps16 w W H a n c xs X Y v r2 t r pv px py := by
  unfold Mps16
  intro wx Bm Bp B10 B17 v' pv' u18 u19 u20 u21 u22 u23 u24 u25 u26 u27 u28 u29 u30 u31 u32 u33 u34 u35 u36 u37 u38 u39 u40 u41 u42 u43 u44 u45 u46 u47 u48 u49 u50 u51 u52 u53 u54 u55 u56 u57 u58 u59 u60 u61 u62 u63 u64 u65 u66 u67 u68 u69 u70 u71 u72 u73 u74 u75 u76 u77 u78 u79 u80 u81 u82 u83 u84 u85 u86 u87 u88 u89 u90 u91 u92 u93 u94 u95 u96 u97 u98 u99 u100 u101 u102 u103 u104 u105 u106 u107 u108 u109 u110 u111 u112 u113 u114 u115 u116 u117 u118 u119 u120 u121 u122 u123 u124 u125 u126 u127 u128 u129 u130 hM f10 f17 hv hpv
  conv => arg 2; whnf
  dsimp only
  have hmap := hM.map
  obtain ⟨c0, c1, c2⟩ := map_cells hM.bm
  have KO := Lib.hid (hC.own wx hmap)
  have KA := Lib.hid hC.chk
  have KN := Lib.hid (number_ok t r hrt)
  have HT := Lib.hid ht
  have HMB := Lib.hid hM.below
  have H10 := Lib.hid f10
  have H17 := Lib.hid f17
  clear hC hmap hrt ht hM f10 f17
  go_upto_region 16 with fail
  go_wp2_with (first
    | (go_at_call 38; refine KO.out.mono ?_; rintro e w1 ⟨g, c', rfl, hm1, hb1⟩)
    | ((go_at_call 47; refine (KA.out _ _ _ hm1).mono ?_; rintro e w2 ⟨rfl, hb3⟩
        have hb4 := hb1.trans (hb3.mono hb1.size)
        have HB4 := Lib.hid hb4
        obtain ⟨x0, x1⟩ := pt_cells (H10.out.kept hb4)
        obtain ⟨y0, y1⟩ := pt_cells (H17.out.kept hb4)
        have K5 := Lib.hid (awake_any w2 ((HT.out.on HMB.out).on hb4))
        clear hb1 hb3 hb4 hm1 c0 c1 c2))
    | (go_at_call 48; refine (KN.out _).mono ?_; rintro e w3 ⟨rfl, rfl⟩)
    | (go_at_call 19; refine K5.out.mono ?_; rintro e w4 ⟨rfl, hb5⟩))
  go_ret
  exact ⟨rfl, (HMB.out.trans (HB4.out.mono HMB.out.size)).trans (hb5.mono (Nat.le_trans HMB.out.size HB4.out.size))⟩

set_option maxRecDepth 1000000 in
set_option maxHeartbeats 12800000 in
theorem maps14_skip (w : World) (W H : Int) (a : Option Addr) (n c : Nat) (xs : List Nat) (X Y : Int) (v : Nat) (r2 t r : Int) (pv : Nat) (px py : Int) (h : r ≠ 0 ∨ r2 ≠ 0) (hv0 : (FloatKind.f32.format.order v 0 == some .eq) = true) (hT : Mps16 w W H a n c xs X Y v r2 t r pv px py) : Mps14 w W H a n c xs X Y v r2 t r pv px py := by
  unfold Mps14
  intro wx Bm Bp B10 B17 pv' u18 u19 u20 u21 u22 u23 u24 u25 u26 u27 u28 u29 u30 u31 u32 u33 u34 u35 u36 u37 u38 u39 u40 u41 u42 u43 u44 u45 u46 u47 u48 u49 u50 u51 u52 u53 u54 u55 u56 u57 u58 u59 u60 u61 u62 u63 u64 u65 u66 u67 u68 u69 u70 u71 u72 u73 u74 u75 u76 u77 u78 u79 u80 u81 u82 u83 u84 u85 u86 u87 u88 u89 u90 u91 u92 u93 u94 u95 u96 u97 u98 u99 u100 u101 u102 u103 u104 u105 u106 u107 u108 u109 u110 u111 u112 u113 u114 u115 u116 u117 u118 u119 u120 u121 u122 u123 u124 u125 u126 u127 u128 u129 u130 hM f10 f17 hpv
  conv => arg 2; whnf
  dsimp only
  have e0 : (r == 0 && r2 == 0) = false := by
    rcases h with h | h <;> simp [h]
  go_upto_region 14 with fail
  go_cut [83] (fun s83 wr => s83 = .bool false ∧ Below wx.heap.size wx wr)
  case first =>
    clear hT
    by_cases h1 : r = 0
    · have h2 : r2 ≠ 0 := h.resolve_left (fun h => h h1)
      have t1 : (r == 0) = true := by simp [h1]
      have t2 : (r2 == 0) = false := by simp [h2]
      clear e0 h h1 h2
      go_wp2_with fail
      go_meet
      exact ⟨rfl, Below.refl _ _⟩
    · have t1 : (r == 0) = false := by simp [h1]
      clear e0 h h1
      go_wp2_with fail
      go_meet
      exact ⟨rfl, Below.refl _ _⟩
  case rest =>
    rename_i K1 hK1 K0 hK
    obtain ⟨rfl, hb⟩ := hcut
    refine hK _ _ ?_
    clear hK e0 h
    have HK1 := Lib.hid hK1
    clear hK1
    go_wp2_with fail
    refine HK1.out _ _ ?_
    unfold Mps16 at hT
    exact hT _ _ _ _ _ 0 pv' _ _ _ _ _ _ _ _ _ _ _ _ _ _ _ _ _ _ _ _ _ _ _ _ _ _ _ _ _ _ _ _ _ _ _ _ _ _ _ _ _ _ _ _ _ _ _ _ _ _ _ _ _ _ _ _ _ _ _ _ _ _ _ _ _ _ _ _ _ _ _ _ _ _ _ _ _ _ _ _ _ _ _ _ _ _ _ _ _ _ _ _ _ _ _ _ _ _ _ _ _ _ _ _ _ _ _ _ _ _ _ _ _  (hM.kept hb) (f10.kept hb) (f17.kept hb) hv0 hpv

set_option maxRecDepth 1000000 in
set_option maxHeartbeats 12800000 in
theorem maps14_in (w : World) (W H : Nat) (b o n c : Nat) (xs : List Nat) (X Y : Nat) (v : Nat) (t : Int) (pv : Nat) (px py : Int) (hR : RightMap w W H b o n xs (xs.map kOf)) (hb : b < w.heap.size) (hX : X < W) (hY : Y < H) (hv : v = smpOf ((xs.map kOf)[Y * W + X]?.getD 0)) (hvv : (FloatKind.f32.format.order v v == some .eq) = true) (hT : Mps16 w W H (some ⟨b, o, none⟩) n c xs X Y v 0 t 0 pv px py) : Mps14 w W H (some ⟨b, o, none⟩) n c xs X Y v 0 t 0 pv px py := by
  unfold Mps14
  intro wx Bm Bp B10 B17 pv' u18 u19 u20 u21 u22 u23 u24 u25 u26 u27 u28 u29 u30 u31 u32 u33 u34 u35 u36 u37 u38 u39 u40 u41 u42 u43 u44 u45 u46 u47 u48 u49 u50 u51 u52 u53 u54 u55 u56 u57 u58 u59 u60 u61 u62 u63 u64 u65 u66 u67 u68 u69 u70 u71 u72 u73 u74 u75 u76 u77 u78 u79 u80 u81 u82 u83 u84 u85 u86 u87 u88 u89 u90 u91 u92 u93 u94 u95 u96 u97 u98 u99 u100 u101 u102 u103 u104 u105 u106 u107 u108 u109 u110 u111 u112 u113 u114 u115 u116 u117 u118 u119 u120 u121 u122 u123 u124 u125 u126 u127 u128 u129 u130 hM f10 f17 hpv
  conv => arg 2; whnf
  dsimp only
  have hlt : Y * W + X < n := idx_lt (p := (X, Y)) hX hY (by have := hR.area; exact_mod_cast this)
  have HSZ := Lib.hid (Nat.lt_of_le_of_lt (hR.sizes _ hlt) (show 16384 < 2 ^ 24 by decide))
  have KL := Lib.hid (refLevel_any W H b o n c xs _ wx (hR.below hM.below hb) (by have := hM.below.size; omega) X Y hX hY)
  obtain ⟨c0, c1, c2⟩ := map_cells hM.bm
  obtain ⟨p0, p1⟩ := pt_cells hM.bp
  have HV := Lib.hid hv
  have HM := Lib.hid hM
  have H10 := Lib.hid f10
  have H17 := Lib.hid f17
  have HVV := Lib.hid hvv
  have HPV := Lib.hid hpv
  have HTT := Lib.hid hT
  clear hR hlt hv hM f10 f17 hvv hpv hT hX hY
  generalize hk : (xs.map kOf)[Y * W + X]?.getD 0 = k at *
  clear hk
  go_upto_region 14 with fail
  go_cut [83] (fun s83 wr => s83 = .bool true ∧ wr = wx)
  case first =>
    go_wp2_with fail
    go_meet
    exact ⟨rfl, rfl⟩
  case rest =>
    rename_i K1 hK1 K0 hK
    obtain ⟨rfl, rfl⟩ := hcut
    refine hK _ _ ?_
    clear hK
    have HK1 := Lib.hid hK1
    clear hK1
    go_wp2_with (first
      | (go_at_call 46; refine KL.out.mono ?_; rintro e w1 ⟨rfl, hb1⟩)
      | (go_at_call 45; refine (refSample_any _ HSZ.out _).mono ?_; rintro e w2 ⟨rfl, rfl⟩))
    refine HK1.out _ _ ?_
    have hT := HTT.out
    have hv := HV.out
    subst hv
    unfold Mps16 at hT
    exact hT _ _ _ _ _ _ pv' _ _ _ _ _ _ _ _ _ _ _ _ _ _ _ _ _ _ _ _ _ _ _ _ _ _ _ _ _ _ _ _ _ _ _ _ _ _ _ _ _ _ _ _ _ _ _ _ _ _ _ _ _ _ _ _ _ _ _ _ _ _ _ _ _ _ _ _ _ _ _ _ _ _ _ _ _ _ _ _ _ _ _ _ _ _ _ _ _ _ _ _ _ _ _ _ _ _ _ _ _ _ _ _ _ _ _ _ _ _ _ _ _  (HM.out.kept hb1) (H10.out.kept hb1) (H17.out.kept hb1) HVV.out HPV.out

set_option maxRecDepth 1000000 in
set_option maxHeartbeats 12800000 in
theorem maps10_bad (w : World) (W H : Int) (a : Option Addr) (n c : Nat) (xs : List Nat) (X Y r : Int) (hr : r ≠ 0) (hT : Mps14 w W H a n c xs X Y 0 r 0 r 0 0 0) : Mps10 w W H a n c xs X Y 0 r 0 r 0 0 0 := by
  unfold Mps10
  intro wx Bm Bp B10 B17 u18 u19 u20 u21 u22 u23 u24 u25 u26 u27 u28 u29 u30 u31 u32 u33 u34 u35 u36 u37 u38 u39 u40 u41 u42 u43 u44 u45 u46 u47 u48 u49 u50 u51 u52 u53 u54 u55 u56 u57 u58 u59 u60 u61 u62 u63 u64 u65 u66 u67 u68 u69 u70 u71 u72 u73 u74 u75 u76 u77 u78 u79 u80 u81 u82 u83 u84 u85 u86 u87 u88 u89 u90 u91 u92 u93 u94 u95 u96 u97 u98 u99 u100 u101 u102 u103 u104 u105 u106 u107 u108 u109 u110 u111 u112 u113 u114 u115 u116 u117 u118 u119 u120 u121 u122 u123 u124 u125 u126 u127 u128 u129 u130 hM f10 f17 hne
  conv => arg 2; whnf
  dsimp only
  have t1 : (r == 0) = false := by simp [hr]
  clear hr
  go_upto_region 10 with fail
  go_cut [47] (fun s47 wr => s47 = .bool false ∧ wr = wx)
  case first =>
    clear hT
    go_wp2_with fail
    go_meet
    exact ⟨rfl, rfl⟩
  case rest =>
    rename_i K1 hK1 K0 hK
    obtain ⟨rfl, rfl⟩ := hcut
    refine hK _ _ ?_
    clear hK
    have HK1 := Lib.hid hK1
    clear hK1
    go_wp2_with fail
    refine HK1.out _ _ ?_
    unfold Mps14 at hT
    exact hT _ _ _ _ _ 0 _ _ _ _ _ _ _ _ _ _ _ _ _ _ _ _ _ _ _ _ _ _ _ _ _ _ _ _ _ _ _ _ _ _ _ _ _ _ _ _ _ _ _ _ _ _ _ _ _ _ _ _ _ _ _ _ _ _ _ _ _ _ _ _ _ _ _ _ _ _ _ _ _ _ _ _ _ _ _ _ _ _ _ _ _ _ _ _ _ _ _ _ _ _ _ _ _ _ _ _ _ _ _ _ _ _ _ _ _ _ _ _ _  hM f10 f17 (by decide)

end Go.Proofs.YtfdkmmllemkogaaGreatDoor

/-
  The walk of LightMaps for a right map, and the contract of LightMaps for every map and every place.
-/
namespace Go.Proofs.YtfdkmmllemkogaaGreatDoor
open Go.RowKit Go.Shelf
set_option linter.unusedVariables false
set_option linter.unusedSimpArgs false

set_option maxRecDepth 1000000 in
set_option maxHeartbeats 12800000 in
theorem maps10_ok (w : World) (W H : Nat) (b o n c : Nat) (xs : List Nat) (X Y : Int) (v : Nat) (r2 t : Int) (pv pw : Nat) (px py : Int) (hR : RightMap w W H b o n xs (xs.map kOf)) (hb : b < w.heap.size) (hMW : AnyMap w (some ⟨b, o, none⟩) n c xs) (ht : t = (xs.map kOf).sum) (hpw : pw = xs[pkTo (xs.map kOf) n]?.getD 0) (hpx : px = ((pkTo (xs.map kOf) n % W : Nat) : Int)) (hpy : py = ((pkTo (xs.map kOf) n / W : Nat) : Int))
    (hr2 : r2 = if inPlace W H X Y then 0 else 10) (hpv : (FloatKind.f32.format.order pv pw == some .eq) = true) (hT : Mps14 w W H (some ⟨b, o, none⟩) n c xs X Y v r2 t 0 pv px py) : Mps10 w W H (some ⟨b, o, none⟩) n c xs X Y v r2 t 0 pv px py := by
  unfold Mps10
  intro wx Bm Bp B10 B17 u18 u19 u20 u21 u22 u23 u24 u25 u26 u27 u28 u29 u30 u31 u32 u33 u34 u35 u36 u37 u38 u39 u40 u41 u42 u43 u44 u45 u46 u47 u48 u49 u50 u51 u52 u53 u54 u55 u56 u57 u58 u59 u60 u61 u62 u63 u64 u65 u66 u67 u68 u69 u70 u71 u72 u73 u74 u75 u76 u77 u78 u79 u80 u81 u82 u83 u84 u85 u86 u87 u88 u89 u90 u91 u92 u93 u94 u95 u96 u97 u98 u99 u100 u101 u102 u103 u104 u105 u106 u107 u108 u109 u110 u111 u112 u113 u114 u115 u116 u117 u118 u119 u120 u121 u122 u123 u124 u125 u126 u127 u128 u129 u130 hM f10 f17 hne
  conv => arg 2; whnf
  dsimp only
  have KT : Hid (Calls Tryz.prog 43 #[.agg #[.int .i64 W, .int .i64 H, .slice (some ⟨b, o, none⟩) n c]] wx fun e w' => e = .returned (.int .i64 t) ∧ Below wx.heap.size wx w') :=
    Lib.hid (by rw [ht]; exact refTotal_any W H b o n c xs _ wx (hR.below hM.below hb) (by have := hM.below.size; omega))
  have KP : Hid (∀ w1 : World, Below wx.heap.size wx w1 → Calls Tryz.prog 44 #[.agg #[.int .i64 W, .int .i64 H, .slice (some ⟨b, o, none⟩) n c]] w1 fun e w' => e = .returned (.tuple #[.float .f32 pw, .agg #[.int .i64 px, .int .i64 py]]) ∧ Below w1.heap.size w1 w') :=
    Lib.hid (fun w1 h => by rw [hpw, hpx, hpy]; exact refPeak_any W H b o n c xs _ w1 (hR.below (hM.below.trans (h.mono hM.below.size)) hb) (by have := hM.below.size; have := h.size; omega))
  obtain ⟨c0, c1, c2⟩ := map_cells hM.bm
  obtain ⟨p0, p1⟩ := pt_cells hM.bp
  have HM := Lib.hid hM
  have H10 := Lib.hid f10
  have H17 := Lib.hid f17
  have HNE := Lib.hid hne
  have HPV := Lib.hid hpv
  have HTT := Lib.hid hT
  have HMW := Lib.hid hMW
  have HR2 := Lib.hid hr2
  clear hR hM f10 f17 hne hpv hT hMW hr2 ht hpw hpx hpy
  go_upto_region 10 with fail
  go_cut [47] (fun s47 wr => s47 = .bool true ∧ wr = wx)
  case first =>
    go_wp2_with fail
    go_meet
    exact ⟨rfl, rfl⟩
  case rest =>
    rename_i K1 hK1 K0 hK
    obtain ⟨rfl, rfl⟩ := hcut
    refine hK _ _ ?_
    clear hK
    have HK1 := Lib.hid hK1
    clear hK1
    have hr2 := HR2.out
    by_cases x1 : X < 0
    · rw [if_neg (by unfold inPlace; omega)] at hr2
      subst hr2
      go_wp2_with (first
      | (go_at_call 42; refine (when_any _ _ _).mono ?_; rintro e w0 ⟨rfl, rfl⟩)
      | ((go_at_call 43; refine KT.out.mono ?_; rintro e w1 ⟨rfl, hb1⟩
          have KP2 := Lib.hid (KP.out w1 hb1)
          obtain ⟨c0', c1', c2'⟩ := map_cells (HM.out.kept hb1).bm))
      | ((go_at_call 44; refine KP2.out.mono ?_; rintro e w2 ⟨rfl, hb2⟩
          have hb3 := hb1.trans (hb2.mono hb1.size)
          have bP := H17.out.kept hb3
          obtain ⟨y0, y1⟩ := pt_cells bP
          have q0 : w2.frozen? ⟨B17, 0, none⟩ = false := by have h := bP; unfold PtBox at h; simp [World.frozen?, h]
          have q1 : w2.frozen? ⟨B17, 1, none⟩ = false := by have h := bP; unfold PtBox at h; simp [World.frozen?, h]
          have HB3 := Lib.hid hb3
          have HBP := Lib.hid bP
          clear hb3 bP hb1 hb2)))
      obtain ⟨WF, hWF⟩ : ∃ WF, ((w2.setCell ⟨B17, 0, none⟩ (.int .i64 px)).setCell ⟨B17, 1, none⟩ (.int .i64 py)) = WF := ⟨_, rfl⟩
      have hm2 := HM.out.kept HB3.out
      have h102 := H10.out.kept HB3.out
      obtain ⟨n0, n1, n2, n3⟩ := HNE.out
      have ho : ∀ k, k ≠ B17 → WF.heap[k]? = w2.heap[k]? := fun k hk => by
        rw [← hWF]
        simp [World.setCell, Array.getElem?_modify, Ne.symm hk]
      have hbF : Below w.heap.size w WF := by
        rw [← hWF]
        exact (hm2.below.setCell (p := ⟨B17, 0, none⟩) n0 _).setCell (p := ⟨B17, 1, none⟩) n0 _
      have hmF : MK w W H (some ⟨b, o, none⟩) n c xs X Y WF Bm Bp := ⟨hbF, (ho _ n1).trans hm2.bm, (ho _ n2).trans hm2.bp, HMW.out.below hbF (Nat.le_refl _)⟩
      have h10F : PtBox WF B10 px py := (ho _ n3).trans h102
      have h17F : PtBox WF B17 px py := by rw [← hWF]; exact blk_set2 HBP.out _ _
      rw [hWF]
      refine HK1.out _ _ ?_
      have hT := HTT.out
      unfold Mps14 at hT
      exact hT _ _ _ _ _ pw _ _ _ _ _ _ _ _ _ _ _ _ _ _ _ _ _ _ _ _ _ _ _ _ _ _ _ _ _ _ _ _ _ _ _ _ _ _ _ _ _ _ _ _ _ _ _ _ _ _ _ _ _ _ _ _ _ _ _ _ _ _ _ _ _ _ _ _ _ _ _ _ _ _ _ _ _ _ _ _ _ _ _ _ _ _ _ _ _ _ _ _ _ _ _ _ _ _ _ _ _ _ _ _ _ _ _ _ _ _ _ _ _  hmF h10F h17F HPV.out
    by_cases x2 : (W : Int) ≤ X
    · rw [if_neg (by unfold inPlace; omega)] at hr2
      subst hr2
      go_wp2_with (first
      | (go_at_call 42; refine (when_any _ _ _).mono ?_; rintro e w0 ⟨rfl, rfl⟩)
      | ((go_at_call 43; refine KT.out.mono ?_; rintro e w1 ⟨rfl, hb1⟩
          have KP2 := Lib.hid (KP.out w1 hb1)
          obtain ⟨c0', c1', c2'⟩ := map_cells (HM.out.kept hb1).bm))
      | ((go_at_call 44; refine KP2.out.mono ?_; rintro e w2 ⟨rfl, hb2⟩
          have hb3 := hb1.trans (hb2.mono hb1.size)
          have bP := H17.out.kept hb3
          obtain ⟨y0, y1⟩ := pt_cells bP
          have q0 : w2.frozen? ⟨B17, 0, none⟩ = false := by have h := bP; unfold PtBox at h; simp [World.frozen?, h]
          have q1 : w2.frozen? ⟨B17, 1, none⟩ = false := by have h := bP; unfold PtBox at h; simp [World.frozen?, h]
          have HB3 := Lib.hid hb3
          have HBP := Lib.hid bP
          clear hb3 bP hb1 hb2)))
      obtain ⟨WF, hWF⟩ : ∃ WF, ((w2.setCell ⟨B17, 0, none⟩ (.int .i64 px)).setCell ⟨B17, 1, none⟩ (.int .i64 py)) = WF := ⟨_, rfl⟩
      have hm2 := HM.out.kept HB3.out
      have h102 := H10.out.kept HB3.out
      obtain ⟨n0, n1, n2, n3⟩ := HNE.out
      have ho : ∀ k, k ≠ B17 → WF.heap[k]? = w2.heap[k]? := fun k hk => by
        rw [← hWF]
        simp [World.setCell, Array.getElem?_modify, Ne.symm hk]
      have hbF : Below w.heap.size w WF := by
        rw [← hWF]
        exact (hm2.below.setCell (p := ⟨B17, 0, none⟩) n0 _).setCell (p := ⟨B17, 1, none⟩) n0 _
      have hmF : MK w W H (some ⟨b, o, none⟩) n c xs X Y WF Bm Bp := ⟨hbF, (ho _ n1).trans hm2.bm, (ho _ n2).trans hm2.bp, HMW.out.below hbF (Nat.le_refl _)⟩
      have h10F : PtBox WF B10 px py := (ho _ n3).trans h102
      have h17F : PtBox WF B17 px py := by rw [← hWF]; exact blk_set2 HBP.out _ _
      rw [hWF]
      refine HK1.out _ _ ?_
      have hT := HTT.out
      unfold Mps14 at hT
      exact hT _ _ _ _ _ pw _ _ _ _ _ _ _ _ _ _ _ _ _ _ _ _ _ _ _ _ _ _ _ _ _ _ _ _ _ _ _ _ _ _ _ _ _ _ _ _ _ _ _ _ _ _ _ _ _ _ _ _ _ _ _ _ _ _ _ _ _ _ _ _ _ _ _ _ _ _ _ _ _ _ _ _ _ _ _ _ _ _ _ _ _ _ _ _ _ _ _ _ _ _ _ _ _ _ _ _ _ _ _ _ _ _ _ _ _ _ _ _ _  hmF h10F h17F HPV.out
    by_cases x3 : Y < 0
    · rw [if_neg (by unfold inPlace; omega)] at hr2
      subst hr2
      go_wp2_with (first
      | (go_at_call 42; refine (when_any _ _ _).mono ?_; rintro e w0 ⟨rfl, rfl⟩)
      | ((go_at_call 43; refine KT.out.mono ?_; rintro e w1 ⟨rfl, hb1⟩
          have KP2 := Lib.hid (KP.out w1 hb1)
          obtain ⟨c0', c1', c2'⟩ := map_cells (HM.out.kept hb1).bm))
      | ((go_at_call 44; refine KP2.out.mono ?_; rintro e w2 ⟨rfl, hb2⟩
          have hb3 := hb1.trans (hb2.mono hb1.size)
          have bP := H17.out.kept hb3
          obtain ⟨y0, y1⟩ := pt_cells bP
          have q0 : w2.frozen? ⟨B17, 0, none⟩ = false := by have h := bP; unfold PtBox at h; simp [World.frozen?, h]
          have q1 : w2.frozen? ⟨B17, 1, none⟩ = false := by have h := bP; unfold PtBox at h; simp [World.frozen?, h]
          have HB3 := Lib.hid hb3
          have HBP := Lib.hid bP
          clear hb3 bP hb1 hb2)))
      obtain ⟨WF, hWF⟩ : ∃ WF, ((w2.setCell ⟨B17, 0, none⟩ (.int .i64 px)).setCell ⟨B17, 1, none⟩ (.int .i64 py)) = WF := ⟨_, rfl⟩
      have hm2 := HM.out.kept HB3.out
      have h102 := H10.out.kept HB3.out
      obtain ⟨n0, n1, n2, n3⟩ := HNE.out
      have ho : ∀ k, k ≠ B17 → WF.heap[k]? = w2.heap[k]? := fun k hk => by
        rw [← hWF]
        simp [World.setCell, Array.getElem?_modify, Ne.symm hk]
      have hbF : Below w.heap.size w WF := by
        rw [← hWF]
        exact (hm2.below.setCell (p := ⟨B17, 0, none⟩) n0 _).setCell (p := ⟨B17, 1, none⟩) n0 _
      have hmF : MK w W H (some ⟨b, o, none⟩) n c xs X Y WF Bm Bp := ⟨hbF, (ho _ n1).trans hm2.bm, (ho _ n2).trans hm2.bp, HMW.out.below hbF (Nat.le_refl _)⟩
      have h10F : PtBox WF B10 px py := (ho _ n3).trans h102
      have h17F : PtBox WF B17 px py := by rw [← hWF]; exact blk_set2 HBP.out _ _
      rw [hWF]
      refine HK1.out _ _ ?_
      have hT := HTT.out
      unfold Mps14 at hT
      exact hT _ _ _ _ _ pw _ _ _ _ _ _ _ _ _ _ _ _ _ _ _ _ _ _ _ _ _ _ _ _ _ _ _ _ _ _ _ _ _ _ _ _ _ _ _ _ _ _ _ _ _ _ _ _ _ _ _ _ _ _ _ _ _ _ _ _ _ _ _ _ _ _ _ _ _ _ _ _ _ _ _ _ _ _ _ _ _ _ _ _ _ _ _ _ _ _ _ _ _ _ _ _ _ _ _ _ _ _ _ _ _ _ _ _ _ _ _ _ _  hmF h10F h17F HPV.out
    by_cases x4 : (H : Int) ≤ Y
    · rw [if_neg (by unfold inPlace; omega)] at hr2
      subst hr2
      go_wp2_with (first
      | (go_at_call 42; refine (when_any _ _ _).mono ?_; rintro e w0 ⟨rfl, rfl⟩)
      | ((go_at_call 43; refine KT.out.mono ?_; rintro e w1 ⟨rfl, hb1⟩
          have KP2 := Lib.hid (KP.out w1 hb1)
          obtain ⟨c0', c1', c2'⟩ := map_cells (HM.out.kept hb1).bm))
      | ((go_at_call 44; refine KP2.out.mono ?_; rintro e w2 ⟨rfl, hb2⟩
          have hb3 := hb1.trans (hb2.mono hb1.size)
          have bP := H17.out.kept hb3
          obtain ⟨y0, y1⟩ := pt_cells bP
          have q0 : w2.frozen? ⟨B17, 0, none⟩ = false := by have h := bP; unfold PtBox at h; simp [World.frozen?, h]
          have q1 : w2.frozen? ⟨B17, 1, none⟩ = false := by have h := bP; unfold PtBox at h; simp [World.frozen?, h]
          have HB3 := Lib.hid hb3
          have HBP := Lib.hid bP
          clear hb3 bP hb1 hb2)))
      obtain ⟨WF, hWF⟩ : ∃ WF, ((w2.setCell ⟨B17, 0, none⟩ (.int .i64 px)).setCell ⟨B17, 1, none⟩ (.int .i64 py)) = WF := ⟨_, rfl⟩
      have hm2 := HM.out.kept HB3.out
      have h102 := H10.out.kept HB3.out
      obtain ⟨n0, n1, n2, n3⟩ := HNE.out
      have ho : ∀ k, k ≠ B17 → WF.heap[k]? = w2.heap[k]? := fun k hk => by
        rw [← hWF]
        simp [World.setCell, Array.getElem?_modify, Ne.symm hk]
      have hbF : Below w.heap.size w WF := by
        rw [← hWF]
        exact (hm2.below.setCell (p := ⟨B17, 0, none⟩) n0 _).setCell (p := ⟨B17, 1, none⟩) n0 _
      have hmF : MK w W H (some ⟨b, o, none⟩) n c xs X Y WF Bm Bp := ⟨hbF, (ho _ n1).trans hm2.bm, (ho _ n2).trans hm2.bp, HMW.out.below hbF (Nat.le_refl _)⟩
      have h10F : PtBox WF B10 px py := (ho _ n3).trans h102
      have h17F : PtBox WF B17 px py := by rw [← hWF]; exact blk_set2 HBP.out _ _
      rw [hWF]
      refine HK1.out _ _ ?_
      have hT := HTT.out
      unfold Mps14 at hT
      exact hT _ _ _ _ _ pw _ _ _ _ _ _ _ _ _ _ _ _ _ _ _ _ _ _ _ _ _ _ _ _ _ _ _ _ _ _ _ _ _ _ _ _ _ _ _ _ _ _ _ _ _ _ _ _ _ _ _ _ _ _ _ _ _ _ _ _ _ _ _ _ _ _ _ _ _ _ _ _ _ _ _ _ _ _ _ _ _ _ _ _ _ _ _ _ _ _ _ _ _ _ _ _ _ _ _ _ _ _ _ _ _ _ _ _ _ _ _ _ _  hmF h10F h17F HPV.out
    · rw [if_pos (by unfold inPlace; omega)] at hr2
      subst hr2
      go_wp2_with (first
      | (go_at_call 42; refine (when_any _ _ _).mono ?_; rintro e w0 ⟨rfl, rfl⟩)
      | ((go_at_call 43; refine KT.out.mono ?_; rintro e w1 ⟨rfl, hb1⟩
          have KP2 := Lib.hid (KP.out w1 hb1)
          obtain ⟨c0', c1', c2'⟩ := map_cells (HM.out.kept hb1).bm))
      | ((go_at_call 44; refine KP2.out.mono ?_; rintro e w2 ⟨rfl, hb2⟩
          have hb3 := hb1.trans (hb2.mono hb1.size)
          have bP := H17.out.kept hb3
          obtain ⟨y0, y1⟩ := pt_cells bP
          have q0 : w2.frozen? ⟨B17, 0, none⟩ = false := by have h := bP; unfold PtBox at h; simp [World.frozen?, h]
          have q1 : w2.frozen? ⟨B17, 1, none⟩ = false := by have h := bP; unfold PtBox at h; simp [World.frozen?, h]
          have HB3 := Lib.hid hb3
          have HBP := Lib.hid bP
          clear hb3 bP hb1 hb2)))
      obtain ⟨WF, hWF⟩ : ∃ WF, ((w2.setCell ⟨B17, 0, none⟩ (.int .i64 px)).setCell ⟨B17, 1, none⟩ (.int .i64 py)) = WF := ⟨_, rfl⟩
      have hm2 := HM.out.kept HB3.out
      have h102 := H10.out.kept HB3.out
      obtain ⟨n0, n1, n2, n3⟩ := HNE.out
      have ho : ∀ k, k ≠ B17 → WF.heap[k]? = w2.heap[k]? := fun k hk => by
        rw [← hWF]
        simp [World.setCell, Array.getElem?_modify, Ne.symm hk]
      have hbF : Below w.heap.size w WF := by
        rw [← hWF]
        exact (hm2.below.setCell (p := ⟨B17, 0, none⟩) n0 _).setCell (p := ⟨B17, 1, none⟩) n0 _
      have hmF : MK w W H (some ⟨b, o, none⟩) n c xs X Y WF Bm Bp := ⟨hbF, (ho _ n1).trans hm2.bm, (ho _ n2).trans hm2.bp, HMW.out.below hbF (Nat.le_refl _)⟩
      have h10F : PtBox WF B10 px py := (ho _ n3).trans h102
      have h17F : PtBox WF B17 px py := by rw [← hWF]; exact blk_set2 HBP.out _ _
      rw [hWF]
      refine HK1.out _ _ ?_
      have hT := HTT.out
      unfold Mps14 at hT
      exact hT _ _ _ _ _ pw _ _ _ _ _ _ _ _ _ _ _ _ _ _ _ _ _ _ _ _ _ _ _ _ _ _ _ _ _ _ _ _ _ _ _ _ _ _ _ _ _ _ _ _ _ _ _ _ _ _ _ _ _ _ _ _ _ _ _ _ _ _ _ _ _ _ _ _ _ _ _ _ _ _ _ _ _ _ _ _ _ _ _ _ _ _ _ _ _ _ _ _ _ _ _ _ _ _ _ _ _ _ _ _ _ _ _ _ _ _ _ _ _  hmF h10F h17F HPV.out

end Go.Proofs.YtfdkmmllemkogaaGreatDoor

/-
  The contract of LightMaps: for every map and every place it returns true.
-/
namespace Go.Proofs.YtfdkmmllemkogaaGreatDoor
open Go.RowKit Go.Shelf
set_option linter.unusedVariables false
set_option linter.unusedSimpArgs false

theorem smp_eq {x y : Nat} {k : Int} (hx : Smp x k) (hy : Smp y k) : (FloatKind.f32.format.order x y == some .eq) = true := by
  show (Ieee.single.order x y == some .eq) = true
  rw [hx.order hy, compare_self]; rfl

theorem chk_of (W H : Int) (a : Option Addr) (n c : Nat) (xs : List Nat) (w : World) (hM : AnyMap w a n c xs) : ∀ w1 : World, Below w.heap.size w w1 → Calls Tryz.prog 47 #[.agg #[.int .i64 W, .int .i64 H, .slice a n c]] w1 fun e w' => e = .returned (.int .i64 (mapErr W H n xs)) ∧ Below w1.heap.size w1 w' :=
  fun w1 h1 => checkMap_map W H a n c xs w1 (hM.below h1 (Nat.le_refl _))

theorem mapsC_bad (W H : Int) (a : Option Addr) (n c : Nat) (xs : List Nat) (X Y : Int) (hm : n ≤ 100000) (h0 : mapErr W H n xs ≠ 0) : MapsC W H a n c xs X Y 0 (mapErr W H n xs) 0 (mapErr W H n xs) 0 0 0 where
  own := fun wx hM => own_of W H a n c xs hm wx hM
  at' := fun wx g c' hM => at_bad W H _ n c' xs X Y _ h0 wx (chk_of W H _ n c' xs wx hM)
  tot := fun wx g c' hM => total_bad W H _ n c' _ h0 wx (chk_of W H _ n c' xs wx hM)
  peak := fun wx g c' hM => peak_bad W H _ n c' _ h0 wx (chk_of W H _ n c' xs wx hM)
  chk := fun wx g c' hM => checkMap_map W H _ n c' xs wx hM
  rchk := fun wx hM => refCheckMap_map W H a n c xs wx hM

theorem mapsC_ok (W H : Nat) (a : Option Addr) (n c : Nat) (xs : List Nat) (X Y : Int) (hm : n ≤ 100000) (h0 : mapErr W H n xs = 0) :
    MapsC W H a n c xs X Y (if atErr W H X Y n xs = 0 then smpOf (atK W X Y xs) else 0) (atErr W H X Y n xs) (xs.map kOf).sum 0 (smpOf ((xs.map kOf)[pkTo (xs.map kOf) n]?.getD 0)) ((pkTo (xs.map kOf) n % W : Nat) : Int) ((pkTo (xs.map kOf) n / W : Nat) : Int) where
  own := fun wx hM => own_of W H a n c xs hm wx hM
  at' := fun wx g c' hM => lightAt_all W H _ n c' xs X Y wx hM
  tot := fun wx g c' hM => by
    have h := lightTotal_all W H _ n c' xs wx hM
    rwa [if_pos h0, h0] at h
  peak := fun wx g c' hM => by
    obtain ⟨b, o, ha, hb, hR⟩ := hM.rightK h0
    cases ha
    have h := peak_any W H g 0 c' n xs (xs.map kOf) wx hR hb
    have hW : 0 < W := by have := hR.wid; omega
    have hN : H * W = n := by have := hR.area; rw [Nat.mul_comm]; exact_mod_cast this
    rw [hN, peakTo_pk W _ hW n] at h
    dsimp only at h
    have hi : pkTo (xs.map kOf) n / W * W + pkTo (xs.map kOf) n % W = pkTo (xs.map kOf) n := by rw [Nat.mul_comm]; exact Nat.div_add_mod _ W
    rw [hi] at h
    exact h
  chk := fun wx g c' hM => by
    have h := checkMap_map W H _ n c' xs wx hM
    rwa [h0] at h
  rchk := fun wx hM => by
    have h := refCheckMap_map W H a n c xs wx hM
    rwa [h0] at h

theorem maps3_all (w : World) (W H : Int) (a : Option Addr) (n c : Nat) (xs : List Nat) (X Y : Int) (ht : TabAt w) (hM : AnyMap w a n c xs) (hm : n ≤ 100000) :
    ∃ v r2 t r pv px py, Mps3 w W H a n c xs X Y v r2 t r pv px py := by
  by_cases h0 : mapErr W H n xs = 0
  · obtain ⟨b, o, rfl, hb, hR⟩ := hM.rightK h0
    obtain ⟨Wn, rfl⟩ := Int.eq_ofNat_of_zero_le (show 0 ≤ W by have := hR.wid; omega)
    obtain ⟨Hn, rfl⟩ := Int.eq_ofNat_of_zero_le (show 0 ≤ H by have := hR.hei; omega)
    have hC := mapsC_ok Wn Hn (some ⟨b, o, none⟩) n c xs X Y hm h0
    have hN : Wn * Hn = n := by have := hR.area; exact_mod_cast this
    have hn1 : 1 ≤ n := by rw [← hN]; exact Nat.mul_pos (by have := hR.wid; omega) (by have := hR.hei; omega)
    have hpk := pkTo_lt (xs.map kOf) n hn1
    have hpv := smp_eq (smpOf_smp _ (Nat.lt_of_le_of_lt (hR.sizes _ hpk) (show 16384 < 2 ^ 24 by decide))) (hR.smps _ hpk)
    have h16 := maps16 w _ _ _ _ _ _ _ _ _ _ _ _ _ _ _ hC ht (fun h => absurd rfl h)
    refine ⟨_, _, _, _, _, _, _, maps3 w _ _ _ _ _ _ _ _ _ _ _ _ _ _ _ hC (maps4 w _ _ _ _ _ _ _ _ _ _ _ _ _ _ _ hC (maps5 w _ _ _ _ _ _ _ _ _ _ _ _ _ _ _ hC (maps6 w _ _ _ _ _ _ _ _ _ _ _ _ _ _ _ hC (maps7 w _ _ _ _ _ _ _ _ _ _ _ _ _ _ _ hC (maps8 w _ _ _ _ _ _ _ _ _ _ _ _ _ _ _ hC (maps9 w _ _ _ _ _ _ _ _ _ _ _ _ _ _ _ hC
      (maps10_ok w Wn Hn b o n c xs X Y _ _ _ _ _ _ _ hR hb hM rfl rfl rfl rfl (by unfold atErr; rw [if_pos h0]) hpv ?_)))))))⟩
    by_cases hi : inPlace Wn Hn X Y
    · obtain ⟨i1, i2, i3, i4⟩ := id hi
      obtain ⟨Xn, rfl⟩ := Int.eq_ofNat_of_zero_le i1
      obtain ⟨Yn, rfl⟩ := Int.eq_ofNat_of_zero_le i3
      have e0 : atErr Wn Hn Xn Yn n xs = 0 := by unfold atErr; rw [if_pos h0, if_pos hi]
      rw [e0] at h16 ⊢
      rw [if_pos rfl] at h16 ⊢
      have hlt : Yn * Wn + Xn < n := idx_lt (p := (Xn, Yn)) (by omega) (by omega) hN
      have ek : (xs.map kOf)[Yn * Wn + Xn]?.getD 0 = atK Wn Xn Yn xs := by
        have hl := hM.len
        unfold atK
        have e1 : ((Yn : Int) * (Wn : Int) + (Xn : Int)).toNat = Yn * Wn + Xn := by
          have e2 : (Yn : Int) * (Wn : Int) = ((Yn * Wn : Nat) : Int) := by push_cast; rfl
          rw [e2]; omega
        rw [e1, List.getElem?_map, List.getElem?_eq_getElem (by omega)]; rfl
      have hs := smpOf_smp _ (Nat.lt_of_le_of_lt (hR.sizes _ hlt) (show 16384 < 2 ^ 24 by decide))
      rw [ek] at hs
      exact maps14_in w Wn Hn b o n c xs Xn Yn _ _ _ _ _ hR hb (by omega) (by omega) (by rw [ek]) (smp_eq hs hs) h16
    · have e0 : atErr Wn Hn X Y n xs = 10 := by unfold atErr; rw [if_pos h0, if_neg hi]
      rw [e0] at h16 ⊢
      rw [if_neg (by decide)] at h16 ⊢
      exact maps14_skip w _ _ _ _ _ _ _ _ _ _ _ _ _ _ _ (.inr (by decide)) (by decide) h16
  · have hC := mapsC_bad W H a n c xs X Y hm h0
    exact ⟨_, _, _, _, _, _, _, maps3 w _ _ _ _ _ _ _ _ _ _ _ _ _ _ _ hC (maps4 w _ _ _ _ _ _ _ _ _ _ _ _ _ _ _ hC (maps5 w _ _ _ _ _ _ _ _ _ _ _ _ _ _ _ hC (maps6 w _ _ _ _ _ _ _ _ _ _ _ _ _ _ _ hC (maps7 w _ _ _ _ _ _ _ _ _ _ _ _ _ _ _ hC (maps8 w _ _ _ _ _ _ _ _ _ _ _ _ _ _ _ hC (maps9 w _ _ _ _ _ _ _ _ _ _ _ _ _ _ _ hC
      (maps10_bad w W H a n c xs X Y _ h0 (maps14_skip w _ _ _ _ _ _ _ _ _ _ _ _ _ _ _ (.inl h0) (by decide) (maps16 w _ _ _ _ _ _ _ _ _ _ _ _ _ _ _ hC ht (fun _ => rfl))))))))))⟩

set_option maxRecDepth 1000000 in
set_option maxHeartbeats 12800000 in
/-- LightMaps, for every map and every place. -/
theorem maps_all (w : World) (W H : Int) (a : Option Addr) (n c : Nat) (xs : List Nat) (X Y : Int) (ht : TabAt w) (hM : AnyMap w a n c xs) :
    Calls Tryz.prog 4 #[.agg #[.int .i64 W, .int .i64 H, .slice a n c], .agg #[.int .i64 X, .int .i64 Y]] w (TruePost w) := by
  obtain ⟨W0, hW0⟩ : ∃ W0, (w.alloc (.cells #[.int .i64 W, .int .i64 H, .slice a n c] 48)).alloc (.cells #[.int .i64 X, .int .i64 Y] 50) = W0 := ⟨_, rfl⟩
  have hB0 : Below w.heap.size w W0 := by rw [← hW0]; exact ((Below.refl _ w).alloc (Nat.le_refl _) _).alloc (by simp) _
  have hm0 : MK w W H a n c xs X Y W0 w.heap.size (w.heap.size + 1) :=
    ⟨hB0, by rw [← hW0]; exact blk_alloc_other (blk_alloc_new _ _) _, by rw [← hW0]; exact blk_alloc_new1 _ _ _, hM.below hB0 (Nat.le_refl _)⟩
  obtain ⟨c0, c1, c2⟩ := map_cells hm0.bm
  by_cases hs : (decide (n ≤ 160) || decide (n = 4097)) = true
  · obtain ⟨v, r2, t, r, pv, px, py, hT⟩ := maps3_all w W H a n c xs X Y ht hM (by simp at hs; omega)
    have KS : Hid (Calls Tryz.prog 36 #[.agg #[.int .i64 W, .int .i64 H, .slice a n c]] W0 fun e w' => e = .returned (.bool true) ∧ Below W0.heap.size W0 w') := Lib.hid (by
      have h := shortMap_all W H a n c W0
      rwa [hs] at h)
    have HM0 := Lib.hid hm0
    have HTT := Lib.hid hT
    clear ht hM hm0 hB0 hs hT
    go_enter Tryz.func4, Tryz.ntmps4
    go_upto_region 1 with fail
    try rw [hW0]
    clear hW0
    go_cut [20] (fun s20 wr => s20 = .bool false ∧ Below W0.heap.size W0 wr)
    case first =>
      go_wp2_with (go_at_call 36; refine KS.out.mono ?_; rintro e w1 ⟨rfl, hb1⟩)
      go_meet
      exact ⟨rfl, hb1⟩
    case rest =>
      rename_i K1 hK1 K0 hK
      obtain ⟨rfl, hb⟩ := hcut
      refine hK _ _ ?_
      clear hK
      have HK1 := Lib.hid hK1
      clear hK1
      go_wp2_with fail
      refine HK1.out _ _ ?_
      have hT := HTT.out
      unfold Mps3 at hT
      exact hT _ _ _ _ _ _ _ _ _ _ _ _ _ _ _ _ _ _ _ _ _ _ _ _ _ _ _ _ _ _ _ _ _ _ _ _ _ _ _ _ _ _ _ _ _ _ _ _ _ _ _ _ _ _ _ _ _ _ _ _ _ _ _ _ _ _ _ _ _ _ _ _ _ _ _ _ _ _ _ _ _ _ _ _ _ _ _ _ _ _ _ _ _ _ _ _ _ _ _ _ _ _ _ _ _ _ _ _ _ _ _ _ _ _ _ _ _ _ _ _ _ _ _ _ _ _ _ _ _  (HM0.out.kept hb)
  · have KS : Hid (Calls Tryz.prog 36 #[.agg #[.int .i64 W, .int .i64 H, .slice a n c]] W0 fun e w' => e = .returned (.bool false) ∧ Below W0.heap.size W0 w') := Lib.hid (by
      have h := shortMap_all W H a n c W0
      rwa [Bool.eq_false_iff.2 hs] at h)
    have HB0 := Lib.hid hB0
    have KW : Hid (∀ w1, Below W0.heap.size W0 w1 → Calls Tryz.prog 19 #[] w1 fun e w' => e = .returned (.bool true) ∧ Below w1.heap.size w1 w') := Lib.hid (fun w1 h => awake_any w1 ((ht.on hB0).on h))
    clear ht hM hm0 hB0 hs
    go_enter Tryz.func4, Tryz.ntmps4
    go_upto_region 1 with fail
    try rw [hW0]
    clear hW0
    go_wp2_with (first
      | (go_at_call 36; refine KS.out.mono ?_; rintro e w1 ⟨rfl, hb1⟩)
      | (go_at_call 19; refine (KW.out _ hb1).mono ?_; rintro e w2 ⟨rfl, hb2⟩))
    go_ret
    exact ⟨rfl, (HB0.out.trans (hb1.mono HB0.out.size)).trans (hb2.mono (Nat.le_trans HB0.out.size hb1.size))⟩
end Go.Proofs.YtfdkmmllemkogaaGreatDoor
