/-
  The walk of LightTurns, region by region.
-/
import Derived.Test.YtfdkmmllemkogaaGreatDoorOBw
import Derived.Test.YtfdkmmllemkogaaGreatDoorOBd
namespace Go.Proofs.YtfdkmmllemkogaaGreatDoor
open Go.RowKit Go.Shelf
set_option linter.unusedVariables false
set_option linter.unusedSimpArgs false

noncomputable def turnsOf (n : Nat) : Code := ((Tryz.f6.body.bind (tailAt1 n)).getD .skip)

/-- The two arguments' variables, and what the walk keeps. -/
structure TK (w : World) (W H : Int) (a : Option Addr) (n c : Nat) (xs : List Nat) (W2 H2 : Int) (a2 : Option Addr) (m c2 : Nat) (ys : List Nat) (wx : World) (Ba Bb : Nat) : Prop where
  below : Below w.heap.size w wx
  ba : wx.heap[Ba]? = some (.cells #[.int .i64 W, .int .i64 H, .slice a n c] 48 (0, 0))
  bb : wx.heap[Bb]? = some (.cells #[.int .i64 W2, .int .i64 H2, .slice a2 m c2] 48 (0, 0))
  ma : AnyMap wx a n c xs
  mb : AnyMap wx a2 m c2 ys
theorem TK.kept {w : World} {W H : Int} {a : Option Addr} {n c : Nat} {xs : List Nat} {W2 H2 : Int} {a2 : Option Addr} {m c2 : Nat} {ys : List Nat} {wx w' : World} {Ba Bb : Nat} (h : TK w W H a n c xs W2 H2 a2 m c2 ys wx Ba Bb) (hb : Below wx.heap.size wx w') : TK w W H a n c xs W2 H2 a2 m c2 ys w' Ba Bb :=
  ⟨h.below.trans (hb.mono h.below.size), (hb.block _ (lt_of_blk h.ba)).trans h.ba, (hb.block _ (lt_of_blk h.bb)).trans h.bb, h.ma.below hb (Nat.le_refl _), h.mb.below hb (Nat.le_refl _)⟩

/-- A map's own copy. -/
def Owns (W H : Int) (a : Option Addr) (n c : Nat) (xs : List Nat) : Prop :=
  ∀ wx : World, AnyMap wx a n c xs → Calls Tryz.prog 38 #[.agg #[.int .i64 W, .int .i64 H, .slice a n c]] wx fun e w' =>
    ∃ g c', e = .returned (.agg #[.int .i64 W, .int .i64 H, .slice (some ⟨g, 0, none⟩) n c']) ∧ AnyMap w' (some ⟨g, 0, none⟩) n c' xs ∧ Below wx.heap.size wx w'

/-- What the calls answer. -/
structure TurnsC (W H : Int) (a : Option Addr) (n c : Nat) (xs : List Nat) (W2 H2 : Int) (a2 : Option Addr) (m c2 : Nat) (ys : List Nat) (r rb r2 r3 : Int) (lF lT lA : List Int) : Prop where
  owna : Owns W H a n c xs
  ownb : Owns W2 H2 a2 m c2 ys
  flip : ∀ wx g c', AnyMap wx (some ⟨g, 0, none⟩) n c' xs → Answers 56 #[.agg #[.int .i64 W, .int .i64 H, .slice (some ⟨g, 0, none⟩) n c']] wx r W H lF
  turn : ∀ wx g c', AnyMap wx (some ⟨g, 0, none⟩) n c' xs → Answers 57 #[.agg #[.int .i64 W, .int .i64 H, .slice (some ⟨g, 0, none⟩) n c']] wx r H W lT
  add : ∀ wx g c' g2 c2', AnyMap wx (some ⟨g, 0, none⟩) n c' xs → AnyMap wx (some ⟨g2, 0, none⟩) m c2' ys → Answers 58 #[.agg #[.int .i64 W, .int .i64 H, .slice (some ⟨g, 0, none⟩) n c'], .agg #[.int .i64 W2, .int .i64 H2, .slice (some ⟨g2, 0, none⟩) m c2']] wx r3 W H lA
  chka : ∀ wx, AnyMap wx a n c xs → Calls Tryz.prog 41 #[.agg #[.int .i64 W, .int .i64 H, .slice a n c]] wx fun e w' => e = .returned (.int .i64 r) ∧ Below wx.heap.size wx w'
  chkb : ∀ wx, AnyMap wx a2 m c2 ys → Calls Tryz.prog 41 #[.agg #[.int .i64 W2, .int .i64 H2, .slice a2 m c2]] wx fun e w' => e = .returned (.int .i64 rb) ∧ Below wx.heap.size wx w'
  rflip : r = 0 → ∀ wx, AnyMap wx a n c xs → AnswersMap 59 #[.agg #[.int .i64 W, .int .i64 H, .slice a n c]] wx W H lF
  rturn : r = 0 → ∀ wx, AnyMap wx a n c xs → AnswersMap 60 #[.agg #[.int .i64 W, .int .i64 H, .slice a n c]] wx H W lT
  radd : r2 = 0 → ∀ wx, AnyMap wx a n c xs → AnyMap wx a2 m c2 ys → Answers 61 #[.agg #[.int .i64 W, .int .i64 H, .slice a n c], .agg #[.int .i64 W2, .int .i64 H2, .slice a2 m c2]] wx r3 W H lA
  two : firstNZ [r, rb] = r2
  three : r2 ≠ 0 → r3 = r2

set_option maxHeartbeats 1600000 in
theorem lawFirst_any (b o n c : Nat) (zs : List Int) (hz : zs.length = n) (hm : n ≤ 4611686018427387904) (w : World)
    (hc : ∀ j, j < n → w.cell? ⟨b, o + j, none⟩ = some (.int .i64 (zs[j]?.getD 0))) :
    Calls Tryz.prog 21 #[.slice (some ⟨b, o, none⟩) n c] w fun e w' => e = .returned (.int .i64 (firstNZ zs)) ∧ w = w' := by
  have K := Lib.hid (refFirst_any b o n c zs hz hm w hc)
  clear hz hm hc
  go_enter Tryz.func21, Tryz.ntmps21
  go_wp2_with (go_at_call 111; refine K.out.mono ?_; rintro e w1 ⟨rfl, rfl⟩)
  go_ret
  exact ⟨rfl, rfl⟩

set_option maxRecDepth 1000000 in
/-- What is still to be shown where the walk stands ahead of region 3. -/
def Trn3 (w : World) (W H : Int) (a : Option Addr) (n c : Nat) (xs : List Nat) (W2 H2 : Int) (a2 : Option Addr) (m c2 : Nat) (ys : List Nat) (r rb r2 r3 : Int) (lF lT lA : List Int) : Prop :=
  ∀ (wx : World) (Ba : Nat) (Bb : Nat) (u5 u6 u7 u8 u9 u10 u11 u12 u13 u14 u15 u16 u17 u18 u19 u20 u21 u22 u23 u24 u25 u26 u27 u28 u29 u30 u31 u32 u33 u34 u35 u36 u37 u38 u39 u40 u41 u42 u43 u44 u45 u46 u47 u48 u49 u50 u51 u52 u53 u54 u55 u56 u57 u58 u59 u60 u61 u62 u63 u64 u65 u66 u67 u68 u69 u70 u71 u72 u73 u74 u75 u76 u77 u78 u79 u80 u81 u82 u83 u84 u85 u86 u87 : Value), (TK w W H a n c xs W2 H2 a2 m c2 ys wx Ba Bb) → Code.wp Tryz.prog (turnsOf 3) (bodyPost Tryz.prog Tryz.f6 (TruePost w)) ⟨#[.agg #[.int .i64 W, .int .i64 H, .slice a n c], .agg #[.int .i64 W2, .int .i64 H2, .slice a2 m c2], .pointer (some ⟨Ba, 0, none⟩), .pointer (some ⟨Bb, 0, none⟩), .bool false, u5, u6, u7, u8, u9, u10, u11, u12, u13, u14, u15, u16, u17, u18, u19, u20, u21, u22, u23, u24, u25, u26, u27, u28, u29, u30, u31, u32, u33, u34, u35, u36, u37, u38, u39, u40, u41, u42, u43, u44, u45, u46, u47, u48, u49, u50, u51, u52, u53, u54, u55, u56, u57, u58, u59, u60, u61, u62, u63, u64, u65, u66, u67, u68, u69, u70, u71, u72, u73, u74, u75, u76, u77, u78, u79, u80, u81, u82, u83, u84, u85, u86, u87], []⟩ wx

set_option maxRecDepth 1000000 in
/-- What is still to be shown where the walk stands ahead of region 4. -/
def Trn4 (w : World) (W H : Int) (a : Option Addr) (n c : Nat) (xs : List Nat) (W2 H2 : Int) (a2 : Option Addr) (m c2 : Nat) (ys : List Nat) (r rb r2 r3 : Int) (lF lT lA : List Int) : Prop :=
  ∀ (wx : World) (Ba : Nat) (Bb : Nat) (B5 : Nat) (u7 u8 u9 u10 u11 u12 u13 u14 u15 u16 u17 u18 u19 u20 u21 u22 u23 u24 u25 u26 u27 u28 u29 u30 u31 u32 u33 u34 u35 u36 u37 u38 u39 u40 u41 u42 u43 u44 u45 u46 u47 u48 u49 u50 u51 u52 u53 u54 u55 u56 u57 u58 u59 u60 u61 u62 u63 u64 u65 u66 u67 u68 u69 u70 u71 u72 u73 u74 u75 u76 u77 u78 u79 u80 u81 u82 u83 u84 u85 u86 u87 : Value), (TK w W H a n c xs W2 H2 a2 m c2 ys wx Ba Bb) → (ResBox wx B5 54 r W H lF) → Code.wp Tryz.prog (turnsOf 4) (bodyPost Tryz.prog Tryz.f6 (TruePost w)) ⟨#[.agg #[.int .i64 W, .int .i64 H, .slice a n c], .agg #[.int .i64 W2, .int .i64 H2, .slice a2 m c2], .pointer (some ⟨Ba, 0, none⟩), .pointer (some ⟨Bb, 0, none⟩), .bool false, .pointer (some ⟨B5, 0, none⟩), .int .i64 r, u7, u8, u9, u10, u11, u12, u13, u14, u15, u16, u17, u18, u19, u20, u21, u22, u23, u24, u25, u26, u27, u28, u29, u30, u31, u32, u33, u34, u35, u36, u37, u38, u39, u40, u41, u42, u43, u44, u45, u46, u47, u48, u49, u50, u51, u52, u53, u54, u55, u56, u57, u58, u59, u60, u61, u62, u63, u64, u65, u66, u67, u68, u69, u70, u71, u72, u73, u74, u75, u76, u77, u78, u79, u80, u81, u82, u83, u84, u85, u86, u87], []⟩ wx

set_option maxRecDepth 1000000 in
/-- What is still to be shown where the walk stands ahead of region 5. -/
def Trn5 (w : World) (W H : Int) (a : Option Addr) (n c : Nat) (xs : List Nat) (W2 H2 : Int) (a2 : Option Addr) (m c2 : Nat) (ys : List Nat) (r rb r2 r3 : Int) (lF lT lA : List Int) : Prop :=
  ∀ (wx : World) (Ba : Nat) (Bb : Nat) (B5 : Nat) (B7 : Nat) (u9 u10 u11 u12 u13 u14 u15 u16 u17 u18 u19 u20 u21 u22 u23 u24 u25 u26 u27 u28 u29 u30 u31 u32 u33 u34 u35 u36 u37 u38 u39 u40 u41 u42 u43 u44 u45 u46 u47 u48 u49 u50 u51 u52 u53 u54 u55 u56 u57 u58 u59 u60 u61 u62 u63 u64 u65 u66 u67 u68 u69 u70 u71 u72 u73 u74 u75 u76 u77 u78 u79 u80 u81 u82 u83 u84 u85 u86 u87 : Value), (TK w W H a n c xs W2 H2 a2 m c2 ys wx Ba Bb) → (ResBox wx B5 54 r W H lF) → (ResBox wx B7 54 r H W lT) → Code.wp Tryz.prog (turnsOf 5) (bodyPost Tryz.prog Tryz.f6 (TruePost w)) ⟨#[.agg #[.int .i64 W, .int .i64 H, .slice a n c], .agg #[.int .i64 W2, .int .i64 H2, .slice a2 m c2], .pointer (some ⟨Ba, 0, none⟩), .pointer (some ⟨Bb, 0, none⟩), .bool false, .pointer (some ⟨B5, 0, none⟩), .int .i64 r, .pointer (some ⟨B7, 0, none⟩), .int .i64 r, u9, u10, u11, u12, u13, u14, u15, u16, u17, u18, u19, u20, u21, u22, u23, u24, u25, u26, u27, u28, u29, u30, u31, u32, u33, u34, u35, u36, u37, u38, u39, u40, u41, u42, u43, u44, u45, u46, u47, u48, u49, u50, u51, u52, u53, u54, u55, u56, u57, u58, u59, u60, u61, u62, u63, u64, u65, u66, u67, u68, u69, u70, u71, u72, u73, u74, u75, u76, u77, u78, u79, u80, u81, u82, u83, u84, u85, u86, u87], []⟩ wx

set_option maxRecDepth 1000000 in
/-- What is still to be shown where the walk stands ahead of region 6. -/
def Trn6 (w : World) (W H : Int) (a : Option Addr) (n c : Nat) (xs : List Nat) (W2 H2 : Int) (a2 : Option Addr) (m c2 : Nat) (ys : List Nat) (r rb r2 r3 : Int) (lF lT lA : List Int) : Prop :=
  ∀ (wx : World) (Ba : Nat) (Bb : Nat) (B5 : Nat) (B7 : Nat) (B9 : Nat) (u11 u12 u13 u14 u15 u16 u17 u18 u19 u20 u21 u22 u23 u24 u25 u26 u27 u28 u29 u30 u31 u32 u33 u34 u35 u36 u37 u38 u39 u40 u41 u42 u43 u44 u45 u46 u47 u48 u49 u50 u51 u52 u53 u54 u55 u56 u57 u58 u59 u60 u61 u62 u63 u64 u65 u66 u67 u68 u69 u70 u71 u72 u73 u74 u75 u76 u77 u78 u79 u80 u81 u82 u83 u84 u85 u86 u87 : Value), (TK w W H a n c xs W2 H2 a2 m c2 ys wx Ba Bb) → (ResBox wx B5 54 r W H lF) → (ResBox wx B7 54 r H W lT) → (ResBox wx B9 54 r3 W H lA) → Code.wp Tryz.prog (turnsOf 6) (bodyPost Tryz.prog Tryz.f6 (TruePost w)) ⟨#[.agg #[.int .i64 W, .int .i64 H, .slice a n c], .agg #[.int .i64 W2, .int .i64 H2, .slice a2 m c2], .pointer (some ⟨Ba, 0, none⟩), .pointer (some ⟨Bb, 0, none⟩), .bool false, .pointer (some ⟨B5, 0, none⟩), .int .i64 r, .pointer (some ⟨B7, 0, none⟩), .int .i64 r, .pointer (some ⟨B9, 0, none⟩), .int .i64 r3, u11, u12, u13, u14, u15, u16, u17, u18, u19, u20, u21, u22, u23, u24, u25, u26, u27, u28, u29, u30, u31, u32, u33, u34, u35, u36, u37, u38, u39, u40, u41, u42, u43, u44, u45, u46, u47, u48, u49, u50, u51, u52, u53, u54, u55, u56, u57, u58, u59, u60, u61, u62, u63, u64, u65, u66, u67, u68, u69, u70, u71, u72, u73, u74, u75, u76, u77, u78, u79, u80, u81, u82, u83, u84, u85, u86, u87], []⟩ wx

set_option maxRecDepth 1000000 in
/-- What is still to be shown where the walk stands ahead of region 7. -/
def Trn7 (w : World) (W H : Int) (a : Option Addr) (n c : Nat) (xs : List Nat) (W2 H2 : Int) (a2 : Option Addr) (m c2 : Nat) (ys : List Nat) (r rb r2 r3 : Int) (lF lT lA : List Int) : Prop :=
  ∀ (wx : World) (Ba : Nat) (Bb : Nat) (B5 : Nat) (B7 : Nat) (B9 : Nat) (u12 u13 u14 u15 u16 u17 u18 u19 u20 u21 u22 u23 u24 u25 u26 u27 u28 u29 u30 u31 u32 u33 u34 u35 u36 u37 u38 u39 u40 u41 u42 u43 u44 u45 u46 u47 u48 u49 u50 u51 u52 u53 u54 u55 u56 u57 u58 u59 u60 u61 u62 u63 u64 u65 u66 u67 u68 u69 u70 u71 u72 u73 u74 u75 u76 u77 u78 u79 u80 u81 u82 u83 u84 u85 u86 u87 : Value), (TK w W H a n c xs W2 H2 a2 m c2 ys wx Ba Bb) → (ResBox wx B5 54 r W H lF) → (ResBox wx B7 54 r H W lT) → (ResBox wx B9 54 r3 W H lA) → Code.wp Tryz.prog (turnsOf 7) (bodyPost Tryz.prog Tryz.f6 (TruePost w)) ⟨#[.agg #[.int .i64 W, .int .i64 H, .slice a n c], .agg #[.int .i64 W2, .int .i64 H2, .slice a2 m c2], .pointer (some ⟨Ba, 0, none⟩), .pointer (some ⟨Bb, 0, none⟩), .bool false, .pointer (some ⟨B5, 0, none⟩), .int .i64 r, .pointer (some ⟨B7, 0, none⟩), .int .i64 r, .pointer (some ⟨B9, 0, none⟩), .int .i64 r3, .int .i64 r, u12, u13, u14, u15, u16, u17, u18, u19, u20, u21, u22, u23, u24, u25, u26, u27, u28, u29, u30, u31, u32, u33, u34, u35, u36, u37, u38, u39, u40, u41, u42, u43, u44, u45, u46, u47, u48, u49, u50, u51, u52, u53, u54, u55, u56, u57, u58, u59, u60, u61, u62, u63, u64, u65, u66, u67, u68, u69, u70, u71, u72, u73, u74, u75, u76, u77, u78, u79, u80, u81, u82, u83, u84, u85, u86, u87], []⟩ wx

set_option maxRecDepth 1000000 in
/-- What is still to be shown where the walk stands ahead of region 8. -/
def Trn8 (w : World) (W H : Int) (a : Option Addr) (n c : Nat) (xs : List Nat) (W2 H2 : Int) (a2 : Option Addr) (m c2 : Nat) (ys : List Nat) (r rb r2 r3 : Int) (lF lT lA : List Int) : Prop :=
  ∀ (wx : World) (Ba : Nat) (Bb : Nat) (B5 : Nat) (B7 : Nat) (B9 : Nat) (u13 u14 u15 u16 u17 u18 u19 u20 u21 u22 u23 u24 u25 u26 u27 u28 u29 u30 u31 u32 u33 u34 u35 u36 u37 u38 u39 u40 u41 u42 u43 u44 u45 u46 u47 u48 u49 u50 u51 u52 u53 u54 u55 u56 u57 u58 u59 u60 u61 u62 u63 u64 u65 u66 u67 u68 u69 u70 u71 u72 u73 u74 u75 u76 u77 u78 u79 u80 u81 u82 u83 u84 u85 u86 u87 : Value), (TK w W H a n c xs W2 H2 a2 m c2 ys wx Ba Bb) → (ResBox wx B5 54 r W H lF) → (ResBox wx B7 54 r H W lT) → (ResBox wx B9 54 r3 W H lA) → Code.wp Tryz.prog (turnsOf 8) (bodyPost Tryz.prog Tryz.f6 (TruePost w)) ⟨#[.agg #[.int .i64 W, .int .i64 H, .slice a n c], .agg #[.int .i64 W2, .int .i64 H2, .slice a2 m c2], .pointer (some ⟨Ba, 0, none⟩), .pointer (some ⟨Bb, 0, none⟩), .bool false, .pointer (some ⟨B5, 0, none⟩), .int .i64 r, .pointer (some ⟨B7, 0, none⟩), .int .i64 r, .pointer (some ⟨B9, 0, none⟩), .int .i64 r3, .int .i64 r, .int .i64 r2, u13, u14, u15, u16, u17, u18, u19, u20, u21, u22, u23, u24, u25, u26, u27, u28, u29, u30, u31, u32, u33, u34, u35, u36, u37, u38, u39, u40, u41, u42, u43, u44, u45, u46, u47, u48, u49, u50, u51, u52, u53, u54, u55, u56, u57, u58, u59, u60, u61, u62, u63, u64, u65, u66, u67, u68, u69, u70, u71, u72, u73, u74, u75, u76, u77, u78, u79, u80, u81, u82, u83, u84, u85, u86, u87], []⟩ wx

set_option maxRecDepth 1000000 in
/-- What is still to be shown where the walk stands ahead of region 9. -/
def Trn9 (w : World) (W H : Int) (a : Option Addr) (n c : Nat) (xs : List Nat) (W2 H2 : Int) (a2 : Option Addr) (m c2 : Nat) (ys : List Nat) (r rb r2 r3 : Int) (lF lT lA : List Int) : Prop :=
  ∀ (wx : World) (w8 : World) (Ba : Nat) (Bb : Nat) (B5 : Nat) (B7 : Nat) (B9 : Nat) (u16 u17 u18 u19 u20 u21 u22 u23 u24 u25 u26 u27 u28 u29 u30 u31 u32 u33 u34 u35 u36 u37 u38 u39 u40 u41 u42 u43 u44 u45 u46 u47 u48 u49 u50 u51 u52 u53 u54 u55 u56 u57 u58 u59 u60 u61 u62 u63 u64 u65 u66 u67 u68 u69 u70 u71 u72 u73 u74 u75 u76 u77 u78 u79 u80 u81 u82 u83 u84 u85 u86 u87 : Value), (TK w W H a n c xs W2 H2 a2 m c2 ys w8 Ba Bb) → (ResBox w8 B5 54 r W H lF) → (ResBox w8 B7 54 r H W lT) → (ResBox w8 B9 54 r3 W H lA) → (Below w8.heap.size w8 wx) → (wx.heap[w8.heap.size]? = some (.cells #[.int .i64 0, .int .i64 0, .slice none 0 0] 48 (0, 0))) → (wx.heap[w8.heap.size + 1]? = some (.cells #[.int .i64 0, .int .i64 0, .slice none 0 0] 48 (0, 0))) → (wx.heap[w8.heap.size + 1 + 1]? = some (.cells #[.int .i64 0, .int .i64 0, .slice none 0 0] 48 (0, 0))) → Code.wp Tryz.prog (turnsOf 9) (bodyPost Tryz.prog Tryz.f6 (TruePost w)) ⟨#[.agg #[.int .i64 W, .int .i64 H, .slice a n c], .agg #[.int .i64 W2, .int .i64 H2, .slice a2 m c2], .pointer (some ⟨Ba, 0, none⟩), .pointer (some ⟨Bb, 0, none⟩), .bool false, .pointer (some ⟨B5, 0, none⟩), .int .i64 r, .pointer (some ⟨B7, 0, none⟩), .int .i64 r, .pointer (some ⟨B9, 0, none⟩), .int .i64 r3, .int .i64 r, .int .i64 r2, .pointer (some ⟨w8.heap.size, 0, none⟩), .pointer (some ⟨w8.heap.size + 1, 0, none⟩), .pointer (some ⟨w8.heap.size + 1 + 1, 0, none⟩), u16, u17, u18, u19, u20, u21, u22, u23, u24, u25, u26, u27, u28, u29, u30, u31, u32, u33, u34, u35, u36, u37, u38, u39, u40, u41, u42, u43, u44, u45, u46, u47, u48, u49, u50, u51, u52, u53, u54, u55, u56, u57, u58, u59, u60, u61, u62, u63, u64, u65, u66, u67, u68, u69, u70, u71, u72, u73, u74, u75, u76, u77, u78, u79, u80, u81, u82, u83, u84, u85, u86, u87], []⟩ wx

set_option maxRecDepth 1000000 in
/-- What is still to be shown where the walk stands ahead of region 11. -/
def Trn11 (w : World) (W H : Int) (a : Option Addr) (n c : Nat) (xs : List Nat) (W2 H2 : Int) (a2 : Option Addr) (m c2 : Nat) (ys : List Nat) (r rb r2 r3 : Int) (lF lT lA : List Int) : Prop :=
  ∀ (wx : World) (w8 : World) (Ba : Nat) (Bb : Nat) (B5 : Nat) (B7 : Nat) (B9 : Nat) (u16 u17 u18 u19 u20 u21 u22 u23 u24 u25 u26 u27 u28 u29 u30 u31 u32 u33 u34 u35 u36 u37 u38 u39 u40 u41 u42 u43 u44 u45 u46 u47 u48 u49 u50 u51 u52 u53 u54 u55 u56 u57 u58 u59 u60 u61 u62 u63 u64 u65 u66 u67 u68 u69 u70 u71 u72 u73 u74 u75 u76 u77 u78 u79 u80 u81 u82 u83 u84 u85 u86 u87 : Value), (TK w W H a n c xs W2 H2 a2 m c2 ys w8 Ba Bb) → (ResBox w8 B5 54 r W H lF) → (ResBox w8 B7 54 r H W lT) → (ResBox w8 B9 54 r3 W H lA) → (Below w8.heap.size w8 wx) → (WantBox wx w8.heap.size r W H lF) → (WantBox wx (w8.heap.size + 1) r H W lT) → (wx.heap[w8.heap.size + 1 + 1]? = some (.cells #[.int .i64 0, .int .i64 0, .slice none 0 0] 48 (0, 0))) → Code.wp Tryz.prog (turnsOf 11) (bodyPost Tryz.prog Tryz.f6 (TruePost w)) ⟨#[.agg #[.int .i64 W, .int .i64 H, .slice a n c], .agg #[.int .i64 W2, .int .i64 H2, .slice a2 m c2], .pointer (some ⟨Ba, 0, none⟩), .pointer (some ⟨Bb, 0, none⟩), .bool false, .pointer (some ⟨B5, 0, none⟩), .int .i64 r, .pointer (some ⟨B7, 0, none⟩), .int .i64 r, .pointer (some ⟨B9, 0, none⟩), .int .i64 r3, .int .i64 r, .int .i64 r2, .pointer (some ⟨w8.heap.size, 0, none⟩), .pointer (some ⟨w8.heap.size + 1, 0, none⟩), .pointer (some ⟨w8.heap.size + 1 + 1, 0, none⟩), u16, u17, u18, u19, u20, u21, u22, u23, u24, u25, u26, u27, u28, u29, u30, u31, u32, u33, u34, u35, u36, u37, u38, u39, u40, u41, u42, u43, u44, u45, u46, u47, u48, u49, u50, u51, u52, u53, u54, u55, u56, u57, u58, u59, u60, u61, u62, u63, u64, u65, u66, u67, u68, u69, u70, u71, u72, u73, u74, u75, u76, u77, u78, u79, u80, u81, u82, u83, u84, u85, u86, u87], []⟩ wx

set_option maxRecDepth 1000000 in
/-- What is still to be shown where the walk stands ahead of region 13. -/
def Trn13 (w : World) (W H : Int) (a : Option Addr) (n c : Nat) (xs : List Nat) (W2 H2 : Int) (a2 : Option Addr) (m c2 : Nat) (ys : List Nat) (r rb r2 r3 : Int) (lF lT lA : List Int) : Prop :=
  ∀ (wx : World) (w8 : World) (Ba : Nat) (Bb : Nat) (B5 : Nat) (B7 : Nat) (B9 : Nat) (u16 u17 u18 u19 u20 u21 u22 u23 u24 u25 u26 u27 u28 u29 u30 u31 u32 u33 u34 u35 u36 u37 u38 u39 u40 u41 u42 u43 u44 u45 u46 u47 u48 u49 u50 u51 u52 u53 u54 u55 u56 u57 u58 u59 u60 u61 u62 u63 u64 u65 u66 u67 u68 u69 u70 u71 u72 u73 u74 u75 u76 u77 u78 u79 u80 u81 u82 u83 u84 u85 u86 u87 : Value), (TK w W H a n c xs W2 H2 a2 m c2 ys w8 Ba Bb) → (ResBox w8 B5 54 r W H lF) → (ResBox w8 B7 54 r H W lT) → (ResBox w8 B9 54 r3 W H lA) → (Below w8.heap.size w8 wx) → (WantBox wx w8.heap.size r W H lF) → (WantBox wx (w8.heap.size + 1) r H W lT) → (WantBox wx (w8.heap.size + 1 + 1) r3 W H lA) → Code.wp Tryz.prog (turnsOf 13) (bodyPost Tryz.prog Tryz.f6 (TruePost w)) ⟨#[.agg #[.int .i64 W, .int .i64 H, .slice a n c], .agg #[.int .i64 W2, .int .i64 H2, .slice a2 m c2], .pointer (some ⟨Ba, 0, none⟩), .pointer (some ⟨Bb, 0, none⟩), .bool false, .pointer (some ⟨B5, 0, none⟩), .int .i64 r, .pointer (some ⟨B7, 0, none⟩), .int .i64 r, .pointer (some ⟨B9, 0, none⟩), .int .i64 r3, .int .i64 r, .int .i64 r3, .pointer (some ⟨w8.heap.size, 0, none⟩), .pointer (some ⟨w8.heap.size + 1, 0, none⟩), .pointer (some ⟨w8.heap.size + 1 + 1, 0, none⟩), u16, u17, u18, u19, u20, u21, u22, u23, u24, u25, u26, u27, u28, u29, u30, u31, u32, u33, u34, u35, u36, u37, u38, u39, u40, u41, u42, u43, u44, u45, u46, u47, u48, u49, u50, u51, u52, u53, u54, u55, u56, u57, u58, u59, u60, u61, u62, u63, u64, u65, u66, u67, u68, u69, u70, u71, u72, u73, u74, u75, u76, u77, u78, u79, u80, u81, u82, u83, u84, u85, u86, u87], []⟩ wx

set_option maxRecDepth 1000000 in
set_option maxHeartbeats 12800000 in
theorem turns3 (w : World) (W H : Int) (a : Option Addr) (n c : Nat) (xs : List Nat) (W2 H2 : Int) (a2 : Option Addr) (m c2 : Nat) (ys : List Nat) (r rb r2 r3 : Int) (lF lT lA : List Int) (hC : TurnsC W H a n c xs W2 H2 a2 m c2 ys r rb r2 r3 lF lT lA) (hT : Trn4 w W H a n c xs W2 H2 a2 m c2 ys r rb r2 r3 lF lT lA) : Trn3 w W H a n c xs W2 H2 a2 m c2 ys r rb r2 r3 lF lT lA := by
  unfold Trn3
  intro wx Ba Bb u5 u6 u7 u8 u9 u10 u11 u12 u13 u14 u15 u16 u17 u18 u19 u20 u21 u22 u23 u24 u25 u26 u27 u28 u29 u30 u31 u32 u33 u34 u35 u36 u37 u38 u39 u40 u41 u42 u43 u44 u45 u46 u47 u48 u49 u50 u51 u52 u53 u54 u55 u56 u57 u58 u59 u60 u61 u62 u63 u64 u65 u66 u67 u68 u69 u70 u71 u72 u73 u74 u75 u76 u77 u78 u79 u80 u81 u82 u83 u84 u85 u86 u87 hM
  conv => arg 2; whnf
  dsimp only
  go_upto_region 3 with fail
  go_cut [5, 6] (fun s5 s6 wr => (∃ B, s5 = .pointer (some ⟨B, 0, none⟩) ∧ ResBox wr B 54 r W H lF) ∧ s6 = .int .i64 r ∧ Below wx.heap.size wx wr)
  case first =>
    have hmap := hM.ma
    obtain ⟨c0, c1, c2⟩ := map_cells hM.ba
    have KO := Lib.hid (hC.owna wx hmap)
    have KA := Lib.hid hC.flip
    clear hC hT hmap
    go_wp2_with (first
      | (go_at_call 38; refine KO.out.mono ?_; rintro e w1 ⟨g, c', rfl, hm1, hb1⟩)
      | (go_at_call 56; refine (KA.out _ _ _ hm1).mono ?_; rintro e w2 ⟨X, Y, a', n', c'', rfl, hres, hb3⟩))
    go_meet
    exact ⟨⟨_, rfl, ResBox.new hres⟩, rfl, (hb1.trans (hb3.mono hb1.size)).alloc (hb1.trans (hb3.mono hb1.size)).size _⟩
  case rest =>
    rename_i hK
    obtain ⟨⟨Bn, rfl, hbx⟩, rfl, hb⟩ := hcut
    refine hK _ _ ?_
    clear hK
    unfold Trn4 at hT
    exact hT _  _ _ _ _ _ _ _ _ _ _ _ _ _ _ _ _ _ _ _ _ _ _ _ _ _ _ _ _ _ _ _ _ _ _ _ _ _ _ _ _ _ _ _ _ _ _ _ _ _ _ _ _ _ _ _ _ _ _ _ _ _ _ _ _ _ _ _ _ _ _ _ _ _ _ _ _ _ _ _ _ _ _ _ _  (hM.kept hb) hbx

set_option maxRecDepth 1000000 in
set_option maxHeartbeats 12800000 in
theorem turns4 (w : World) (W H : Int) (a : Option Addr) (n c : Nat) (xs : List Nat) (W2 H2 : Int) (a2 : Option Addr) (m c2 : Nat) (ys : List Nat) (r rb r2 r3 : Int) (lF lT lA : List Int) (hC : TurnsC W H a n c xs W2 H2 a2 m c2 ys r rb r2 r3 lF lT lA) (hT : Trn5 w W H a n c xs W2 H2 a2 m c2 ys r rb r2 r3 lF lT lA) : Trn4 w W H a n c xs W2 H2 a2 m c2 ys r rb r2 r3 lF lT lA := by
  unfold Trn4
  intro wx Ba Bb B5 u7 u8 u9 u10 u11 u12 u13 u14 u15 u16 u17 u18 u19 u20 u21 u22 u23 u24 u25 u26 u27 u28 u29 u30 u31 u32 u33 u34 u35 u36 u37 u38 u39 u40 u41 u42 u43 u44 u45 u46 u47 u48 u49 u50 u51 u52 u53 u54 u55 u56 u57 u58 u59 u60 u61 u62 u63 u64 u65 u66 u67 u68 u69 u70 u71 u72 u73 u74 u75 u76 u77 u78 u79 u80 u81 u82 u83 u84 u85 u86 u87 hM f5
  conv => arg 2; whnf
  dsimp only
  go_upto_region 4 with fail
  go_cut [7, 8] (fun s7 s8 wr => (∃ B, s7 = .pointer (some ⟨B, 0, none⟩) ∧ ResBox wr B 54 r H W lT) ∧ s8 = .int .i64 r ∧ Below wx.heap.size wx wr)
  case first =>
    have hmap := hM.ma
    obtain ⟨c0, c1, c2⟩ := map_cells hM.ba
    have KO := Lib.hid (hC.owna wx hmap)
    have KA := Lib.hid hC.turn
    clear hC hT hmap
    go_wp2_with (first
      | (go_at_call 38; refine KO.out.mono ?_; rintro e w1 ⟨g, c', rfl, hm1, hb1⟩)
      | (go_at_call 57; refine (KA.out _ _ _ hm1).mono ?_; rintro e w2 ⟨X, Y, a', n', c'', rfl, hres, hb3⟩))
    go_meet
    exact ⟨⟨_, rfl, ResBox.new hres⟩, rfl, (hb1.trans (hb3.mono hb1.size)).alloc (hb1.trans (hb3.mono hb1.size)).size _⟩
  case rest =>
    rename_i hK
    obtain ⟨⟨Bn, rfl, hbx⟩, rfl, hb⟩ := hcut
    refine hK _ _ ?_
    clear hK
    unfold Trn5 at hT
    exact hT _  _ _ _ _ _ _ _ _ _ _ _ _ _ _ _ _ _ _ _ _ _ _ _ _ _ _ _ _ _ _ _ _ _ _ _ _ _ _ _ _ _ _ _ _ _ _ _ _ _ _ _ _ _ _ _ _ _ _ _ _ _ _ _ _ _ _ _ _ _ _ _ _ _ _ _ _ _ _ _ _ _ _ _  (hM.kept hb) (f5.kept hb) hbx

set_option maxRecDepth 1000000 in
set_option maxHeartbeats 12800000 in
theorem turns5 (w : World) (W H : Int) (a : Option Addr) (n c : Nat) (xs : List Nat) (W2 H2 : Int) (a2 : Option Addr) (m c2 : Nat) (ys : List Nat) (r rb r2 r3 : Int) (lF lT lA : List Int) (hC : TurnsC W H a n c xs W2 H2 a2 m c2 ys r rb r2 r3 lF lT lA) (hT : Trn6 w W H a n c xs W2 H2 a2 m c2 ys r rb r2 r3 lF lT lA) : Trn5 w W H a n c xs W2 H2 a2 m c2 ys r rb r2 r3 lF lT lA := by
  unfold Trn5
  intro wx Ba Bb B5 B7 u9 u10 u11 u12 u13 u14 u15 u16 u17 u18 u19 u20 u21 u22 u23 u24 u25 u26 u27 u28 u29 u30 u31 u32 u33 u34 u35 u36 u37 u38 u39 u40 u41 u42 u43 u44 u45 u46 u47 u48 u49 u50 u51 u52 u53 u54 u55 u56 u57 u58 u59 u60 u61 u62 u63 u64 u65 u66 u67 u68 u69 u70 u71 u72 u73 u74 u75 u76 u77 u78 u79 u80 u81 u82 u83 u84 u85 u86 u87 hM f5 f7
  conv => arg 2; whnf
  dsimp only
  go_upto_region 5 with fail
  go_cut [9, 10] (fun s9 s10 wr => (∃ B, s9 = .pointer (some ⟨B, 0, none⟩) ∧ ResBox wr B 54 r3 W H lA) ∧ s10 = .int .i64 r3 ∧ Below wx.heap.size wx wr)
  case first =>
    have hla := lt_of_blk hM.ba
    have hlb := lt_of_blk hM.bb
    obtain ⟨c0, c1, c2'⟩ := map_cells hM.ba
    obtain ⟨d0, d1, d2⟩ := map_cells hM.bb
    have HMA := hM.ma
    have HMB := hM.mb
    have KOA : Hid (∀ w1 : World, Blw wx.heap.size wx w1 → Calls Tryz.prog 38 #[.agg #[.int .i64 W, .int .i64 H, .slice a n c]] w1 fun e w' =>
        ∃ g c', e = .returned (.agg #[.int .i64 W, .int .i64 H, .slice (some ⟨g, 0, none⟩) n c']) ∧ AnyMap w' (some ⟨g, 0, none⟩) n c' xs ∧ Below w1.heap.size w1 w' ∧ Below wx.heap.size wx w') :=
      Lib.hid (fun w1 (h : Below wx.heap.size wx w1) => (hC.owna w1 (HMA.below h (Nat.le_refl _))).mono fun e w' ⟨g, c', he, hm, hb⟩ => ⟨g, c', he, hm, hb, h.trans (hb.mono h.size)⟩)
    have KOB : Hid (∀ w1 : World, Blw wx.heap.size wx w1 → Calls Tryz.prog 38 #[.agg #[.int .i64 W2, .int .i64 H2, .slice a2 m c2]] w1 fun e w' =>
        ∃ g c', e = .returned (.agg #[.int .i64 W2, .int .i64 H2, .slice (some ⟨g, 0, none⟩) m c']) ∧ AnyMap w' (some ⟨g, 0, none⟩) m c' ys ∧ Below w1.heap.size w1 w' ∧ Below wx.heap.size wx w') :=
      Lib.hid (fun w1 (h : Below wx.heap.size wx w1) => (hC.ownb w1 (HMB.below h (Nat.le_refl _))).mono fun e w' ⟨g, c', he, hm, hb⟩ => ⟨g, c', he, hm, hb, h.trans (hb.mono h.size)⟩)
    have KA : Hid (∀ w1 g c' g2 c2', AnyMap w1 (some ⟨g, 0, none⟩) n c' xs → AnyMap w1 (some ⟨g2, 0, none⟩) m c2' ys → Blw wx.heap.size wx w1 → Calls Tryz.prog 58 #[.agg #[.int .i64 W, .int .i64 H, .slice (some ⟨g, 0, none⟩) n c'], .agg #[.int .i64 W2, .int .i64 H2, .slice (some ⟨g2, 0, none⟩) m c2']] w1 fun e w' =>
        ∃ X Y a' n' c'', e = .returned (.tuple #[.agg #[.int .i64 X, .int .i64 Y, .slice a' n' c''], .int .i64 r3]) ∧ ResV w' r3 W H lA X Y a' n' c'' ∧ Below w1.heap.size w1 w' ∧ Below wx.heap.size wx w') :=
      Lib.hid (fun w1 g c' g2 c2' h1 h2 (h : Below wx.heap.size wx w1) => (hC.add w1 g c' g2 c2' h1 h2).mono fun e w' ⟨X, Y, a', n', c'', he, hr, hb⟩ => ⟨X, Y, a', n', c'', he, hr, hb, h.trans (hb.mono h.size)⟩)
    clear hC hT hM HMA HMB f5 f7
    have hR : Blw wx.heap.size wx wx.drew := show Below _ _ _ from (Below.refl wx.heap.size wx).drew
    go_region_held3 (fun w' => w'.cell? ⟨Ba, 0, none⟩ = some (.int .i64 W) ∧ w'.cell? ⟨Ba, 1, none⟩ = some (.int .i64 H) ∧ w'.cell? ⟨Ba, 2, none⟩ = some (.slice a n c) ∧ w'.cell? ⟨Bb, 0, none⟩ = some (.int .i64 W2) ∧ w'.cell? ⟨Bb, 1, none⟩ = some (.int .i64 H2) ∧ w'.cell? ⟨Bb, 2, none⟩ = some (.slice a2 m c2) ∧ Blw wx.heap.size wx w')
      (first
        | (go_split_ands; refine ⟨?_, ?_, ?_, ?_, ?_, ?_, ?_⟩ <;> first | assumption | exact hb2 | ((rw [hb2.cell (by simp; try omega)]; assumption)))
        | (go_split_ands; refine ⟨?_, ?_, ?_, ?_, ?_, ?_, ?_⟩ <;> first | ((rw [(hb2.alloc hb2.size _).cell (by simp; try omega)]; assumption)) | exact (hb2.alloc hb2.size _ : Below _ _ _))
        | (go_split_ands; refine ⟨?_, ?_, ?_, ?_, ?_, ?_, ?_⟩ <;> first | ((refine Eq.trans (Below.cell (B := wx.heap.size) (w := wx) (below_set3 hb2 ?_ _ _ _) ?_) ?_ <;> first | assumption | omega | (simp; done) | (simp; omega)); done) | ((refine (below_set3 hb2 ?_ _ _ _ : Below _ _ _) <;> first | omega | (simp; done) | (simp; omega)); done))
        | (go_split_ands; refine ⟨?_, ?_, ?_, ?_, ?_, ?_, ?_⟩ <;> first | ((rw [((Below.refl wx.heap.size wx).alloc (Nat.le_refl _) _).drew.cell (by simp; try omega)]; assumption)) | exact (((Below.refl wx.heap.size wx).alloc (Nat.le_refl _) _).drew : Below _ _ _))
        | go_keep)
      (first
        | (go_at_call_of 38 (Value.agg #[.int .i64 W, .int .i64 H, .slice a n c]); refine (KOA.out _ ?_).mono ?_; rotate_left 1; rintro e wA ⟨ga, ca, rfl, hmA, hbA, hb2⟩; (obtain ⟨hcA, hfA⟩ := bcell hbA); (have hsA := hbA.size); (try simp at hsA); (try have hq0 : wx.heap.size < wA.heap.size := by omega); rotate_left 1; (simp [*]))
        | (go_at_call_of 38 (Value.agg #[.int .i64 W2, .int .i64 H2, .slice a2 m c2]); refine (KOB.out _ ?_).mono ?_; rotate_left 1; rintro e wB ⟨gb, cb, rfl, hmB, hbB, hb2⟩; (obtain ⟨hcB, hfB⟩ := bcell hbB); (have hsB := hbB.size); (try simp at hsB); (have hBB : Below wA.heap.size wA wB := by first | exact hbB | exact ((Below.refl _ wA).alloc (Nat.le_refl _) _).trans (hbB.mono (by simp))); (try have hq1 : wA.heap.size < wB.heap.size := by omega); (try have hq2 : wx.heap.size < wB.heap.size := by omega); rotate_left 1; (simp [*]))
        | (go_at_call 58; refine (KA.out _ _ _ _ _ (by first | exact hmA.below hBB (Nat.le_refl _) | exact hmA.below (hBB.alloc hBB.size _) (Nat.le_refl _)) (by first | exact hmB | exact hmB.below ((Below.refl _ wB).alloc (Nat.le_refl _) _) (Nat.le_refl _)) (by first | exact (hb2 : Below _ _ _) | exact (hb2.alloc hb2.size _ : Below _ _ _))).mono ?_; rintro e wC ⟨X, Y, a', n', c'', rfl, hres, hbC, hb2⟩; (obtain ⟨hcC, hfC⟩ := bcell hbC); (have hsC := hbC.size); (try simp at hsC); (try have hq3 : wB.heap.size < wC.heap.size := by omega); (try have hq4 : wA.heap.size < wC.heap.size := by omega); (try have hq5 : wx.heap.size < wC.heap.size := by omega)))
    all_goals go_wp2_with fail
    all_goals go_meet
    all_goals first
      | exact ⟨⟨_, rfl, ResBox.new hres⟩, rfl, hb2.alloc hb2.size _⟩
      | (have z := (hbC.block wB.heap.size (by simp)).trans (blk_alloc_new wB _); exact ⟨⟨_, rfl, ResBox.put z hres⟩, rfl, below_set3 hb2 (by omega) _ _ _⟩)
      | (have z := (hbC.block wA.heap.size (by omega)).trans ((hbB.block wA.heap.size (by simp)).trans (blk_alloc_new wA _)); exact ⟨⟨_, rfl, ResBox.put z hres⟩, rfl, below_set3 hb2 (by omega) _ _ _⟩)
      | (have z := (hbC.block wx.heap.size (by omega)).trans ((hbB.block wx.heap.size (by omega)).trans ((hbA.block wx.heap.size (by simp)).trans (blk_alloc_new wx _))); exact ⟨⟨_, rfl, ResBox.put z hres⟩, rfl, below_set3 hb2 (by omega) _ _ _⟩)
  case rest =>
    rename_i hK
    obtain ⟨⟨Bn, rfl, hbx⟩, rfl, hb⟩ := hcut
    refine hK _ _ ?_
    clear hK
    unfold Trn6 at hT
    exact hT _  _ _ _ _ _ _ _ _ _ _ _ _ _ _ _ _ _ _ _ _ _ _ _ _ _ _ _ _ _ _ _ _ _ _ _ _ _ _ _ _ _ _ _ _ _ _ _ _ _ _ _ _ _ _ _ _ _ _ _ _ _ _ _ _ _ _ _ _ _ _ _ _ _ _ _ _ _ _ _ _ _ _  (hM.kept hb) (f5.kept hb) (f7.kept hb) hbx

set_option maxRecDepth 1000000 in
set_option maxHeartbeats 12800000 in
theorem turns6 (w : World) (W H : Int) (a : Option Addr) (n c : Nat) (xs : List Nat) (W2 H2 : Int) (a2 : Option Addr) (m c2 : Nat) (ys : List Nat) (r rb r2 r3 : Int) (lF lT lA : List Int) (hC : TurnsC W H a n c xs W2 H2 a2 m c2 ys r rb r2 r3 lF lT lA) (hT : Trn7 w W H a n c xs W2 H2 a2 m c2 ys r rb r2 r3 lF lT lA) : Trn6 w W H a n c xs W2 H2 a2 m c2 ys r rb r2 r3 lF lT lA := by
  unfold Trn6
  intro wx Ba Bb B5 B7 B9 u11 u12 u13 u14 u15 u16 u17 u18 u19 u20 u21 u22 u23 u24 u25 u26 u27 u28 u29 u30 u31 u32 u33 u34 u35 u36 u37 u38 u39 u40 u41 u42 u43 u44 u45 u46 u47 u48 u49 u50 u51 u52 u53 u54 u55 u56 u57 u58 u59 u60 u61 u62 u63 u64 u65 u66 u67 u68 u69 u70 u71 u72 u73 u74 u75 u76 u77 u78 u79 u80 u81 u82 u83 u84 u85 u86 u87 hM f5 f7 f9
  conv => arg 2; whnf
  dsimp only
  go_upto_region 6 with fail
  go_cut [11] (fun s11 wr => s11 = .int .i64 r ∧ Below wx.heap.size wx wr)
  case first =>
    have hmap := hM.ma
    obtain ⟨c0, c1, c2⟩ := map_cells hM.ba
    have KR := Lib.hid (hC.chka wx hmap)
    clear hC hT hmap
    go_wp2_with (go_at_call 41; refine KR.out.mono ?_; rintro e w1 ⟨rfl, hb1⟩)
    go_meet
    exact ⟨rfl, hb1⟩
  case rest =>
    rename_i hK
    obtain ⟨rfl, hb⟩ := hcut
    refine hK _ _ ?_
    clear hK
    unfold Trn7 at hT
    exact hT _  _ _ _ _ _ _ _ _ _ _ _ _ _ _ _ _ _ _ _ _ _ _ _ _ _ _ _ _ _ _ _ _ _ _ _ _ _ _ _ _ _ _ _ _ _ _ _ _ _ _ _ _ _ _ _ _ _ _ _ _ _ _ _ _ _ _ _ _ _ _ _ _ _ _ _ _ _ _ _ _ _  (hM.kept hb) (f5.kept hb) (f7.kept hb) (f9.kept hb)

set_option maxRecDepth 1000000 in
set_option maxHeartbeats 12800000 in
theorem turns7 (w : World) (W H : Int) (a : Option Addr) (n c : Nat) (xs : List Nat) (W2 H2 : Int) (a2 : Option Addr) (m c2 : Nat) (ys : List Nat) (r rb r2 r3 : Int) (lF lT lA : List Int) (hC : TurnsC W H a n c xs W2 H2 a2 m c2 ys r rb r2 r3 lF lT lA) (hT : Trn8 w W H a n c xs W2 H2 a2 m c2 ys r rb r2 r3 lF lT lA) : Trn7 w W H a n c xs W2 H2 a2 m c2 ys r rb r2 r3 lF lT lA := by
  unfold Trn7
  intro wx Ba Bb B5 B7 B9 u12 u13 u14 u15 u16 u17 u18 u19 u20 u21 u22 u23 u24 u25 u26 u27 u28 u29 u30 u31 u32 u33 u34 u35 u36 u37 u38 u39 u40 u41 u42 u43 u44 u45 u46 u47 u48 u49 u50 u51 u52 u53 u54 u55 u56 u57 u58 u59 u60 u61 u62 u63 u64 u65 u66 u67 u68 u69 u70 u71 u72 u73 u74 u75 u76 u77 u78 u79 u80 u81 u82 u83 u84 u85 u86 u87 hM f5 f7 f9
  conv => arg 2; whnf
  dsimp only
  go_upto_region 7 with fail
  go_cut [12] (fun s12 wr => s12 = .int .i64 r2 ∧ Below wx.heap.size wx wr)
  case first =>
    have hmap := hM.mb
    obtain ⟨c0, c1, c2'⟩ := map_cells hM.bb
    have KR := Lib.hid (hC.chkb wx hmap)
    have HR := Lib.hid hC.two
    clear hC hT hmap
    go_wp2_with (first
      | (go_at_call 41; refine KR.out.mono ?_; rintro e w1 ⟨rfl, hb1⟩)
      | ((go_at_call 21; refine (lawFirst_any _ 0 2 2 [r, rb] rfl (by omega) _ ?_).mono ?_; rotate_left 1; rintro e w' ⟨rfl, rfl⟩; rw [HR.out]; rotate_left 1; (intro j hj; match j, hj with | 0, _ => simp [go_sem] | 1, _ => simp [go_sem]))))
    go_meet
    exact ⟨rfl, hb1.alloc hb1.size _⟩
  case rest =>
    rename_i hK
    obtain ⟨rfl, hb⟩ := hcut
    refine hK _ _ ?_
    clear hK
    unfold Trn8 at hT
    exact hT _  _ _ _ _ _ _ _ _ _ _ _ _ _ _ _ _ _ _ _ _ _ _ _ _ _ _ _ _ _ _ _ _ _ _ _ _ _ _ _ _ _ _ _ _ _ _ _ _ _ _ _ _ _ _ _ _ _ _ _ _ _ _ _ _ _ _ _ _ _ _ _ _ _ _ _ _ _ _ _ _  (hM.kept hb) (f5.kept hb) (f7.kept hb) (f9.kept hb)

set_option maxRecDepth 1000000 in
set_option maxHeartbeats 12800000 in
theorem turns8 (w : World) (W H : Int) (a : Option Addr) (n c : Nat) (xs : List Nat) (W2 H2 : Int) (a2 : Option Addr) (m c2 : Nat) (ys : List Nat) (r rb r2 r3 : Int) (lF lT lA : List Int) (hC : TurnsC W H a n c xs W2 H2 a2 m c2 ys r rb r2 r3 lF lT lA) (hT : Trn9 w W H a n c xs W2 H2 a2 m c2 ys r rb r2 r3 lF lT lA) : Trn8 w W H a n c xs W2 H2 a2 m c2 ys r rb r2 r3 lF lT lA := by
  unfold Trn8
  intro wx Ba Bb B5 B7 B9 u13 u14 u15 u16 u17 u18 u19 u20 u21 u22 u23 u24 u25 u26 u27 u28 u29 u30 u31 u32 u33 u34 u35 u36 u37 u38 u39 u40 u41 u42 u43 u44 u45 u46 u47 u48 u49 u50 u51 u52 u53 u54 u55 u56 u57 u58 u59 u60 u61 u62 u63 u64 u65 u66 u67 u68 u69 u70 u71 u72 u73 u74 u75 u76 u77 u78 u79 u80 u81 u82 u83 u84 u85 u86 u87 hM f5 f7 f9
  conv => arg 2; whnf
  dsimp only
  go_upto_region 8 with fail
  go_cut [13, 14, 15] (fun s13 s14 s15 wr => s13 = .pointer (some ⟨wx.heap.size, 0, none⟩) ∧ s14 = .pointer (some ⟨wx.heap.size + 1, 0, none⟩) ∧ s15 = .pointer (some ⟨wx.heap.size + 1 + 1, 0, none⟩) ∧ Below wx.heap.size wx wr ∧ wr.heap[wx.heap.size]? = some (.cells #[.int .i64 0, .int .i64 0, .slice none 0 0] 48 (0, 0)) ∧ wr.heap[wx.heap.size + 1]? = some (.cells #[.int .i64 0, .int .i64 0, .slice none 0 0] 48 (0, 0)) ∧ wr.heap[wx.heap.size + 1 + 1]? = some (.cells #[.int .i64 0, .int .i64 0, .slice none 0 0] 48 (0, 0)))
  case first =>
    clear hC hT
    have q1 : Below wx.heap.size wx (((wx.alloc (.cells #[.int .i64 0, .int .i64 0, .slice none 0 0] 48)).alloc (.cells #[.int .i64 0, .int .i64 0, .slice none 0 0] 48)).alloc (.cells #[.int .i64 0, .int .i64 0, .slice none 0 0] 48)) := (((Below.refl _ wx).alloc (Nat.le_refl _) _).alloc (by simp) _).alloc (by simp; omega) _
    have q2 : (((wx.alloc (.cells #[.int .i64 0, .int .i64 0, .slice none 0 0] 48)).alloc (.cells #[.int .i64 0, .int .i64 0, .slice none 0 0] 48)).alloc (.cells #[.int .i64 0, .int .i64 0, .slice none 0 0] 48)).heap[wx.heap.size]? = some (.cells #[.int .i64 0, .int .i64 0, .slice none 0 0] 48 (0, 0)) := blk_alloc_other (blk_alloc_other (blk_alloc_new _ _) _) _
    have q3 : (((wx.alloc (.cells #[.int .i64 0, .int .i64 0, .slice none 0 0] 48)).alloc (.cells #[.int .i64 0, .int .i64 0, .slice none 0 0] 48)).alloc (.cells #[.int .i64 0, .int .i64 0, .slice none 0 0] 48)).heap[wx.heap.size + 1]? = some (.cells #[.int .i64 0, .int .i64 0, .slice none 0 0] 48 (0, 0)) := blk_alloc_other (blk_alloc_new1 _ _ _) _
    have q4 : (((wx.alloc (.cells #[.int .i64 0, .int .i64 0, .slice none 0 0] 48)).alloc (.cells #[.int .i64 0, .int .i64 0, .slice none 0 0] 48)).alloc (.cells #[.int .i64 0, .int .i64 0, .slice none 0 0] 48)).heap[wx.heap.size + 1 + 1]? = some (.cells #[.int .i64 0, .int .i64 0, .slice none 0 0] 48 (0, 0)) := by
      have h := blk_alloc_new ((wx.alloc (.cells #[.int .i64 0, .int .i64 0, .slice none 0 0] 48)).alloc (.cells #[.int .i64 0, .int .i64 0, .slice none 0 0] 48)) (.cells #[.int .i64 0, .int .i64 0, .slice none 0 0] 48)
      simpa using h
    go_wp2_with fail
    go_meet
    exact ⟨rfl, rfl, rfl, q1, q2, q3, q4⟩
  case rest =>
    rename_i hK
    obtain ⟨rfl, rfl, rfl, hb, q2, q3, q4⟩ := hcut
    refine hK _ _ ?_
    clear hK
    unfold Trn9 at hT
    exact hT _ wx _ _ _ _ _ _ _ _ _ _ _ _ _ _ _ _ _ _ _ _ _ _ _ _ _ _ _ _ _ _ _ _ _ _ _ _ _ _ _ _ _ _ _ _ _ _ _ _ _ _ _ _ _ _ _ _ _ _ _ _ _ _ _ _ _ _ _ _ _ _ _ _ _ _ _ _ _  hM f5 f7 f9 hb q2 q3 q4

set_option maxRecDepth 1000000 in
set_option maxHeartbeats 12800000 in
theorem turns9_bad (w : World) (W H : Int) (a : Option Addr) (n c : Nat) (xs : List Nat) (W2 H2 : Int) (a2 : Option Addr) (m c2 : Nat) (ys : List Nat) (r rb r2 r3 : Int) (lF lT lA : List Int) (hC : TurnsC W H a n c xs W2 H2 a2 m c2 ys r rb r2 r3 lF lT lA) (h : r ≠ 0) (hT : Trn11 w W H a n c xs W2 H2 a2 m c2 ys r rb r2 r3 lF lT lA) : Trn9 w W H a n c xs W2 H2 a2 m c2 ys r rb r2 r3 lF lT lA := by
  unfold Trn9
  intro wx w8 Ba Bb B5 B7 B9 u16 u17 u18 u19 u20 u21 u22 u23 u24 u25 u26 u27 u28 u29 u30 u31 u32 u33 u34 u35 u36 u37 u38 u39 u40 u41 u42 u43 u44 u45 u46 u47 u48 u49 u50 u51 u52 u53 u54 u55 u56 u57 u58 u59 u60 u61 u62 u63 u64 u65 u66 u67 u68 u69 u70 u71 u72 u73 u74 u75 u76 u77 u78 u79 u80 u81 u82 u83 u84 u85 u86 u87 hM f5 f7 f9 hb8 z13 z14 z15
  conv => arg 2; whnf
  dsimp only
  have e0 : (r == 0) = false := by simp [h]
  go_upto_region 9 with fail
  go_cut [53] (fun s53 wr => s53 = .bool false ∧ wx = wr)
  case first =>
    clear hT hC
    go_wp2_with fail
    go_meet
    exact ⟨rfl, rfl⟩
  case rest =>
    rename_i K1 hK1 K0 hK
    obtain ⟨rfl, rfl⟩ := hcut
    refine hK _ _ ?_
    clear hK e0
    have HK1 := Lib.hid hK1
    clear hK1
    go_wp2_with fail
    refine HK1.out _ _ ?_
    unfold Trn11 at hT
    exact hT _ w8 _ _ _ _ _ _ _ _ _ _ _ _ _ _ _ _ _ _ _ _ _ _ _ _ _ _ _ _ _ _ _ _ _ _ _ _ _ _ _ _ _ _ _ _ _ _ _ _ _ _ _ _ _ _ _ _ _ _ _ _ _ _ _ _ _ _ _ _ _ _ _ _ _ _ _ _ _ hM f5 f7 f9 hb8 (.zero z13 h) (.zero z14 h) z15

set_option maxRecDepth 1000000 in
set_option maxHeartbeats 12800000 in
theorem turns11_bad (w : World) (W H : Int) (a : Option Addr) (n c : Nat) (xs : List Nat) (W2 H2 : Int) (a2 : Option Addr) (m c2 : Nat) (ys : List Nat) (r rb r2 r3 : Int) (lF lT lA : List Int) (hC : TurnsC W H a n c xs W2 H2 a2 m c2 ys r rb r2 r3 lF lT lA) (h : r2 ≠ 0) (hT : Trn13 w W H a n c xs W2 H2 a2 m c2 ys r rb r2 r3 lF lT lA) : Trn11 w W H a n c xs W2 H2 a2 m c2 ys r rb r2 r3 lF lT lA := by
  unfold Trn11
  intro wx w8 Ba Bb B5 B7 B9 u16 u17 u18 u19 u20 u21 u22 u23 u24 u25 u26 u27 u28 u29 u30 u31 u32 u33 u34 u35 u36 u37 u38 u39 u40 u41 u42 u43 u44 u45 u46 u47 u48 u49 u50 u51 u52 u53 u54 u55 u56 u57 u58 u59 u60 u61 u62 u63 u64 u65 u66 u67 u68 u69 u70 u71 u72 u73 u74 u75 u76 u77 u78 u79 u80 u81 u82 u83 u84 u85 u86 u87 hM f5 f7 f9 hb8 wF wT z15
  conv => arg 2; whnf
  dsimp only
  have e0 : (r2 == 0) = false := by simp [h]
  go_upto_region 11 with fail
  go_cut [59] (fun s59 wr => s59 = .bool false ∧ wx = wr)
  case first =>
    clear hT hC
    go_wp2_with fail
    go_meet
    exact ⟨rfl, rfl⟩
  case rest =>
    rename_i K1 hK1 K0 hK
    obtain ⟨rfl, rfl⟩ := hcut
    refine hK _ _ ?_
    clear hK e0
    have HK1 := Lib.hid hK1
    clear hK1
    go_wp2_with fail
    refine HK1.out _ _ ?_
    have h3 := hC.three h
    subst h3
    unfold Trn13 at hT
    exact hT _ w8 _ _ _ _ _ _ _ _ _ _ _ _ _ _ _ _ _ _ _ _ _ _ _ _ _ _ _ _ _ _ _ _ _ _ _ _ _ _ _ _ _ _ _ _ _ _ _ _ _ _ _ _ _ _ _ _ _ _ _ _ _ _ _ _ _ _ _ _ _ _ _ _ _ _ _ _ _ hM f5 f7 f9 hb8 wF wT (.zero z15 h)

end Go.Proofs.YtfdkmmllemkogaaGreatDoor
