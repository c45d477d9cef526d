/-
  What TopEmberSent's walk keeps: the map, its integers; the code from a region on.
-/
import Derived.Test.YtfdkmmllemkogaaOXs
import Derived.Test.YtfdkmmllemkogaaOMa
import Derived.Test.YtfdkmmllemkogaaOWr
import Derived.Deep.CutBlock
import Derived.Deep.DeepCutAuto
namespace Go.Proofs.Ytfdkmmllemkogaa
open Go.RowKit
set_option linter.unusedVariables false

/-- Whether a statement begins with a region. -/
def headsIt (n : Nat) : Code → Bool
  | .region m _ _ => m == n
  | .seq a _ => headsIt n a
  | .loop c => headsIt n c
  | .block _ c => headsIt n c
  | .scope c => headsIt n c
  | _ => false
/-- The code from the statement on that begins with a region. -/
def tailAt (n : Nat) : Code → Option Code
  | .seq a b => if headsIt n a then some (.seq a b) else match tailAt n b with
    | some c => some c
    | none => tailAt n a
  | .block _ c => tailAt n c
  | .scope c => tailAt n c
  | c => if headsIt n c then some c else none
noncomputable def tailOf (n : Nat) : Code := ((Try.f3.body.bind (tailAt n)).getD .skip)

def SentPost (w : World) (e : Ending) (w' : World) : Prop := e = .returned (.bool true) ∧ Below w.heap.size w w'

theorem owns_below {w w' : World} {B T sz n c g N : Nat} {xs : List Value} (h : w.ownsRow B T sz (.slice (some ⟨g, 0, none⟩) n c) n xs) (hb : Below N w w') (hg : g < N) : w'.ownsRow B T sz (.slice (some ⟨g, 0, none⟩) n c) n xs := by
  refine ⟨h.1, ?_⟩
  rcases h.2 with ⟨h, _⟩ | ⟨g', cap, cur, h1, h2, h3, h4⟩
  · cases h
  · simp at h1
    obtain ⟨rfl, rfl⟩ := h1
    exact .inr ⟨g, c, cur, rfl, h2, (hb.block g hg).trans h3, h4⟩

theorem tel_row {w : World} {B : Nat} {T : TypeId} {s c o x y z : Value} (h : w.heap[B]? = some (.cells #[s, c, o, x, y, z] T (0, 0))) : w.cell? ⟨B, 0, none⟩ = some s ∧ w.cell? ⟨B, 1, none⟩ = some c ∧ w.cell? ⟨B, 2, none⟩ = some o ∧ w.cell? ⟨B, 3, none⟩ = some x ∧ w.cell? ⟨B, 4, none⟩ = some y ∧ w.cell? ⟨B, 5, none⟩ = some z ∧ w.frozen? ⟨B, 0, none⟩ = false :=
  ⟨by rw [cell_of_row w B 0 _ _ (0, 0) h]; rfl, by rw [cell_of_row w B 1 _ _ (0, 0) h]; rfl, by rw [cell_of_row w B 2 _ _ (0, 0) h]; rfl, by rw [cell_of_row w B 3 _ _ (0, 0) h]; rfl, by rw [cell_of_row w B 4 _ _ (0, 0) h]; rfl, by rw [cell_of_row w B 5 _ _ (0, 0) h]; rfl, by simp [World.frozen?, h]⟩
theorem tel_set0 {w : World} {B : Nat} {T : TypeId} {s c o x y z : Value} (h : w.heap[B]? = some (.cells #[s, c, o, x, y, z] T (0, 0))) (v : Value) : (w.setCell ⟨B, 0, none⟩ v).heap[B]? = some (.cells #[v, c, o, x, y, z] T (0, 0)) := by
  simp only [World.setCell, Array.getElem?_modify, if_true, h, Option.map_some]
  simp
theorem row24 {F : List Value} (h : F.length = 24) : (List.replicate 24 (Value.int .u8 0)).toArray.size = F.toArray.size ∧ (Try.prog.info? 36).map (·.size) = some F.toArray.size := by
  rw [size24]; simp [h]
theorem setRow_blk {w : World} {B : Nat} {T : TypeId} {old : Array Value} (h : w.heap[B]? = some (.cells old T (0, 0))) (cs : Array Value) : (w.setRow B cs).heap[B]? = some (.cells cs T (0, 0)) := setRow_heap w B old cs T _ h
theorem setRow_blk_other {w : World} {B B' : Nat} {o : Obj} (h : w.heap[B]? = some o) (hne : B ≠ B') (cs : Array Value) : (w.setRow B' cs).heap[B]? = some o := (setRow_other w B' B cs hne).trans h
theorem row_news {w : World} {B : Nat} {T : TypeId} {F : List Value} (h : w.heap[B]? = some (.cells F.toArray T (0, 0))) : ∀ j u, F[j]? = some u → w.cell? ((⟨B, 0, none⟩ : Addr).add j) = some u := fun j u hu => by
  rw [Addr.add_mid, cell_of_row w B (0 + j) _ _ (0, 0) h, Nat.zero_add]
  simpa using hu
theorem bytes_len (L : List Tel) : (L.flatMap Tel.bytes).length = 24 * L.length := by
  induction L with
  | nil => rfl
  | cons t L ih =>
    rw [List.flatMap_cons, List.length_append, ih, List.length_cons]
    have : t.bytes.length = 24 := by simp [Tel.bytes, frame_len]
    omega
theorem Try.infoU8 : (Try.prog.info? 5).map (fun i => (i.zero, i.size, i.bytes)) = some (some (.int .u8 0), 1, 1) := by kernel_rfl
/-- Which telegrams of station 7 are kept. -/
def keptF (lost : Int) (i : Nat) : Bool := bits BinOp.and IntKind.u16 (lost / 2 ^ i) 1 == 0
structure Sent (w : World) (W H : Int) (b o n c : Nat) (xs : List Nat) (ks : List Int) (m g cc : Nat) (lev : List Int) (B : Nat) (wx : World) : Prop where
  below : Below w.heap.size w wx
  box : wx.heap[w.heap.size]? = some (.cells #[.int .i64 W, .int .i64 H, .slice (some ⟨b, o, none⟩) n c] 24 (0, 0))
  right : RightMap wx W H b o n xs ks
  bl : b < w.heap.size
  own : wx.ownsRow B 3 1 (.slice (some ⟨g, 0, none⟩) (3 * m) cc) (3 * m) (lev.map (Value.int .i64))
  base : w.heap.size < B
  levk : ∀ j, j < n → lev[j]?.getD 0 = ks[j]?.getD 0
  levb : ∀ j : Nat, (lev[j]?.getD 0 : Int).natAbs ≤ 16384
  levz : ∀ j, n ≤ j → lev[j]?.getD 0 = 0
  m1 : 1 ≤ m
  m12 : m ≤ 12
  nm : n ≤ 3 * m
  n1 : 1 ≤ n
  n36 : n ≤ 36

section
variable {w : World} {W H : Int} {b o n c : Nat} {xs : List Nat} {ks : List Int} {m g cc : Nat} {lev : List Int} {B : Nat} {wx wy : World}
theorem Sent.len (h : Sent w W H b o n c xs ks m g cc lev B wx) : lev.length = 3 * m := by have := h.own.1; simpa using this
theorem Sent.gl (h : Sent w W H b o n c xs ks m g cc lev B wx) : B ≤ g ∧ g < wx.heap.size := h.own.lt g rfl
theorem Sent.keptN {N : Nat} (h : Sent w W H b o n c xs ks m g cc lev B wx) (hb : Below N wx wy) (hg : g < N) (hw : w.heap.size < N) : Sent w W H b o n c xs ks m g cc lev B wy :=
  { h with
    below := h.below.trans (hb.mono (by omega))
    box := (hb.block _ hw).trans h.box
    right := h.right.below hb (by have := h.bl; omega)
    own := owns_below h.own hb hg }
theorem Sent.kept (h : Sent w W H b o n c xs ks m g cc lev B wx) (hb : Below wx.heap.size wx wy) : Sent w W H b o n c xs ks m g cc lev B wy :=
  h.keptN hb h.gl.2 (by have := h.gl; have := h.base; omega)
theorem Sent.cell (h : Sent w W H b o n c xs ks m g cc lev B wx) {j : Nat} (hj : j < 3 * m) : wx.cell? ⟨g, j, none⟩ = some (.int .i64 (lev[j]?.getD 0)) :=
  owns_cell h.own (by rw [List.getElem?_map, List.getElem?_eq_getElem (by rw [h.len]; exact hj)]; rfl)
theorem Sent.b0 (h : Sent w W H b o n c xs ks m g cc lev B wx) : wx.cell? ⟨w.heap.size, 0, none⟩ = some (.int .i64 W) := by rw [cell_of_row wx _ 0 _ _ (0, 0) h.box]; rfl
theorem Sent.b1 (h : Sent w W H b o n c xs ks m g cc lev B wx) : wx.cell? ⟨w.heap.size, 1, none⟩ = some (.int .i64 H) := by rw [cell_of_row wx _ 1 _ _ (0, 0) h.box]; rfl
theorem Sent.b2 (h : Sent w W H b o n c xs ks m g cc lev B wx) : wx.cell? ⟨w.heap.size, 2, none⟩ = some (.slice (some ⟨b, o, none⟩) n c) := by rw [cell_of_row wx _ 2 _ _ (0, 0) h.box]; rfl
theorem Sent.good (h : Sent w W H b o n c xs ks m g cc lev B wx) (s : Int) (hs : s = 7 ∨ s = 8) (i : Nat) (hi : i < m) : (telOf lev s i).Good := by
  have h1 := h.levb (3 * i)
  have h2 := h.levb (3 * i + 1)
  have h3 := h.levb (3 * i + 2)
  have hm := h.m12
  unfold Tel.Good telOf
  constructor <;> (try dsimp only) <;> omega
end
end Go.Proofs.Ytfdkmmllemkogaa

/-
  The walk of TopEmberSent: the stream of telegrams is built.
-/
namespace Go.Proofs.Ytfdkmmllemkogaa
open Go.RowKit
set_option linter.unusedVariables false

set_option maxRecDepth 1000000 in
/-- What is still to be shown where the walk stands ahead of region 21. -/
def Tail21 (W H : Int) (b o n c : Nat) (m g cc : Nat) (lev : List Int) (lost : Int) (w wx : World) : Prop :=
  ∀ (v : Value) (n7 : Nat) (wy : World) (u3 u4 u8 u9 u10 u11 u12 u13 u14 u15 u16 u17 u18 u19 u20 u21 u22 u23 u24 u25 u26 u27 u28 u29 u30 u31 u32 u33 u34 u35 u36 u37 u38 u39 u40 u41 u42 u43 u44 u45 u46 u47 u48 u49 u50 u51 u52 u53 u54 u55 u56 u57 u58 u59 u60 u61 u62 u63 u64 u65 u66 u67 u68 u69 u70 u71 u72 u73 u74 u75 u76 u77 u78 u79 u80 u81 u82 u83 u84 u85 u86 u87 u88 u89 u90 u91 u92 u93 u94 u95 u96 u97 u98 u99 u100 u101 u102 u103 u104 u105 u106 u107 u108 u109 u110 u111 u112 u113 u114 u115 u116 u117 u118 u119 u120 u121 u122 u123 u124 u125 u126 u127 u128 u129 u130 u131 u132 u133 u134 u135 u136 u137 u138 u139 u140 u141 u142 u143 u144 u145 u146 u147 u148 u149 u150 u151 u152 u153 u154 u155 u156 u157 u158 u159 u160 u161 u162 u163 u164 u165 u166 u167 u168 u169 u170 u171 u172 u173 u174 u175 u176 u177 u178 u179 u180 u181 u182 u183 u184 u185 u186 u187 u188 u189 u190 u191 u192 u193 u194 u195 u196 u197 u198 u199 u200 u201 u202 u203 u204 u205 u206 u207 u208 u209 u210 u211 u212 u213 u214 u215 u216 u217 u218 u219 u220 u221 u222 u223 u224 u225 u226 u227 u228 u229 u230 u231 u232 u233 u234 u235 u236 u237 u238 u239 u240 u241 u242 u243 u244 u245 u246 u247 u248 u249 u250 u251 u252 u253 u254 u255 u256 u257 u258 u259 u260 u261 u262 u263 u264 u265 u266 u267 u268 u269 u270 u271 u272 u273 u274 u275 u276 u277 u278 u279 u280 u281 u282 u283 u284 u285 u286 u287 u288 u289 u290 u291 u292 u293 u294 u295 u296 u297 u298 u299 u300 u301 u302 u303 u304 u305 u306 u307 u308 u309 u310 u311 u312 u313 u314 u315 u316 u317 u318 u319 u320 u321 u322 u323 u324 u325 u326 u327 u328 u329 u330 u331 u332 u333 u334 u335 u336 u337 u338 u339 u340 u341 u342 u343 u344 u345 u346 u347 u348 u349 u350 u351 u352 u353 u354 u355 u356 u357 : Value), wy.ownsRow wx.heap.size 5 1 v n7 ((telsTo lev (keptF lost) m).flatMap Tel.bytes) → Below wx.heap.size wx wy → Code.wp Try.prog (tailOf 21) (bodyPost Try.prog Try.f3 (SentPost w)) ⟨#[.agg #[.int .i64 W, .int .i64 H, .slice (some ⟨b, o, none⟩) n c], .int .u16 lost, .pointer (some ⟨w.heap.size, 0, none⟩), u3, u4, .slice (some ⟨g, 0, none⟩) (3 * m) cc, .int .i64 m, v, u8, u9, u10, u11, u12, u13, u14, u15, u16, u17, u18, u19, u20, u21, u22, u23, u24, u25, u26, u27, u28, u29, u30, u31, u32, u33, u34, u35, u36, u37, u38, u39, u40, u41, u42, u43, u44, u45, u46, u47, u48, u49, u50, u51, u52, u53, u54, u55, u56, u57, u58, u59, u60, u61, u62, u63, u64, u65, u66, u67, u68, u69, u70, u71, u72, u73, u74, u75, u76, u77, u78, u79, u80, u81, u82, u83, u84, u85, u86, u87, u88, u89, u90, u91, u92, u93, u94, u95, u96, u97, u98, u99, u100, u101, u102, u103, u104, u105, u106, u107, u108, u109, u110, u111, u112, u113, u114, u115, u116, u117, u118, u119, u120, u121, u122, u123, u124, u125, u126, u127, u128, u129, u130, u131, u132, u133, u134, u135, u136, u137, u138, u139, u140, u141, u142, u143, u144, u145, u146, u147, u148, u149, u150, u151, u152, u153, u154, u155, u156, u157, u158, u159, u160, u161, u162, u163, u164, u165, u166, u167, u168, u169, u170, u171, u172, u173, u174, u175, u176, u177, u178, u179, u180, u181, u182, u183, u184, u185, u186, u187, u188, u189, u190, u191, u192, u193, u194, u195, u196, u197, u198, u199, u200, u201, u202, u203, u204, u205, u206, u207, u208, u209, u210, u211, u212, u213, u214, u215, u216, u217, u218, u219, u220, u221, u222, u223, u224, u225, u226, u227, u228, u229, u230, u231, u232, u233, u234, u235, u236, u237, u238, u239, u240, u241, u242, u243, u244, u245, u246, u247, u248, u249, u250, u251, u252, u253, u254, u255, u256, u257, u258, u259, u260, u261, u262, u263, u264, u265, u266, u267, u268, u269, u270, u271, u272, u273, u274, u275, u276, u277, u278, u279, u280, u281, u282, u283, u284, u285, u286, u287, u288, u289, u290, u291, u292, u293, u294, u295, u296, u297, u298, u299, u300, u301, u302, u303, u304, u305, u306, u307, u308, u309, u310, u311, u312, u313, u314, u315, u316, u317, u318, u319, u320, u321, u322, u323, u324, u325, u326, u327, u328, u329, u330, u331, u332, u333, u334, u335, u336, u337, u338, u339, u340, u341, u342, u343, u344, u345, u346, u347, u348, u349, u350, u351, u352, u353, u354, u355, u356, u357], []⟩ wy

set_option maxRecDepth 1000000 in
set_option maxHeartbeats 51200000 in
theorem tail7 (W H : Int) (b o n c : Nat) (xs : List Nat) (ks : List Int) (m g cc : Nat) (lev : List Int) (B : Nat) (lost : Int) (hlost : 0 ≤ lost ∧ lost ≤ 65535) (w wx : World) (hS : Sent w W H b o n c xs ks m g cc lev B wx) (hT : Tail21 W H b o n c m g cc lev lost w wx) (u3 u4 u7 u8 u9 u10 u11 u12 u13 u14 u15 u16 u17 u18 u19 u20 u21 u22 u23 u24 u25 u26 u27 u28 u29 u30 u31 u32 u33 u34 u35 u36 u37 u38 u39 u40 u41 u42 u43 u44 u45 u46 u47 u48 u49 u50 u51 u52 u53 u54 u55 u56 u57 u58 u59 u60 u61 u62 u63 u64 u65 u66 u67 u68 u69 u70 u71 u72 u73 u74 u75 u76 u77 u78 u79 u80 u81 u82 u83 u84 u85 u86 u87 u88 u89 u90 u91 u92 u93 u94 u95 u96 u97 u98 u99 u100 u101 u102 u103 u104 u105 u106 u107 u108 u109 u110 u111 u112 u113 u114 u115 u116 u117 u118 u119 u120 u121 u122 u123 u124 u125 u126 u127 u128 u129 u130 u131 u132 u133 u134 u135 u136 u137 u138 u139 u140 u141 u142 u143 u144 u145 u146 u147 u148 u149 u150 u151 u152 u153 u154 u155 u156 u157 u158 u159 u160 u161 u162 u163 u164 u165 u166 u167 u168 u169 u170 u171 u172 u173 u174 u175 u176 u177 u178 u179 u180 u181 u182 u183 u184 u185 u186 u187 u188 u189 u190 u191 u192 u193 u194 u195 u196 u197 u198 u199 u200 u201 u202 u203 u204 u205 u206 u207 u208 u209 u210 u211 u212 u213 u214 u215 u216 u217 u218 u219 u220 u221 u222 u223 u224 u225 u226 u227 u228 u229 u230 u231 u232 u233 u234 u235 u236 u237 u238 u239 u240 u241 u242 u243 u244 u245 u246 u247 u248 u249 u250 u251 u252 u253 u254 u255 u256 u257 u258 u259 u260 u261 u262 u263 u264 u265 u266 u267 u268 u269 u270 u271 u272 u273 u274 u275 u276 u277 u278 u279 u280 u281 u282 u283 u284 u285 u286 u287 u288 u289 u290 u291 u292 u293 u294 u295 u296 u297 u298 u299 u300 u301 u302 u303 u304 u305 u306 u307 u308 u309 u310 u311 u312 u313 u314 u315 u316 u317 u318 u319 u320 u321 u322 u323 u324 u325 u326 u327 u328 u329 u330 u331 u332 u333 u334 u335 u336 u337 u338 u339 u340 u341 u342 u343 u344 u345 u346 u347 u348 u349 u350 u351 u352 u353 u354 u355 u356 u357 : Value) :
    Code.wp Try.prog (tailOf 7) (bodyPost Try.prog Try.f3 (SentPost w)) ⟨#[.agg #[.int .i64 W, .int .i64 H, .slice (some ⟨b, o, none⟩) n c], .int .u16 lost, .pointer (some ⟨w.heap.size, 0, none⟩), u3, u4, .slice (some ⟨g, 0, none⟩) (3 * m) cc, .int .i64 m, u7, u8, u9, u10, u11, u12, u13, u14, u15, u16, u17, u18, u19, u20, u21, u22, u23, u24, u25, u26, u27, u28, u29, u30, u31, u32, u33, u34, u35, u36, u37, u38, u39, u40, u41, u42, u43, u44, u45, u46, u47, u48, u49, u50, u51, u52, u53, u54, u55, u56, u57, u58, u59, u60, u61, u62, u63, u64, u65, u66, u67, u68, u69, u70, u71, u72, u73, u74, u75, u76, u77, u78, u79, u80, u81, u82, u83, u84, u85, u86, u87, u88, u89, u90, u91, u92, u93, u94, u95, u96, u97, u98, u99, u100, u101, u102, u103, u104, u105, u106, u107, u108, u109, u110, u111, u112, u113, u114, u115, u116, u117, u118, u119, u120, u121, u122, u123, u124, u125, u126, u127, u128, u129, u130, u131, u132, u133, u134, u135, u136, u137, u138, u139, u140, u141, u142, u143, u144, u145, u146, u147, u148, u149, u150, u151, u152, u153, u154, u155, u156, u157, u158, u159, u160, u161, u162, u163, u164, u165, u166, u167, u168, u169, u170, u171, u172, u173, u174, u175, u176, u177, u178, u179, u180, u181, u182, u183, u184, u185, u186, u187, u188, u189, u190, u191, u192, u193, u194, u195, u196, u197, u198, u199, u200, u201, u202, u203, u204, u205, u206, u207, u208, u209, u210, u211, u212, u213, u214, u215, u216, u217, u218, u219, u220, u221, u222, u223, u224, u225, u226, u227, u228, u229, u230, u231, u232, u233, u234, u235, u236, u237, u238, u239, u240, u241, u242, u243, u244, u245, u246, u247, u248, u249, u250, u251, u252, u253, u254, u255, u256, u257, u258, u259, u260, u261, u262, u263, u264, u265, u266, u267, u268, u269, u270, u271, u272, u273, u274, u275, u276, u277, u278, u279, u280, u281, u282, u283, u284, u285, u286, u287, u288, u289, u290, u291, u292, u293, u294, u295, u296, u297, u298, u299, u300, u301, u302, u303, u304, u305, u306, u307, u308, u309, u310, u311, u312, u313, u314, u315, u316, u317, u318, u319, u320, u321, u322, u323, u324, u325, u326, u327, u328, u329, u330, u331, u332, u333, u334, u335, u336, u337, u338, u339, u340, u341, u342, u343, u344, u345, u346, u347, u348, u349, u350, u351, u352, u353, u354, u355, u356, u357], []⟩ wx := by
  conv => arg 2; whnf
  dsimp only
  have hm1 := hS.m1
  have hm12 := hS.m12
  have HSENT := Lib.hid hS
  clear hS
  go_upto_block 2 with fail
  go_cut [7] (fun s7 wr => ∃ v n7, s7 = v ∧ wr.ownsRow wx.heap.size 5 1 v n7 ((telsTo lev (keptF lost) m).flatMap Tel.bytes) ∧ Below wx.heap.size wx wr)
  case first =>
    go_wp2_with fail
    go_loopw [7, 60] (fun v i wr => ∃ k : Nat, k ≤ m ∧ i = .int .i64 k ∧ (∃ n7, wr.ownsRow wx.heap.size 5 1 v n7 ((telsTo lev (keptF lost) k).flatMap Tel.bytes)) ∧ Below wx.heap.size wx wr)
      (fun _ i _ => m - (intOf i).toNat)
    case atStart => exact ⟨0, Nat.zero_le _, rfl, ⟨0, World.ownsRow_nil _ _ _ _⟩, Below.refl _ _⟩
    case round =>
      obtain ⟨k, hk, rfl, ⟨n7, hown⟩, hnx⟩ := hrel
      by_cases hlt : k < m
      · have hSr := HSENT.out.kept hnx
        have g0 := hSr.cell (j := 3 * k) (by omega)
        have g1 := hSr.cell (j := 3 * k + 1) (by omega)
        have g2 := hSr.cell (j := 3 * k + 2) (by omega)
        obtain ⟨x, hx⟩ : ∃ x : Int, lev[3 * k]?.getD 0 = x := ⟨_, rfl⟩
        obtain ⟨y, hy⟩ : ∃ y : Int, lev[3 * k + 1]?.getD 0 = y := ⟨_, rfl⟩
        obtain ⟨z, hz⟩ : ∃ z : Int, lev[3 * k + 2]?.getD 0 = z := ⟨_, rfl⟩
        rw [hx] at g0
        rw [hy] at g1
        rw [hz] at g2
        have hG7 := hSr.good 7 (.inl rfl) k hlt
        have hG8 := hSr.good 8 (.inr rfl) k hlt
        have e7 : telOf lev 7 k = ⟨7, k, 1, x, y, z⟩ := by unfold telOf; rw [hx, hy, hz]
        have e8 : telOf lev 8 k = ⟨8, k, 1, x, y, z⟩ := by unfold telOf; rw [hx, hy, hz]
        rw [e7] at hG7
        rw [e8] at hG8
        have HE7 := Lib.hid e7
        have HE8 := Lib.hid e8
        have K7 := Lib.hid (encode_any 7 k 1 x y z hG7)
        have K8 := Lib.hid (encode_any 8 k 1 x y z hG8)
        have HSR := Lib.hid hSr
        have i1 : (k : Int) < (m : Int) := by omega
        have i2 : (0 : Int) ≤ 3 * (k : Int) := by omega
        have i3 : IntKind.i64.wrap (3 * (k : Int)) = 3 * (k : Int) := IntWalk.i64_in _ ⟨by omega, by omega⟩
        have i4 : IntKind.i64.wrap (3 * (k : Int) + 1) = 3 * (k : Int) + 1 := IntWalk.i64_in _ ⟨by omega, by omega⟩
        have i5 : IntKind.i64.wrap (3 * (k : Int) + 2) = 3 * (k : Int) + 2 := IntWalk.i64_in _ ⟨by omega, by omega⟩
        have i6 : (3 * (k : Int)).toNat = 3 * k := by omega
        have i7 : (3 * (k : Int) + 1).toNat = 3 * k + 1 := by omega
        have i8 : (3 * (k : Int) + 2).toNat = 3 * k + 2 := by omega
        have i9 : (3 * (k : Int)) < ((3 * m : Nat) : Int) := by omega
        have i10 : (3 * (k : Int) + 1) < ((3 * m : Nat) : Int) := by omega
        have i11 : (3 * (k : Int) + 2) < ((3 * m : Nat) : Int) := by omega
        have i12 : (0 : Int) ≤ 3 * (k : Int) + 1 := by omega
        have i13 : (0 : Int) ≤ 3 * (k : Int) + 2 := by omega
        have j9 : (3 * (k : Int)) < 3 * (m : Int) := by omega
        have j10 : (3 * (k : Int) + 1) < 3 * (m : Int) := by omega
        have j11 : (3 * (k : Int) + 2) < 3 * (m : Int) := by omega
        have n0 := World.new_ne wr _ g0
        clear hx hy hz e7 e8 hG7 hG8 hSr
        go_wp2_with fail
        go_region_held3 (fun w' => w'.cell? ⟨g, 3 * k, none⟩ = some (.int .i64 x) ∧ w'.cell? ⟨g, 3 * k + 1, none⟩ = some (.int .i64 y) ∧ w'.cell? ⟨g, 3 * k + 2, none⟩ = some (.int .i64 z)) (go_keep) (fail)
        obtain ⟨Wa, hWa⟩ : ∃ Wa, (wr.alloc (.cells #[.int .i64 7, .int .i64 k, .int .i64 1, .int .i64 x, .int .i64 y, .int .i64 z] 35)).drew = Wa := ⟨_, rfl⟩
        have hBa : Below wr.heap.size wr Wa := by rw [← hWa]; exact ((Below.refl _ wr).alloc (Nat.le_refl _) _).drew
        have hba : Wa.heap[wr.heap.size]? = some (.cells #[.int .i64 7, .int .i64 k, .int .i64 1, .int .i64 x, .int .i64 y, .int .i64 z] 35 (0, 0)) := by rw [← hWa]; exact blk_drew (blk_alloc_new _ _)
        try rw [hWa]
        clear hWa g0 g1 g2
        obtain ⟨t0, t1, t2, t3, t4, t5, tf⟩ := tel_row hba
        have HBAa := Lib.hid hBa
        have HBa := Lib.hid hba
        clear hBa hba
        go_wp2_with fail
        refine (K7.out Wa).mono ?_
        rintro e wb ⟨rfl, hbb⟩
        have hlt1 := lt_of_blk HBa.out
        have HBb := Lib.hid ((hbb.block _ hlt1).trans HBa.out)
        have HBAb := Lib.hid (HBAa.out.trans (hbb.mono HBAa.out.size))
        obtain ⟨t0, t1, t2, t3, t4, t5, tf⟩ := tel_row HBb.out
        have hltb := lt_of_blk HBb.out
        clear hbb
        obtain ⟨F7, hF7⟩ : ∃ F7 : List Value, (frame 7 k 1 x y z).map (Value.int .u8) = F7 := ⟨_, rfl⟩
        have HF7 := Lib.hid hF7
        have hF7l : F7.length = 24 := by rw [← hF7]; simp [frame_len]
        rw [hF7]
        clear hF7
        have hF7o : ∀ v, v ∈ F7 → v.oneCell' = true := by
          have h := HF7.out
          intro v hv
          rw [← h] at hv
          obtain ⟨u, _, rfl⟩ := List.mem_map.1 hv
          rfl
        obtain ⟨h24a, h24b⟩ := row24 hF7l
        have H24a := Lib.hid h24a
        have H24b := Lib.hid h24b
        have H24c := Lib.hid hF7o
        have HF7l := Lib.hid hF7l
        clear h24a h24b hF7o hF7l
        have HR7 := Lib.hid (blk_alloc_new wb (.cells ((List.replicate 24 (Value.int .u8 0)).toArray) 36))
        have hRc := setRow_blk HR7.out F7.toArray
        have hTc := setRow_blk_other (blk_alloc_other HBb.out (.cells ((List.replicate 24 (Value.int .u8 0)).toArray) 36)) (show wr.heap.size ≠ wb.heap.size by omega) F7.toArray
        have hBc : Below wr.heap.size wr ((wb.alloc (.cells ((List.replicate 24 (Value.int .u8 0)).toArray) 36)).setRow wb.heap.size F7.toArray) := (HBAb.out.alloc HBAb.out.size _).trans ((OnlyBlk.setRow _ wb.heap.size _).below (by have := HBAb.out.size; simp; omega) (by have := HBAb.out.size; omega))
        simp only [List.replicate] at hRc hTc hBc HR7 H24a
        obtain ⟨Wc, hWc⟩ : ∃ Wc, ((wb.alloc (.cells ([Value.int .u8 0, .int .u8 0, .int .u8 0, .int .u8 0, .int .u8 0, .int .u8 0, .int .u8 0, .int .u8 0, .int .u8 0, .int .u8 0, .int .u8 0, .int .u8 0, .int .u8 0, .int .u8 0, .int .u8 0, .int .u8 0, .int .u8 0, .int .u8 0, .int .u8 0, .int .u8 0, .int .u8 0, .int .u8 0, .int .u8 0, .int .u8 0].toArray) 36)).setRow wb.heap.size F7.toArray) = Wc := ⟨_, rfl⟩
        rw [hWc] at hRc hTc hBc
        clear t0 t1 t2 t3 t4 t5 tf
        obtain ⟨t0, t1, t2, t3, t4, t5, tf⟩ := tel_row hTc
        have HRc := Lib.hid hRc
        have HTc := Lib.hid hTc
        have HBc := Lib.hid hBc
        clear hRc hTc hBc
        go_wp2_with (refine wpList_store_row rfl 36 (.tmp 10) (.tmp 86) rfl wb.heap.size rfl _ rfl 36 _ HR7.out H24a.out H24b.out H24c.out ?_)
        refine (K8.out _).mono ?_
        rintro e we ⟨rfl, hbe⟩
        have hBd : Below wr.heap.size wr (Wc.setCell ⟨wr.heap.size, 0, none⟩ (.int .i64 8)) := HBc.out.setCell (by dsimp only; omega) _
        have hBe := hBd.trans (hbe.mono hBd.size)
        have hRd := blk_set_other (p := ⟨wr.heap.size, 0, none⟩) HRc.out (by dsimp only; omega) (.int .i64 8)
        have hRe := (hbe.block _ (lt_of_blk hRd)).trans hRd
        have hle := lt_of_blk hRe
        clear hbe t0 t1 t2 t3 t4 t5 tf
        obtain ⟨F8, hF8⟩ : ∃ F8 : List Value, (frame 8 k 1 x y z).map (Value.int .u8) = F8 := ⟨_, rfl⟩
        have hF8l : F8.length = 24 := by rw [← hF8]; simp [frame_len]
        have HF8 := Lib.hid hF8
        rw [hF8]
        clear hF8
        have hF8o : ∀ v, v ∈ F8 → v.oneCell' = true := by
          have h := HF8.out
          intro v hv
          rw [← h] at hv
          obtain ⟨u, _, rfl⟩ := List.mem_map.1 hv
          rfl
        obtain ⟨h84a, h84b⟩ := row24 hF8l
        have H84a := Lib.hid h84a
        have H84b := Lib.hid h84b
        have H84c := Lib.hid hF8o
        have HF8l := Lib.hid hF8l
        clear h84a h84b hF8o hF8l
        have HR8 := Lib.hid (blk_alloc_new we (.cells ((List.replicate 24 (Value.int .u8 0)).toArray) 36))
        have hR8f := setRow_blk HR8.out F8.toArray
        have hR7f := setRow_blk_other (blk_alloc_other hRe (.cells ((List.replicate 24 (Value.int .u8 0)).toArray) 36)) (show wb.heap.size ≠ we.heap.size by omega) F8.toArray
        have hBf : Below wr.heap.size wr ((we.alloc (.cells ((List.replicate 24 (Value.int .u8 0)).toArray) 36)).setRow we.heap.size F8.toArray) := (hBe.alloc hBe.size _).trans ((OnlyBlk.setRow _ we.heap.size _).below (by have := hBe.size; simp; omega) (by have := hBe.size; omega))
        simp only [List.replicate] at hR8f hR7f hBf HR8 H84a
        obtain ⟨Wf, hWf⟩ : ∃ Wf, ((we.alloc (.cells ([Value.int .u8 0, .int .u8 0, .int .u8 0, .int .u8 0, .int .u8 0, .int .u8 0, .int .u8 0, .int .u8 0, .int .u8 0, .int .u8 0, .int .u8 0, .int .u8 0, .int .u8 0, .int .u8 0, .int .u8 0, .int .u8 0, .int .u8 0, .int .u8 0, .int .u8 0, .int .u8 0, .int .u8 0, .int .u8 0, .int .u8 0, .int .u8 0].toArray) 36)).setRow we.heap.size F8.toArray) = Wf := ⟨_, rfl⟩
        rw [hWf] at hR8f hR7f hBf
        have HR8f := Lib.hid hR8f
        have HR7f := Lib.hid hR7f
        have HBf := Lib.hid hBf
        clear hR8f hR7f hBf hRe hRd hBd hBe
        obtain ⟨i0, hi, hz0, hz1, hz2⟩ := info_parts Try.infoU8
        have hownF := owns_kept hown HBf.out (Nat.le_refl _)
        have hn7 : n7 ≤ 600 := by
          have h1 := hown.1
          rw [bytes_len] at h1
          have h2 := telsTo_len lev (keptF lost) k
          omega
        have hlv := hown.lt
        have hszx := hnx.size
        have hszf := HBf.out.size
        have hnews7 := row_news HR7f.out
        have hnews8 := row_news HR8f.out
        have HN7 := Lib.hid hnews7
        have HN8 := Lib.hid hnews8
        have HLV := Lib.hid hlv
        have HTS := Lib.hid (telsTo_succ lev (keptF lost) k)
        have HT7 : Hid (Tel.bytes (telOf lev 7 k) = F7) := Lib.hid (by rw [HE7.out]; exact HF7.out)
        have HT8 : Hid (Tel.bytes (telOf lev 8 k) = F8) := Lib.hid (by rw [HE8.out]; exact HF8.out)
        have hl8 := lt_of_blk HR8f.out
        have hwe : wr.heap.size ≤ we.heap.size := by have := lt_of_blk HBb.out; omega
        clear hnews7 hnews8 hlv hown
        by_cases hkp : keptF lost k = true
        · have hkt : (bits BinOp.and IntKind.u16 (lost / 2 ^ k) 1 == 0) = true := hkp
          have HKP := Lib.hid hkp
          clear hkp
          go_wp2_with (first
            | (refine wpList_store_row rfl 36 (.tmp 12) (.tmp 92) rfl we.heap.size rfl _ rfl 36 _ HR8.out H84a.out H84b.out H84c.out ?_)
            | ((at_builtin; refine wpList_append_own _ rfl (.tmp 105) (.tmp 106) 31 rfl wx.heap.size 5 i0 (.int .u8 0) 1 1 Try.underlying31 hi hz0 hz1 hz2 rfl (by decide) _ _ _ rfl hownF ⟨wb.heap.size, 0, none⟩ 24 24 F7 rfl (by rw [HF7l.out]) HN7.out H24c.out (by unfold maxLen; omega) (by omega) (by omega) ?_; intro v7 w7 hown7 hgrow7 _
                have hb7 : Below wx.heap.size wx w7 := (hnx.trans (HBf.out.mono hszx)).grown hgrow7 (by omega) (fun j hj => (hownF.lt j hj).1)
                have hs7 := hgrow7.size
                have HN8' := Lib.hid (row_news ((hgrow7.block we.heap.size hl8 (fun e => by have := HLV.out _ e.symm; omega)).trans HR8f.out))))
            | ((at_builtin; refine wpList_append_own _ rfl (.tmp 108) (.tmp 109) 31 rfl wx.heap.size 5 i0 (.int .u8 0) 1 1 Try.underlying31 hi hz0 hz1 hz2 rfl (by decide) _ _ _ rfl hown7 ⟨we.heap.size, 0, none⟩ 24 24 F8 rfl (by rw [HF8l.out]) HN8'.out H84c.out (by unfold maxLen; omega) (by omega) (by omega) ?_; intro v8 w8 hown8 hgrow8 _
                have hb8 : Below wx.heap.size wx w8 := hb7.grown hgrow8 (by omega) (fun j hj => (hown7.lt j hj).1))))
          go_roundw
          case rel =>
            refine ⟨k + 1, by omega, by go_num, ⟨n7 + 24 + 24, ?_⟩, hb8⟩
            rw [HTS.out, HKP.out, if_pos rfl, List.flatMap_append, List.flatMap_append, List.flatMap_cons, List.flatMap_cons, List.flatMap_nil, List.append_nil, List.append_nil, HT7.out, HT8.out, ← List.append_assoc]
            exact hown8
          case measure => simp [intOf]; omega
        · have hkt : (bits BinOp.and IntKind.u16 (lost / 2 ^ k) 1 == 0) = false := by simpa [keptF] using hkp
          have HKP := Lib.hid hkp
          clear hkp
          go_wp2_with (first
            | (refine wpList_store_row rfl 36 (.tmp 12) (.tmp 92) rfl we.heap.size rfl _ rfl 36 _ HR8.out H84a.out H84b.out H84c.out ?_)
            | ((at_builtin; refine wpList_append_own _ rfl (.tmp 108) (.tmp 109) 31 rfl wx.heap.size 5 i0 (.int .u8 0) 1 1 Try.underlying31 hi hz0 hz1 hz2 rfl (by decide) _ _ _ rfl hownF ⟨we.heap.size, 0, none⟩ 24 24 F8 rfl (by rw [HF8l.out]) HN8.out H84c.out (by unfold maxLen; omega) (by omega) (by omega) ?_; intro v8 w8 hown8 hgrow8 _
                have hb8 : Below wx.heap.size wx w8 := (hnx.trans (HBf.out.mono hszx)).grown hgrow8 (by omega) (fun j hj => (hownF.lt j hj).1))))
          go_roundw
          case rel =>
            refine ⟨k + 1, by omega, by go_num, ⟨n7 + 24, ?_⟩, hb8⟩
            rw [HTS.out, if_neg HKP.out, List.flatMap_append, List.nil_append, List.flatMap_cons, List.flatMap_nil, List.append_nil, HT8.out]
            exact hown8
          case measure => simp [intOf]; omega
      · obtain rfl : k = m := by omega
        go_wp2_with fail
        go_meet
        exact ⟨_, n7, rfl, hown, hnx⟩
  case rest =>
    rename_i hK
    obtain ⟨v, n7, rfl, hown, hb⟩ := hcut
    refine hK _ _ ?_
    clear hK
    unfold Tail21 at hT
    exact hT _ n7 _ _ _ _ _ _ _ _ _ _ _ _ _ _ _ _ _ _ _ _ _ _ _ _ _ _ _ _ _ _ _ _ _ _ _ _ _ _ _ _ _ _ _ _ _ _ _ _ _ _ _ _ _ _ _ _ _ _ _ _ _ _ _ _ _ _ _ _ _ _ _ _ _ _ _ _ _ _ _ _ _ _ _ _ _ _ _ _ _ _ _ _ _ _ _ _ _ _ _ _ _ _ _ _ _ _ _ _ _ _ _ _ _ _ _ _ _ _ _ _ _ _ _ _ _ _ _ _ _ _ _ _ _ _ _ _ _ _ _ _ _ _ _ _ _ _ _ _ _ _ _ _ _ _ _ _ _ _ _ _ _ _ _ _ _ _ _ _ _ _ _ _ _ _ _ _ _ _ _ _ _ _ _ _ _ _ _ _ _ _ _ _ _ _ _ _ _ _ _ _ _ _ _ _ _ _ _ _ _ _ _ _ _ _ _ _ _ _ _ _ _ _ _ _ _ _ _ _ _ _ _ _ _ _ _ _ _ _ _ _ _ _ _ _ _ _ _ _ _ _ _ _ _ _ _ _ _ _ _ _ _ _ _ _ _ _ _ _ _ _ _ _ _ _ _ _ _ _ _ _ _ _ _ _ _ _ _ _ _ _ _ _ _ _ _ _ _ _ _ _ _ _ _ _ _ _ _ _ _ _ _ _ _ _ _ _ _ _ _ _ _ _ _ _ _ _ _ _ _ _ _ _ _ _ _ _ _ _ _ _ _ _ _ _ _ _ _ _ _ _ _ _ _ hown hb
end Go.Proofs.Ytfdkmmllemkogaa
