/-
  The walk of awake, chapter 1's fixed examples: region 8.
-/
import Derived.Test.YtfdkmmllemkogaaGreatDoorOVc
import Derived.Deep.CutBlock
import Derived.Deep.DeepCutAuto
namespace Go.Proofs.YtfdkmmllemkogaaGreatDoor
open Go.RowKit Go.Shelf
set_option linter.unusedVariables false
set_option linter.unusedSimpArgs false

set_option maxRecDepth 1000000 in
/-- What is still to be shown where the walk stands ahead of region 10. -/
def Awk10 (w : World) : Prop :=
  ∀ (wx : World) (u1 u2 u3 u4 u5 u6 u7 u8 u9 u10 u11 u12 u13 u14 u15 u16 u17 u18 u19 u20 u21 u22 u23 u24 u25 u26 u27 u28 u29 u30 u31 u32 u33 u34 u35 u36 u37 u38 u39 u40 u41 u42 u43 u44 u45 u46 u47 u48 u49 u50 u51 u52 u53 u54 u55 u56 u57 u58 u59 u60 u61 u62 u63 u64 u65 u66 u67 u68 u69 u70 u71 u72 u73 u74 u75 u76 u77 u78 u79 u80 u81 u82 u83 u84 u85 u86 u87 u88 u89 u90 u91 u92 u93 u94 u95 u96 u97 u98 u99 u100 u101 u102 u103 u104 u105 u106 u107 u108 u109 u110 u111 u112 u113 u114 u115 u116 u117 u118 u119 u120 u121 u122 u123 u124 u125 u126 u127 u128 u129 u130 u131 u132 u133 u134 u135 u136 u137 u138 u139 u140 u141 u142 u143 u144 u145 u146 u147 u148 u149 u150 u151 u152 u153 u154 u155 u156 u157 u158 u159 u160 u161 u162 u163 u164 u165 u166 u167 u168 u169 u170 u171 u172 u173 u174 u175 u176 u177 u178 u179 u180 u181 u182 u183 u184 u185 u186 u187 u188 u189 u190 u191 u192 u193 u194 u195 u196 u197 u198 u199 u200 u201 u202 u203 u204 u205 u206 u207 u208 u209 u210 u211 u212 u213 u214 u215 u216 u217 u218 u219 u220 u221 u222 u223 u224 u225 u226 u227 u228 u229 u230 u231 u232 u233 u234 u235 u236 u237 u238 u239 u240 u241 u242 u243 u244 u245 u246 u247 u248 u249 u250 u251 u252 u253 u254 u255 u256 : Value), Below w.heap.size w wx → Code.wp Tryz.prog (awkOf 10) (bodyPost Tryz.prog Tryz.f19 (TruePost w)) ⟨#[.bool false, u1, u2, u3, u4, u5, u6, u7, u8, u9, u10, u11, u12, u13, u14, u15, u16, u17, u18, u19, u20, u21, u22, u23, u24, u25, u26, u27, u28, u29, u30, u31, u32, u33, u34, u35, u36, u37, u38, u39, u40, u41, u42, u43, u44, u45, u46, u47, u48, u49, u50, u51, u52, u53, u54, u55, u56, u57, u58, u59, u60, u61, u62, u63, u64, u65, u66, u67, u68, u69, u70, u71, u72, u73, u74, u75, u76, u77, u78, u79, u80, u81, u82, u83, u84, u85, u86, u87, u88, u89, u90, u91, u92, u93, u94, u95, u96, u97, u98, u99, u100, u101, u102, u103, u104, u105, u106, u107, u108, u109, u110, u111, u112, u113, u114, u115, u116, u117, u118, u119, u120, u121, u122, u123, u124, u125, u126, u127, u128, u129, u130, u131, u132, u133, u134, u135, u136, u137, u138, u139, u140, u141, u142, u143, u144, u145, u146, u147, u148, u149, u150, u151, u152, u153, u154, u155, u156, u157, u158, u159, u160, u161, u162, u163, u164, u165, u166, u167, u168, u169, u170, u171, u172, u173, u174, u175, u176, u177, u178, u179, u180, u181, u182, u183, u184, u185, u186, u187, u188, u189, u190, u191, u192, u193, u194, u195, u196, u197, u198, u199, u200, u201, u202, u203, u204, u205, u206, u207, u208, u209, u210, u211, u212, u213, u214, u215, u216, u217, u218, u219, u220, u221, u222, u223, u224, u225, u226, u227, u228, u229, u230, u231, u232, u233, u234, u235, u236, u237, u238, u239, u240, u241, u242, u243, u244, u245, u246, u247, u248, u249, u250, u251, u252, u253, u254, u255, u256], []⟩ wx

theorem has_new (W H : Int) (ga n : Nat) (ks : List Int) (w : World) (h : LitAt w ga n ks) (arr : Array Value) (ha : (ks.map fun k => Value.float .f32 (smpOf k)).toArray = arr) (hl : ks.length = n) (hn : n ≤ 4096) (hs : ∀ j, j < n → (ks[j]?.getD 0).natAbs ≤ 16384) :
    Calls Tryz.prog 107 #[.agg #[.int .i64 W, .int .i64 H, .slice (some ⟨ga, 0, none⟩) n n], .int .i64 W, .int .i64 H, .slice (some ⟨w.heap.size, 0, none⟩) n n] (w.alloc (.cells arr 23)) fun e w' => e = .returned (.bool true) ∧ Below w.heap.size w w' := by
  have hB : Below w.heap.size w (w.alloc (.cells arr 23)) := (Below.refl _ w).alloc (Nat.le_refl _) _
  have hL : LitAt (w.alloc (.cells arr 23)) w.heap.size n ks := by
    rw [← hl]
    exact lit_blk (T := 23) (fr := (0, 0)) (a := arr) (blk_alloc_new _ _) ha
  exact (sameHas_any W H ga w.heap.size n n n ks _ (h.kept hB) hL hl hn hs).mono fun e w' ⟨he, hw⟩ => ⟨he, hB.trans (hw.mono (by simp))⟩

set_option maxRecDepth 1000000 in
set_option maxHeartbeats 12800000 in
theorem awk8 (w : World) (hT : Awk10 w) : Awk8 w := by
  unfold Awk8
  intro wx B6 B8 B10 B12 B14 u16 u17 u18 u19 u20 u21 u22 u23 u24 u25 u26 u27 u28 u29 u30 u31 u32 u33 u34 u35 u36 u37 u38 u39 u40 u41 u42 u43 u44 u45 u46 u47 u48 u49 u50 u51 u52 u53 u54 u55 u56 u57 u58 u59 u60 u61 u62 u63 u64 u65 u66 u67 u68 u69 u70 u71 u72 u73 u74 u75 u76 u77 u78 u79 u80 u81 u82 u83 u84 u85 u86 u87 u88 u89 u90 u91 u92 u93 u94 u95 u96 u97 u98 u99 u100 u101 u102 u103 u104 u105 u106 u107 u108 u109 u110 u111 u112 u113 u114 u115 u116 u117 u118 u119 u120 u121 u122 u123 u124 u125 u126 u127 u128 u129 u130 u131 u132 u133 u134 u135 u136 u137 u138 u139 u140 u141 u142 u143 u144 u145 u146 u147 u148 u149 u150 u151 u152 u153 u154 u155 u156 u157 u158 u159 u160 u161 u162 u163 u164 u165 u166 u167 u168 u169 u170 u171 u172 u173 u174 u175 u176 u177 u178 u179 u180 u181 u182 u183 u184 u185 u186 u187 u188 u189 u190 u191 u192 u193 u194 u195 u196 u197 u198 u199 u200 u201 u202 u203 u204 u205 u206 u207 u208 u209 u210 u211 u212 u213 u214 u215 u216 u217 u218 u219 u220 u221 u222 u223 u224 u225 u226 u227 u228 u229 u230 u231 u232 u233 u234 u235 u236 u237 u238 u239 u240 u241 u242 u243 u244 u245 u246 u247 u248 u249 u250 u251 u252 u253 u254 u255 u256 hB f6 f8 f10 f12 f14
  conv => arg 2; whnf
  dsimp only
  go_upto_region 8 with fail
  go_cut [130] (fun s130 wr => s130 = .bool false ∧ Below wx.heap.size wx wr)
  case first =>
    obtain ⟨g8, b8, h8⟩ := f8
    obtain ⟨g10, b10, h10⟩ := f10
    obtain ⟨g12, b12, h12⟩ := f12
    obtain ⟨g14, b14, h14⟩ := f14
    have K8 := Lib.hid (has_new 2 1 g8 2 partK wx h8 #[.float .f32 1084227584, .float .f32 1086324736] (by kernel_rfl) rfl (by omega) (by decide))
    obtain ⟨x0, x1, x2⟩ := GridAt.of_blk (W := 2) (H := 1) b8
    have p0 : wx.cell? ⟨B6, 0, none⟩ = some (.int .i64 2) := by rw [cell_of_row wx _ 0 _ _ (0, 0) f6]; rfl
    have p1 : wx.cell? ⟨B6, 1, none⟩ = some (.int .i64 1) := by rw [cell_of_row wx _ 1 _ _ (0, 0) f6]; rfl
    have hf : ∀ w : World, (binOp .neq 23 (.float .f32 1086324736) (.float .f32 1086324736)).run Tryz.prog w = .ok (.bool false) w := fun _ => by kernel_rfl
    go_wp2_with (first
      | (go_at_call_of 107 (Value.agg #[.int .i64 2, .int .i64 1, .slice (some ⟨g8, 0, none⟩) 2 2]); refine K8.out.mono ?_; rintro e v1 ⟨rfl, hc1⟩
         replace b10 := (hc1.block _ (lt_of_blk b10)).trans b10
         replace h10 := h10.kept hc1
         replace b12 := (hc1.block _ (lt_of_blk b12)).trans b12
         replace h12 := h12.kept hc1
         replace b14 := (hc1.block _ (lt_of_blk b14)).trans b14
         replace h14 := h14.kept hc1
         have K10 := Lib.hid (has_new 4 3 g10 12 placedL v1 h10 #[.float .f32 0, .float .f32 0, .float .f32 0, .float .f32 0, .float .f32 0, .float .f32 1065353216, .float .f32 1073741824, .float .f32 1077936128, .float .f32 0, .float .f32 1082130432, .float .f32 1084227584, .float .f32 1086324736] (by kernel_rfl) rfl (by omega) (by decide))
         clear x0 x1 x2
         obtain ⟨x0, x1, x2⟩ := GridAt.of_blk (W := 4) (H := 3) b10)
      | (go_at_call_of 107 (Value.agg #[.int .i64 4, .int .i64 3, .slice (some ⟨g10, 0, none⟩) 12 12]); refine K10.out.mono ?_; rintro e v2 ⟨rfl, hc2⟩
         replace b12 := (hc2.block _ (lt_of_blk b12)).trans b12
         replace h12 := h12.kept hc2
         replace b14 := (hc2.block _ (lt_of_blk b14)).trans b14
         replace h14 := h14.kept hc2
         have K12 := Lib.hid (has_new 3 2 g12 6 flippedL v2 h12 #[.float .f32 1077936128, .float .f32 1073741824, .float .f32 1065353216, .float .f32 1086324736, .float .f32 1084227584, .float .f32 1082130432] (by kernel_rfl) rfl (by omega) (by decide))
         clear x0 x1 x2
         obtain ⟨x0, x1, x2⟩ := GridAt.of_blk (W := 3) (H := 2) b12)
      | (go_at_call_of 107 (Value.agg #[.int .i64 3, .int .i64 2, .slice (some ⟨g12, 0, none⟩) 6 6]); refine K12.out.mono ?_; rintro e v3 ⟨rfl, hc3⟩
         replace b14 := (hc3.block _ (lt_of_blk b14)).trans b14
         replace h14 := h14.kept hc3
         have K14 := Lib.hid (has_new 2 3 g14 6 turnedL v3 h14 #[.float .f32 1082130432, .float .f32 1065353216, .float .f32 1084227584, .float .f32 1073741824, .float .f32 1086324736, .float .f32 1077936128] (by kernel_rfl) rfl (by omega) (by decide))
         clear x0 x1 x2
         obtain ⟨x0, x1, x2⟩ := GridAt.of_blk (W := 2) (H := 3) b14)
      | (go_at_call_of 107 (Value.agg #[.int .i64 2, .int .i64 3, .slice (some ⟨g14, 0, none⟩) 6 6]); refine K14.out.mono ?_; rintro e v4 ⟨rfl, hc4⟩))
    go_meet
    exact ⟨rfl, ((hc1.trans (hc2.mono hc1.size)).trans (hc3.mono (by have := hc1.size; have := hc2.size; omega))).trans (hc4.mono (by have := hc1.size; have := hc2.size; have := hc3.size; omega))⟩
  case rest =>
    rename_i K1 hK1 K0 hK
    obtain ⟨rfl, hb⟩ := hcut
    refine hK _ _ ?_
    clear hK
    have HK1 := Lib.hid hK1
    clear hK1
    go_wp2_with fail
    refine HK1.out _ _ ?_
    unfold Awk10 at hT
    exact hT _  _ _ _ _ _ _ _ _ _ _ _ _ _ _ _ _ _ _ _ _ _ _ _ _ _ _ _ _ _ _ _ _ _ _ _ _ _ _ _ _ _ _ _ _ _ _ _ _ _ _ _ _ _ _ _ _ _ _ _ _ _ _ _ _ _ _ _ _ _ _ _ _ _ _ _ _ _ _ _ _ _ _ _ _ _ _ _ _ _ _ _ _ _ _ _ _ _ _ _ _ _ _ _ _ _ _ _ _ _ _ _ _ _ _ _ _ _ _ _ _ _ _ _ _ _ _ _ _ _ _ _ _ _ _ _ _ _ _ _ _ _ _ _ _ _ _ _ _ _ _ _ _ _ _ _ _ _ _ _ _ _ _ _ _ _ _ _ _ _ _ _ _ _ _ _ _ _ _ _ _ _ _ _ _ _ _ _ _ _ _ _ _ _ _ _ _ _ _ _ _ _ _ _ _ _ _ _ _ _ _ _ _ _ _ _ _ _ _ _ _ _ _ _ _ _ _ _ _ _ _ _ _ _ _ _ _ _ _ _ _ _ _ _ _ _ _ _ _ _ _ _ _ _ _ _ _ (hB.trans (hb.mono hB.size)) 

end Go.Proofs.YtfdkmmllemkogaaGreatDoor
