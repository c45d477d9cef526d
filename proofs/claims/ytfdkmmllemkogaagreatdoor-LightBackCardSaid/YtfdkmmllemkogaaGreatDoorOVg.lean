/-
  The walk of awake, chapter 1's fixed examples: regions 17 and 18.
-/
import Derived.Test.YtfdkmmllemkogaaGreatDoorOVf
import Derived.Deep.CutBlock
import Derived.Deep.DeepCutAuto
namespace Go.Proofs.YtfdkmmllemkogaaGreatDoor
open Go.RowKit Go.Shelf
set_option linter.unusedVariables false
set_option linter.unusedSimpArgs false

set_option maxRecDepth 1000000 in
/-- What is still to be shown where the walk stands ahead of region 18. -/
def Awk18 (w : World) : Prop :=
  ∀ (wx : World) (B16 : Nat) (B18 : Nat) (B20 : Nat) (B22 : Nat) (B24 : Nat) (B26 : Nat) (B28 : Nat) (u1 u2 u3 u4 u5 u6 u7 u8 u9 u10 u11 u12 u13 u14 u15 u32 u33 u34 u35 u36 u37 u38 u39 u40 u41 u42 u43 u44 u45 u46 u47 u48 u49 u50 u51 u52 u53 u54 u55 u56 u57 u58 u59 u60 u61 u62 u63 u64 u65 u66 u67 u68 u69 u70 u71 u72 u73 u74 u75 u76 u77 u78 u79 u80 u81 u82 u83 u84 u85 u86 u87 u88 u89 u90 u91 u92 u93 u94 u95 u96 u97 u98 u99 u100 u101 u102 u103 u104 u105 u106 u107 u108 u109 u110 u111 u112 u113 u114 u115 u116 u117 u118 u119 u120 u121 u122 u123 u124 u125 u126 u127 u128 u129 u130 u131 u132 u133 u134 u135 u136 u137 u138 u139 u140 u141 u142 u143 u144 u145 u146 u147 u148 u149 u150 u151 u152 u153 u154 u155 u156 u157 u158 u159 u160 u161 u162 u163 u164 u165 u166 u167 u168 u169 u170 u171 u172 u173 u174 u175 u176 u177 u178 u179 u180 u181 u182 u183 u184 u185 u186 u187 u188 u189 u190 u191 u192 u193 u194 u195 u196 u197 u198 u199 u200 u201 u202 u203 u204 u205 u206 u207 u208 u209 u210 u211 u212 u213 u214 u215 u216 u217 u218 u219 u220 u221 u222 u223 u224 u225 u226 u227 u228 u229 u230 u231 u232 u233 u234 u235 u236 u237 u238 u239 u240 u241 u242 u243 u244 u245 u246 u247 u248 u249 u250 u251 u252 u253 u254 u255 u256 : Value), Below w.heap.size w wx → MBox wx B16 2 1 2 scL → MBox wx B18 3 1 3 sp1L → MBox wx B20 2 1 2 sp2L → MBox wx B22 1 1 1 biL → CBox wx B24 → FBox wx B26 → TBox wx B28 → Code.wp Tryz.prog (awkOf 18) (bodyPost Tryz.prog Tryz.f19 (TruePost w)) ⟨#[.bool false, u1, u2, u3, u4, u5, u6, u7, u8, u9, u10, u11, u12, u13, u14, u15, .pointer (some ⟨B16, 0, none⟩), .int .i64 0, .pointer (some ⟨B18, 0, none⟩), .int .i64 0, .pointer (some ⟨B20, 0, none⟩), .int .i64 0, .pointer (some ⟨B22, 0, none⟩), .int .i64 0, .pointer (some ⟨B24, 0, none⟩), .int .i64 0, .pointer (some ⟨B26, 0, none⟩), .int .i64 0, .pointer (some ⟨B28, 0, none⟩), .int .i64 0, strV prS, .int .i64 0, u32, u33, u34, u35, u36, u37, u38, u39, u40, u41, u42, u43, u44, u45, u46, u47, u48, u49, u50, u51, u52, u53, u54, u55, u56, u57, u58, u59, u60, u61, u62, u63, u64, u65, u66, u67, u68, u69, u70, u71, u72, u73, u74, u75, u76, u77, u78, u79, u80, u81, u82, u83, u84, u85, u86, u87, u88, u89, u90, u91, u92, u93, u94, u95, u96, u97, u98, u99, u100, u101, u102, u103, u104, u105, u106, u107, u108, u109, u110, u111, u112, u113, u114, u115, u116, u117, u118, u119, u120, u121, u122, u123, u124, u125, u126, u127, u128, u129, u130, u131, u132, u133, u134, u135, u136, u137, u138, u139, u140, u141, u142, u143, u144, u145, u146, u147, u148, u149, u150, u151, u152, u153, u154, u155, u156, u157, u158, u159, u160, u161, u162, u163, u164, u165, u166, u167, u168, u169, u170, u171, u172, u173, u174, u175, u176, u177, u178, u179, u180, u181, u182, u183, u184, u185, u186, u187, u188, u189, u190, u191, u192, u193, u194, u195, u196, u197, u198, u199, u200, u201, u202, u203, u204, u205, u206, u207, u208, u209, u210, u211, u212, u213, u214, u215, u216, u217, u218, u219, u220, u221, u222, u223, u224, u225, u226, u227, u228, u229, u230, u231, u232, u233, u234, u235, u236, u237, u238, u239, u240, u241, u242, u243, u244, u245, u246, u247, u248, u249, u250, u251, u252, u253, u254, u255, u256], []⟩ wx

set_option maxRecDepth 1000000 in
/-- What is still to be shown where the walk stands ahead of region 19. -/
def Awk19 (w : World) : Prop :=
  ∀ (wx : World) (B16 : Nat) (B18 : Nat) (B20 : Nat) (B22 : Nat) (B24 : Nat) (B26 : Nat) (B28 : Nat) (a32 : Option Addr) (c32 : Nat) (u1 u2 u3 u4 u5 u6 u7 u8 u9 u10 u11 u12 u13 u14 u15 u34 u35 u36 u37 u38 u39 u40 u41 u42 u43 u44 u45 u46 u47 u48 u49 u50 u51 u52 u53 u54 u55 u56 u57 u58 u59 u60 u61 u62 u63 u64 u65 u66 u67 u68 u69 u70 u71 u72 u73 u74 u75 u76 u77 u78 u79 u80 u81 u82 u83 u84 u85 u86 u87 u88 u89 u90 u91 u92 u93 u94 u95 u96 u97 u98 u99 u100 u101 u102 u103 u104 u105 u106 u107 u108 u109 u110 u111 u112 u113 u114 u115 u116 u117 u118 u119 u120 u121 u122 u123 u124 u125 u126 u127 u128 u129 u130 u131 u132 u133 u134 u135 u136 u137 u138 u139 u140 u141 u142 u143 u144 u145 u146 u147 u148 u149 u150 u151 u152 u153 u154 u155 u156 u157 u158 u159 u160 u161 u162 u163 u164 u165 u166 u167 u168 u169 u170 u171 u172 u173 u174 u175 u176 u177 u178 u179 u180 u181 u182 u183 u184 u185 u186 u187 u188 u189 u190 u191 u192 u193 u194 u195 u196 u197 u198 u199 u200 u201 u202 u203 u204 u205 u206 u207 u208 u209 u210 u211 u212 u213 u214 u215 u216 u217 u218 u219 u220 u221 u222 u223 u224 u225 u226 u227 u228 u229 u230 u231 u232 u233 u234 u235 u236 u237 u238 u239 u240 u241 u242 u243 u244 u245 u246 u247 u248 u249 u250 u251 u252 u253 u254 u255 u256 : Value), Below w.heap.size w wx → MBox wx B16 2 1 2 scL → MBox wx B18 3 1 3 sp1L → MBox wx B20 2 1 2 sp2L → MBox wx B22 1 1 1 biL → CBox wx B24 → FBox wx B26 → TBox wx B28 → Code.wp Tryz.prog (awkOf 19) (bodyPost Tryz.prog Tryz.f19 (TruePost w)) ⟨#[.bool false, u1, u2, u3, u4, u5, u6, u7, u8, u9, u10, u11, u12, u13, u14, u15, .pointer (some ⟨B16, 0, none⟩), .int .i64 0, .pointer (some ⟨B18, 0, none⟩), .int .i64 0, .pointer (some ⟨B20, 0, none⟩), .int .i64 0, .pointer (some ⟨B22, 0, none⟩), .int .i64 0, .pointer (some ⟨B24, 0, none⟩), .int .i64 0, .pointer (some ⟨B26, 0, none⟩), .int .i64 0, .pointer (some ⟨B28, 0, none⟩), .int .i64 0, strV prS, .int .i64 0, .slice a32 18 c32, .int .i64 0, u34, u35, u36, u37, u38, u39, u40, u41, u42, u43, u44, u45, u46, u47, u48, u49, u50, u51, u52, u53, u54, u55, u56, u57, u58, u59, u60, u61, u62, u63, u64, u65, u66, u67, u68, u69, u70, u71, u72, u73, u74, u75, u76, u77, u78, u79, u80, u81, u82, u83, u84, u85, u86, u87, u88, u89, u90, u91, u92, u93, u94, u95, u96, u97, u98, u99, u100, u101, u102, u103, u104, u105, u106, u107, u108, u109, u110, u111, u112, u113, u114, u115, u116, u117, u118, u119, u120, u121, u122, u123, u124, u125, u126, u127, u128, u129, u130, u131, u132, u133, u134, u135, u136, u137, u138, u139, u140, u141, u142, u143, u144, u145, u146, u147, u148, u149, u150, u151, u152, u153, u154, u155, u156, u157, u158, u159, u160, u161, u162, u163, u164, u165, u166, u167, u168, u169, u170, u171, u172, u173, u174, u175, u176, u177, u178, u179, u180, u181, u182, u183, u184, u185, u186, u187, u188, u189, u190, u191, u192, u193, u194, u195, u196, u197, u198, u199, u200, u201, u202, u203, u204, u205, u206, u207, u208, u209, u210, u211, u212, u213, u214, u215, u216, u217, u218, u219, u220, u221, u222, u223, u224, u225, u226, u227, u228, u229, u230, u231, u232, u233, u234, u235, u236, u237, u238, u239, u240, u241, u242, u243, u244, u245, u246, u247, u248, u249, u250, u251, u252, u253, u254, u255, u256], []⟩ wx

set_option maxRecDepth 1000000 in
set_option maxHeartbeats 12800000 in
theorem awk17 (w : World) (ht : TabAt w) (hT : Awk18 w) : Awk17 w := by
  unfold Awk17
  intro wx B16 B18 B20 B22 B24 B26 B28 u1 u2 u3 u4 u5 u6 u7 u8 u9 u10 u11 u12 u13 u14 u15 u30 u31 u32 u33 u34 u35 u36 u37 u38 u39 u40 u41 u42 u43 u44 u45 u46 u47 u48 u49 u50 u51 u52 u53 u54 u55 u56 u57 u58 u59 u60 u61 u62 u63 u64 u65 u66 u67 u68 u69 u70 u71 u72 u73 u74 u75 u76 u77 u78 u79 u80 u81 u82 u83 u84 u85 u86 u87 u88 u89 u90 u91 u92 u93 u94 u95 u96 u97 u98 u99 u100 u101 u102 u103 u104 u105 u106 u107 u108 u109 u110 u111 u112 u113 u114 u115 u116 u117 u118 u119 u120 u121 u122 u123 u124 u125 u126 u127 u128 u129 u130 u131 u132 u133 u134 u135 u136 u137 u138 u139 u140 u141 u142 u143 u144 u145 u146 u147 u148 u149 u150 u151 u152 u153 u154 u155 u156 u157 u158 u159 u160 u161 u162 u163 u164 u165 u166 u167 u168 u169 u170 u171 u172 u173 u174 u175 u176 u177 u178 u179 u180 u181 u182 u183 u184 u185 u186 u187 u188 u189 u190 u191 u192 u193 u194 u195 u196 u197 u198 u199 u200 u201 u202 u203 u204 u205 u206 u207 u208 u209 u210 u211 u212 u213 u214 u215 u216 u217 u218 u219 u220 u221 u222 u223 u224 u225 u226 u227 u228 u229 u230 u231 u232 u233 u234 u235 u236 u237 u238 u239 u240 u241 u242 u243 u244 u245 u246 u247 u248 u249 u250 u251 u252 u253 u254 u255 u256 hB f16 f18 f20 f22 f24 f26 f28
  conv => arg 2; whnf
  dsimp only
  go_upto_region 17 with fail
  go_cut [30, 31] (fun s30 s31 wr => s30 = strV prS ∧ s31 = .int .i64 0 ∧ Below wx.heap.size wx wr)
  case first =>
    have hB1 : Below wx.heap.size wx (wx.alloc (.cells #[.float .f32 1065353216, .float .f32 3204448256] 23)) := (Below.refl _ wx).alloc (Nat.le_refl _) _
    have hL1 : LitAt (wx.alloc (.cells #[.float .f32 1065353216, .float .f32 3204448256] 23)) wx.heap.size 2 prK := lit_blk (T := 23) (fr := (0, 0)) (ks := prK) (blk_alloc_new _ _) (by kernel_rfl)
    have K := Lib.hid (print_lit _ hL1 ((ht.on hB).on hB1))
    have HB1 := Lib.hid hB1
    clear hB1 hL1
    go_wp2_with (go_at_call 92; refine K.out.mono ?_; rintro e w2 ⟨rfl, hb2⟩)
    go_meet
    exact ⟨rfl, rfl, HB1.out.trans (hb2.mono HB1.out.size)⟩
  case rest =>
    rename_i hK
    obtain ⟨rfl, rfl, hb⟩ := hcut
    refine hK _ _ ?_
    clear hK
    unfold Awk18 at hT
    exact hT _ B16 B18 B20 B22 B24 B26 B28 _ _ _ _ _ _ _ _ _ _ _ _ _ _ _ _ _ _ _ _ _ _ _ _ _ _ _ _ _ _ _ _ _ _ _ _ _ _ _ _ _ _ _ _ _ _ _ _ _ _ _ _ _ _ _ _ _ _ _ _ _ _ _ _ _ _ _ _ _ _ _ _ _ _ _ _ _ _ _ _ _ _ _ _ _ _ _ _ _ _ _ _ _ _ _ _ _ _ _ _ _ _ _ _ _ _ _ _ _ _ _ _ _ _ _ _ _ _ _ _ _ _ _ _ _ _ _ _ _ _ _ _ _ _ _ _ _ _ _ _ _ _ _ _ _ _ _ _ _ _ _ _ _ _ _ _ _ _ _ _ _ _ _ _ _ _ _ _ _ _ _ _ _ _ _ _ _ _ _ _ _ _ _ _ _ _ _ _ _ _ _ _ _ _ _ _ _ _ _ _ _ _ _ _ _ _ _ _ _ _ _ _ _ _ _ _ _ _ _ _ _ _ _ _ _ _ _ _ _ _ _ _ _ _ _ _ _ _ _ _ (hB.trans (hb.mono hB.size)) (f16.kept hb) (f18.kept hb) (f20.kept hb) (f22.kept hb) (f24.kept hb) (f26.kept hb) (f28.kept hb)

set_option maxRecDepth 1000000 in
set_option maxHeartbeats 12800000 in
theorem awk18 (w : World) (hT : Awk19 w) : Awk18 w := by
  unfold Awk18
  intro wx B16 B18 B20 B22 B24 B26 B28 u1 u2 u3 u4 u5 u6 u7 u8 u9 u10 u11 u12 u13 u14 u15 u32 u33 u34 u35 u36 u37 u38 u39 u40 u41 u42 u43 u44 u45 u46 u47 u48 u49 u50 u51 u52 u53 u54 u55 u56 u57 u58 u59 u60 u61 u62 u63 u64 u65 u66 u67 u68 u69 u70 u71 u72 u73 u74 u75 u76 u77 u78 u79 u80 u81 u82 u83 u84 u85 u86 u87 u88 u89 u90 u91 u92 u93 u94 u95 u96 u97 u98 u99 u100 u101 u102 u103 u104 u105 u106 u107 u108 u109 u110 u111 u112 u113 u114 u115 u116 u117 u118 u119 u120 u121 u122 u123 u124 u125 u126 u127 u128 u129 u130 u131 u132 u133 u134 u135 u136 u137 u138 u139 u140 u141 u142 u143 u144 u145 u146 u147 u148 u149 u150 u151 u152 u153 u154 u155 u156 u157 u158 u159 u160 u161 u162 u163 u164 u165 u166 u167 u168 u169 u170 u171 u172 u173 u174 u175 u176 u177 u178 u179 u180 u181 u182 u183 u184 u185 u186 u187 u188 u189 u190 u191 u192 u193 u194 u195 u196 u197 u198 u199 u200 u201 u202 u203 u204 u205 u206 u207 u208 u209 u210 u211 u212 u213 u214 u215 u216 u217 u218 u219 u220 u221 u222 u223 u224 u225 u226 u227 u228 u229 u230 u231 u232 u233 u234 u235 u236 u237 u238 u239 u240 u241 u242 u243 u244 u245 u246 u247 u248 u249 u250 u251 u252 u253 u254 u255 u256 hB f16 f18 f20 f22 f24 f26 f28
  conv => arg 2; whnf
  dsimp only
  go_upto_region 18 with fail
  go_cut [32, 33] (fun s32 s33 wr => (∃ ao c, s32 = .slice ao 18 c) ∧ s33 = .int .i64 0 ∧ Below wx.heap.size wx wr)
  case first =>
    have hB1 : Below wx.heap.size wx (wx.alloc (.cells #[.float .f32 1065353216, .float .f32 3204448256] 23)) := (Below.refl _ wx).alloc (Nat.le_refl _) _
    have hL1 : LitAt (wx.alloc (.cells #[.float .f32 1065353216, .float .f32 3204448256] 23)) wx.heap.size 2 prK := lit_blk (T := 23) (fr := (0, 0)) (ks := prK) (blk_alloc_new _ _) (by kernel_rfl)
    have K := Lib.hid (pack_lit _ hL1)
    have HB1 := Lib.hid hB1
    clear hB1 hL1
    go_wp2_with (go_at_call 88; refine K.out.mono ?_; rintro e w2 ⟨ao, c, rfl, hb2⟩)
    go_meet
    exact ⟨⟨_, _, rfl⟩, rfl, HB1.out.trans (hb2.mono HB1.out.size)⟩
  case rest =>
    rename_i hK
    obtain ⟨⟨ao, c, rfl⟩, rfl, hb⟩ := hcut
    refine hK _ _ ?_
    clear hK
    unfold Awk19 at hT
    exact hT _ B16 B18 B20 B22 B24 B26 B28 _ _ _ _ _ _ _ _ _ _ _ _ _ _ _ _ _ _ _ _ _ _ _ _ _ _ _ _ _ _ _ _ _ _ _ _ _ _ _ _ _ _ _ _ _ _ _ _ _ _ _ _ _ _ _ _ _ _ _ _ _ _ _ _ _ _ _ _ _ _ _ _ _ _ _ _ _ _ _ _ _ _ _ _ _ _ _ _ _ _ _ _ _ _ _ _ _ _ _ _ _ _ _ _ _ _ _ _ _ _ _ _ _ _ _ _ _ _ _ _ _ _ _ _ _ _ _ _ _ _ _ _ _ _ _ _ _ _ _ _ _ _ _ _ _ _ _ _ _ _ _ _ _ _ _ _ _ _ _ _ _ _ _ _ _ _ _ _ _ _ _ _ _ _ _ _ _ _ _ _ _ _ _ _ _ _ _ _ _ _ _ _ _ _ _ _ _ _ _ _ _ _ _ _ _ _ _ _ _ _ _ _ _ _ _ _ _ _ _ _ _ _ _ _ _ _ _ _ _ _ _ _ _ _ _ _ _ _ _ _ (hB.trans (hb.mono hB.size)) (f16.kept hb) (f18.kept hb) (f20.kept hb) (f22.kept hb) (f24.kept hb) (f26.kept hb) (f28.kept hb)

end Go.Proofs.YtfdkmmllemkogaaGreatDoor
