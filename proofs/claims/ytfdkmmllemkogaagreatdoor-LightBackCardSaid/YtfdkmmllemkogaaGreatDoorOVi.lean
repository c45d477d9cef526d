/-
  The walk of awake, chapter 1's fixed examples: the last statement's order, from its middle.
-/
import Derived.Test.YtfdkmmllemkogaaGreatDoorOVh
import Derived.Deep.CutBlock
import Derived.Deep.DeepCutAuto
namespace Go.Proofs.YtfdkmmllemkogaaGreatDoor
open Go.RowKit Go.Shelf
set_option linter.unusedVariables false
set_option linter.unusedSimpArgs false

set_option maxRecDepth 1000000 in
set_option maxHeartbeats 25600000 in
theorem r20d (Q : Exit → Act → World → Prop) (hQ : ∀ c (a : Act) d v w, Q (.panic c) (a.put d v) w → Q (.panic c) a w) (w1 V : World) (hV : Below w1.heap.size w1 V) (a32 : Option Addr) (c32 : Nat) (B26 : Nat) (f26 : FBox w1 B26) (B28 : Nat) (f28 : TBox w1 B28) (gd cd : Nat) (hgd : gd < w1.heap.size) (hcd : ∀ j, j < 2 → w1.cell? ⟨gd, j, none⟩ = some (.int .i64 (([1, 0] : List Int)[j]?.getD 0))) (hE : End20 Q w1) (listed : Array Bool) (hl : listed = listed20 46) (u0 u1 u2 u3 u4 u5 u6 u7 u8 u9 u10 u11 u12 u13 u14 u15 u16 u17 u18 u19 u20 u21 u22 u23 u24 u25 u27 u29 u31 u33 u35 u36 u37 u38 u39 u40 u41 u42 u43 u44 u45 u46 u47 u48 u49 u50 u51 u52 u53 u54 u55 u56 u57 u58 u59 u60 u61 u62 u63 u64 u65 u66 u67 u68 u69 u70 u71 u72 u73 u74 u75 u76 u77 u78 u79 u80 u81 u82 u83 u84 u85 u86 u87 u88 u89 u90 u91 u92 u93 u94 u95 u96 u97 u98 u99 u100 u101 u102 u103 u104 u105 u106 u107 u108 u109 u110 u111 u112 u113 u114 u115 u116 u117 u118 u119 u120 u121 u122 u123 u124 u125 u126 u127 u128 u129 u130 u131 u132 u133 u134 u135 u136 u137 u138 u139 u140 u141 u142 u143 u144 u145 u146 u147 u148 u149 u150 u151 u152 u153 u154 u155 u156 u157 u158 u159 u160 u161 u162 u163 u164 u165 u166 u167 u168 u169 u170 u171 u172 u173 u174 u175 u176 u177 u178 u179 u180 u181 u182 u183 u184 u185 u186 u187 u188 u189 u190 u191 u192 u193 u194 u195 u196 u197 u198 u199 u200 u201 u202 u203 u204 u205 u206 u207 u208 u209 u210 u211 u212 u213 u214 u215 u216 u217 u218 u219 u220 u221 u222 u223 u224 u225 u226 u227 u228 u229 u230 u232 u233 u234 u235 u236 u237 u238 u239 u240 u241 u242 u243 u244 u245 u246 u247 u248 u249 u250 u251 u252 u253 u254 u255 u256 : Value) :
    wpAnyHIn Fence.wide 6 Tryz.prog .any ops20 Q (S20 w1) 26 listed ⟨#[u0, u1, u2, u3, u4, u5, u6, u7, u8, u9, u10, u11, u12, u13, u14, u15, u16, u17, u18, u19, u20, u21, u22, u23, u24, u25, .pointer (some ⟨B26, 0, none⟩), u27, .pointer (some ⟨B28, 0, none⟩), u29, strV prS, u31, .slice a32 18 c32, u33, .slice (some ⟨gd, 0, none⟩) 2 cd, u35, u36, u37, u38, u39, u40, u41, u42, u43, u44, u45, u46, u47, u48, u49, u50, u51, u52, u53, u54, u55, u56, u57, u58, u59, u60, u61, u62, u63, u64, u65, u66, u67, u68, u69, u70, u71, u72, u73, u74, u75, u76, u77, u78, u79, u80, u81, u82, u83, u84, u85, u86, u87, u88, u89, u90, u91, u92, u93, u94, u95, u96, u97, u98, u99, u100, u101, u102, u103, u104, u105, u106, u107, u108, u109, u110, u111, u112, u113, u114, u115, u116, u117, u118, u119, u120, u121, u122, u123, u124, u125, u126, u127, u128, u129, u130, u131, u132, u133, u134, u135, u136, u137, u138, u139, u140, u141, u142, u143, u144, u145, u146, u147, u148, u149, u150, u151, u152, u153, u154, u155, u156, u157, u158, u159, u160, u161, u162, u163, u164, u165, u166, u167, u168, u169, u170, u171, u172, u173, u174, u175, u176, u177, u178, u179, u180, u181, u182, u183, u184, u185, u186, u187, u188, u189, u190, u191, u192, u193, u194, u195, u196, u197, u198, u199, u200, u201, u202, u203, u204, u205, u206, u207, u208, u209, u210, u211, u212, u213, u214, u215, u216, u217, u218, u219, u220, u221, u222, u223, u224, u225, u226, u227, u228, u229, u230, .bool true, u232, u233, u234, u235, u236, u237, u238, u239, u240, u241, u242, u243, u244, u245, u246, u247, u248, u249, u250, u251, u252, u253, u254, u255, u256], []⟩ V := by
  subst hl
  conv => arg 5; whnf
  simp only [List.append_eq, List.cons_append, List.nil_append]
  obtain ⟨S, hSdef⟩ : ∃ S : World → Prop, S = fun w' => Below w1.heap.size w1 w' := ⟨_, rfl⟩
  have hS : S V := by rw [hSdef]; exact hV
  show wpAnyHIn _ _ _ _ _ _ (fun w' => Below w1.heap.size w1 w') _ _ _ _
  rw [← hSdef]
  have hfr : ∀ w : World, (binOp .eql 174 (.agg frA) (.agg frA)).run Tryz.prog w = .ok (.bool true) w := fun _ => by kernel_rfl
  have gfr : ∀ w : World, (eqGuard .eql 174 (.tmp 234) (.tmp 235) (.agg frA) (.agg frA)).run Tryz.prog w = .ok () w := fun _ => by kernel_rfl
  have hap : ∀ w : World, (Instr.arrayAt 174 (.slice (some ⟨B26, 0, none⟩) 20 24)).run Tryz.prog w = .ok (.pointer (some ⟨B26, 0, none⟩)) w := fun _ => by kernel_rfl
  unfold frA at hfr gfr
  refine wpAnyHIn_take (i := 46) (v := ?_) rfl (by kernel_rfl) (by kernel_rfl) (by kernel_rfl) (by kernel_rfl) (fun c a w h => hQ c a _ _ w h) ⟨Or.inl ⟨by rfl, ?_⟩, fun _ => rfl⟩ hS ?_
  rotate_left 1
  · intro Wy hSy
    rw [hSdef] at hSy
    go_simp
    try with_reducible rfl
  simp only [List.getElem_toArray, List.getElem_cons_zero, List.getElem_cons_succ, Act.put, List.setIfInBounds_toArray, List.set_cons_zero, List.set_cons_succ]
  refine wpAnyHIn_take (i := 47) (v := ?_) rfl (by kernel_rfl) (by kernel_rfl) (by kernel_rfl) (by kernel_rfl) (fun c a w h => hQ c a _ _ w h) ⟨Or.inl ⟨by rfl, ?_⟩, fun _ => rfl⟩ hS ?_
  rotate_left 1
  · intro Wy hSy
    rw [hSdef] at hSy
    go_simp
    try with_reducible rfl
  simp only [List.getElem_toArray, List.getElem_cons_zero, List.getElem_cons_succ, Act.put, List.setIfInBounds_toArray, List.set_cons_zero, List.set_cons_succ]
  have hrg : ∀ Wy : World, S Wy → Wy.rangeAt B26 0 [.int .u8 77, .int .u8 1, .int .u8 1, .int .u8 2, .int .u8 3, .int .u8 0, .int .u8 16, .int .u8 0, .int .u8 5, .int .u8 0, .int .u8 15, .int .u8 255, .int .u8 251, .int .u8 0, .int .u8 16, .int .u8 0, .int .u8 0, .int .u8 254, .int .u8 254, .int .u8 253] := fun Wy hSy j v hv => by
    rw [hSdef] at hSy
    rw [Nat.zero_add, hSy.cell (p := ⟨B26, j, none⟩) (lt_of_blk (show w1.heap[B26]? = some _ from f26)), cell_of_row w1 _ j _ _ (0, 0) f26]
    exact frV_take j v hv
  refine wpAnyHIn_take (i := 48) rfl (by kernel_rfl) (by kernel_rfl) (by kernel_rfl) (by kernel_rfl) (fun c a w h => hQ c a _ _ w h) ⟨yieldsIf_load_mid (by rfl) 174 (.tmp 233) rfl B26 0 rfl _ _ hrg Tryz.underlying174 rfl (by kernel_rfl), fun _ => rfl⟩ hS ?_
  try simp only [List.getElem_toArray, List.getElem_cons_zero, List.getElem_cons_succ, Act.put, List.setIfInBounds_toArray, List.set_cons_zero, List.set_cons_succ]
  refine wpAnyHIn_take (i := 49) (v := ?_) rfl (by kernel_rfl) (by kernel_rfl) (by kernel_rfl) (by kernel_rfl) (fun c a w h => hQ c a _ _ w h) ⟨Or.inl ⟨by rfl, ?_⟩, fun _ => rfl⟩ hS ?_
  rotate_left 1
  · intro Wy hSy
    rw [hSdef] at hSy
    go_simp
    try with_reducible rfl
  simp only [List.getElem_toArray, List.getElem_cons_zero, List.getElem_cons_succ, Act.put, List.setIfInBounds_toArray, List.set_cons_zero, List.set_cons_succ]
  refine wpAnyHIn_take (i := 50) (v := ?_) rfl (by kernel_rfl) (by kernel_rfl) (by kernel_rfl) (by kernel_rfl) (fun c a w h => hQ c a _ _ w h) ⟨Or.inl ⟨by rfl, ?_⟩, fun _ => rfl⟩ hS ?_
  rotate_left 1
  · intro Wy hSy
    rw [hSdef] at hSy
    go_simp
    try with_reducible rfl
  simp only [List.getElem_toArray, List.getElem_cons_zero, List.getElem_cons_succ, Act.put, List.setIfInBounds_toArray, List.set_cons_zero, List.set_cons_succ]
  refine wpAnyHIn_take (i := 51) (v := ?_) rfl (by kernel_rfl) (by kernel_rfl) (by kernel_rfl) (by kernel_rfl) (fun c a w h => hQ c a _ _ w h) ⟨Or.inl ⟨by rfl, ?_⟩, fun _ => rfl⟩ hS ?_
  rotate_left 1
  · intro Wy hSy
    rw [hSdef] at hSy
    go_simp
    try with_reducible rfl
  simp only [List.getElem_toArray, List.getElem_cons_zero, List.getElem_cons_succ, Act.put, List.setIfInBounds_toArray, List.set_cons_zero, List.set_cons_succ]
  refine wpAnyHIn_take (i := 52) (v := ?_) rfl (by kernel_rfl) (by kernel_rfl) (by kernel_rfl) (by kernel_rfl) (fun c a w h => hQ c a _ _ w h) ⟨Or.inl ⟨by rfl, ?_⟩, fun _ => rfl⟩ hS ?_
  rotate_left 1
  · intro Wy hSy
    rw [hSdef] at hSy
    go_simp
    try with_reducible rfl
  simp only [List.getElem_toArray, List.getElem_cons_zero, List.getElem_cons_succ, Act.put, List.setIfInBounds_toArray, List.set_cons_zero, List.set_cons_succ]
  subst hSdef
  exact r20e Q hQ w1 _ hV a32 c32 B28 f28 gd cd hgd hcd hE _ (by kernel_rfl) _ _ _ _ _ _ _ _ _ _ _ _ _ _ _ _ _ _ _ _ _ _ _ _ _ _ _ _ _ _ _ _ _ _ _ _ _ _ _ _ _ _ _ _ _ _ _ _ _ _ _ _ _ _ _ _ _ _ _ _ _ _ _ _ _ _ _ _ _ _ _ _ _ _ _ _ _ _ _ _ _ _ _ _ _ _ _ _ _ _ _ _ _ _ _ _ _ _ _ _ _ _ _ _ _ _ _ _ _ _ _ _ _ _ _ _ _ _ _ _ _ _ _ _ _ _ _ _ _ _ _ _ _ _ _ _ _ _ _ _ _ _ _ _ _ _ _ _ _ _ _ _ _ _ _ _ _ _ _ _ _ _ _ _ _ _ _ _ _ _ _ _ _ _ _ _ _ _ _ _ _ _ _ _ _ _ _ _ _ _ _ _ _ _ _ _ _ _ _ _ _ _ _ _ _ _ _ _ _ _ _ _ _ _ _ _ _ _ _ _ _ _ _ _ _ _ _ _ _ _ _ _ _ _ _ _ _ _ _ _ _ _ _ _ _ _ _ _ _ _ _ _

set_option maxRecDepth 1000000 in
set_option maxHeartbeats 25600000 in
theorem r20c (Q : Exit → Act → World → Prop) (hQ : ∀ c (a : Act) d v w, Q (.panic c) (a.put d v) w → Q (.panic c) a w) (w1 V : World) (hV : Below w1.heap.size w1 V) (a32 : Option Addr) (c32 : Nat) (B22 g22 : Nat) (b22 : w1.heap[B22]? = some (.cells #[.int .i64 1, .int .i64 1, .slice (some ⟨g22, 0, none⟩) 1 1] 54 (0, 0))) (h22 : LitAt w1 g22 1 biL) (B24 : Nat) (f24 : CBox w1 B24) (B26 : Nat) (f26 : FBox w1 B26) (B28 : Nat) (f28 : TBox w1 B28) (gd cd : Nat) (hgd : gd < w1.heap.size) (hcd : ∀ j, j < 2 → w1.cell? ⟨gd, j, none⟩ = some (.int .i64 (([1, 0] : List Int)[j]?.getD 0))) (hE : End20 Q w1) (listed : Array Bool) (hl : listed = listed20 36) (u0 u1 u2 u3 u4 u5 u6 u7 u8 u9 u10 u11 u12 u13 u14 u15 u16 u17 u18 u19 u20 u21 u23 u25 u27 u29 u31 u33 u35 u36 u37 u38 u39 u40 u41 u42 u43 u44 u45 u46 u47 u48 u49 u50 u51 u52 u53 u54 u55 u56 u57 u58 u59 u60 u61 u62 u63 u64 u65 u66 u67 u68 u69 u70 u71 u72 u73 u74 u75 u76 u77 u78 u79 u80 u81 u82 u83 u84 u85 u86 u87 u88 u89 u90 u91 u92 u93 u94 u95 u96 u97 u98 u99 u100 u101 u102 u103 u104 u105 u106 u107 u108 u109 u110 u111 u112 u113 u114 u115 u116 u117 u118 u119 u120 u121 u122 u123 u124 u125 u126 u127 u128 u129 u130 u131 u132 u133 u134 u135 u136 u137 u138 u139 u140 u141 u142 u143 u144 u145 u146 u147 u148 u149 u150 u151 u152 u153 u154 u155 u156 u157 u158 u159 u160 u161 u162 u163 u164 u165 u166 u167 u168 u169 u170 u171 u172 u173 u174 u175 u176 u177 u178 u179 u180 u181 u182 u183 u184 u185 u186 u187 u188 u189 u190 u191 u192 u193 u194 u195 u196 u197 u198 u199 u200 u201 u202 u203 u204 u205 u206 u207 u208 u209 u210 u211 u212 u213 u214 u215 u216 u217 u218 u219 u220 u222 u223 u224 u225 u226 u227 u228 u229 u230 u231 u232 u233 u234 u235 u236 u237 u238 u239 u240 u241 u242 u243 u244 u245 u246 u247 u248 u249 u250 u251 u252 u253 u254 u255 u256 : Value) :
    wpAnyHIn Fence.wide 6 Tryz.prog .any ops20 Q (S20 w1) 36 listed ⟨#[u0, u1, u2, u3, u4, u5, u6, u7, u8, u9, u10, u11, u12, u13, u14, u15, u16, u17, u18, u19, u20, u21, .pointer (some ⟨B22, 0, none⟩), u23, .pointer (some ⟨B24, 0, none⟩), u25, .pointer (some ⟨B26, 0, none⟩), u27, .pointer (some ⟨B28, 0, none⟩), u29, strV prS, u31, .slice a32 18 c32, u33, .slice (some ⟨gd, 0, none⟩) 2 cd, u35, u36, u37, u38, u39, u40, u41, u42, u43, u44, u45, u46, u47, u48, u49, u50, u51, u52, u53, u54, u55, u56, u57, u58, u59, u60, u61, u62, u63, u64, u65, u66, u67, u68, u69, u70, u71, u72, u73, u74, u75, u76, u77, u78, u79, u80, u81, u82, u83, u84, u85, u86, u87, u88, u89, u90, u91, u92, u93, u94, u95, u96, u97, u98, u99, u100, u101, u102, u103, u104, u105, u106, u107, u108, u109, u110, u111, u112, u113, u114, u115, u116, u117, u118, u119, u120, u121, u122, u123, u124, u125, u126, u127, u128, u129, u130, u131, u132, u133, u134, u135, u136, u137, u138, u139, u140, u141, u142, u143, u144, u145, u146, u147, u148, u149, u150, u151, u152, u153, u154, u155, u156, u157, u158, u159, u160, u161, u162, u163, u164, u165, u166, u167, u168, u169, u170, u171, u172, u173, u174, u175, u176, u177, u178, u179, u180, u181, u182, u183, u184, u185, u186, u187, u188, u189, u190, u191, u192, u193, u194, u195, u196, u197, u198, u199, u200, u201, u202, u203, u204, u205, u206, u207, u208, u209, u210, u211, u212, u213, u214, u215, u216, u217, u218, u219, u220, .bool true, u222, u223, u224, u225, u226, u227, u228, u229, u230, u231, u232, u233, u234, u235, u236, u237, u238, u239, u240, u241, u242, u243, u244, u245, u246, u247, u248, u249, u250, u251, u252, u253, u254, u255, u256], []⟩ V := by
  subst hl
  conv => arg 5; whnf
  simp only [List.append_eq, List.cons_append, List.nil_append]
  obtain ⟨S, hSdef⟩ : ∃ S : World → Prop, S = fun w' => Below w1.heap.size w1 w' := ⟨_, rfl⟩
  have hS : S V := by rw [hSdef]; exact hV
  show wpAnyHIn _ _ _ _ _ _ (fun w' => Below w1.heap.size w1 w') _ _ _ _
  rw [← hSdef]
  refine wpAnyHIn_take (i := 36) (v := ?_) rfl (by kernel_rfl) (by kernel_rfl) (by kernel_rfl) (by kernel_rfl) (fun c a w h => hQ c a _ _ w h) ⟨Or.inl ⟨by rfl, ?_⟩, fun _ => rfl⟩ hS ?_
  rotate_left 1
  · intro Wy hSy
    rw [hSdef] at hSy
    obtain ⟨x0, x1, x2⟩ := GridAt.of_blk (W := 1) (H := 1) ((hSy.block _ (lt_of_blk b22)).trans b22)
    go_simp
    try with_reducible rfl
  simp only [List.getElem_toArray, List.getElem_cons_zero, List.getElem_cons_succ, Act.put, List.setIfInBounds_toArray, List.set_cons_zero, List.set_cons_succ]
  have K22 := Lib.hid (has_new 1 1 g22 1 biL V (h22.kept hV) #[.float .f32 1092616192] (by kernel_rfl) rfl (by omega) (by decide))
  refine wpAnyHIn_one (i := 37) (by kernel_rfl) rfl (fun K hK => ?_)
  go_simp
  refine hK _ _ (by rw [hSdef]; exact (hV).alloc (by have := (hV).size; omega) _) ?_
  clear hK K
  try simp only [List.getElem_toArray, List.getElem_cons_zero, List.getElem_cons_succ, Act.put, List.setIfInBounds_toArray, List.set_cons_zero, List.set_cons_succ]
  refine wpAnyHIn_one (i := 38) (by kernel_rfl) rfl (fun K hK => ?_)
  go_simp
  refine ⟨trivial, ?_⟩
  gi_at_call 107
  refine (callsIn_wide.2 K22.out).mono ?_
  rintro e v1 ⟨rfl, hc1⟩
  have hd1 : Below w1.heap.size w1 v1 := (hV).trans (hc1.mono (by have := (hV).size; omega))
  have hS : S v1 := by rw [hSdef]; exact hd1
  try gi_wp2_with fail
  refine hK _ _ hS ?_
  clear hK K
  try simp only [List.getElem_toArray, List.getElem_cons_zero, List.getElem_cons_succ, Act.put, List.setIfInBounds_toArray, List.set_cons_zero, List.set_cons_succ]
  refine wpAnyHIn_take (i := 39) (v := ?_) rfl (by kernel_rfl) (by kernel_rfl) (by kernel_rfl) (by kernel_rfl) (fun c a w h => hQ c a _ _ w h) ⟨Or.inl ⟨by rfl, ?_⟩, fun _ => rfl⟩ hS ?_
  rotate_left 1
  · intro Wy hSy
    rw [hSdef] at hSy
    go_simp
    try with_reducible rfl
  simp only [List.getElem_toArray, List.getElem_cons_zero, List.getElem_cons_succ, Act.put, List.setIfInBounds_toArray, List.set_cons_zero, List.set_cons_succ]
  refine wpAnyHIn_take (i := 40) (v := ?_) rfl (by kernel_rfl) (by kernel_rfl) (by kernel_rfl) (by kernel_rfl) (fun c a w h => hQ c a _ _ w h) ⟨Or.inl ⟨by rfl, ?_⟩, fun _ => rfl⟩ hS ?_
  rotate_left 1
  · intro Wy hSy
    rw [hSdef] at hSy
    go_simp
    try with_reducible rfl
  simp only [List.getElem_toArray, List.getElem_cons_zero, List.getElem_cons_succ, Act.put, List.setIfInBounds_toArray, List.set_cons_zero, List.set_cons_succ]
  have hcx : ∀ w : World, (binOp .eql 95 (.agg cxV) (.agg cxV)).run Tryz.prog w = .ok (.bool true) w := fun _ => by kernel_rfl
  have gcx : ∀ w : World, (eqGuard .eql 95 (.tmp 227) (.tmp 228) (.agg cxV) (.agg cxV)).run Tryz.prog w = .ok () w := fun _ => by kernel_rfl
  unfold cxV at hcx gcx
  refine wpAnyHIn_take (i := 41) (v := ?_) rfl (by kernel_rfl) (by kernel_rfl) (by kernel_rfl) (by kernel_rfl) (fun c a w h => hQ c a _ _ w h) ⟨Or.inl ⟨by rfl, ?_⟩, fun _ => rfl⟩ hS ?_
  rotate_left 1
  · intro Wy hSy
    rw [hSdef] at hSy
    have hcb := (hSy.block _ (lt_of_blk (show w1.heap[B24]? = some _ from f24))).trans (show w1.heap[B24]? = some _ from f24)
    have x0 : Wy.cell? ⟨B24, 0, none⟩ = some (.complex .f32 1092616192 0) := by rw [cell_of_row Wy _ 0 _ _ (0, 0) hcb]; rfl
    have x1 : Wy.cell? ⟨B24, 1, none⟩ = some (.complex .f32 3221225472 1073741824) := by rw [cell_of_row Wy _ 1 _ _ (0, 0) hcb]; rfl
    have x2 : Wy.cell? ⟨B24, 2, none⟩ = some (.complex .f32 3221225472 0) := by rw [cell_of_row Wy _ 2 _ _ (0, 0) hcb]; rfl
    have x3 : Wy.cell? ⟨B24, 3, none⟩ = some (.complex .f32 3221225472 3221225472) := by rw [cell_of_row Wy _ 3 _ _ (0, 0) hcb]; rfl
    clear hcb
    go_simp
    try with_reducible rfl
  simp only [List.getElem_toArray, List.getElem_cons_zero, List.getElem_cons_succ, Act.put, List.setIfInBounds_toArray, List.set_cons_zero, List.set_cons_succ]
  refine wpAnyHIn_take (i := 42) (v := ?_) rfl (by kernel_rfl) (by kernel_rfl) (by kernel_rfl) (by kernel_rfl) (fun c a w h => hQ c a _ _ w h) ⟨Or.inl ⟨by rfl, ?_⟩, fun _ => rfl⟩ hS ?_
  rotate_left 1
  · intro Wy hSy
    rw [hSdef] at hSy
    go_simp
    try with_reducible rfl
  simp only [List.getElem_toArray, List.getElem_cons_zero, List.getElem_cons_succ, Act.put, List.setIfInBounds_toArray, List.set_cons_zero, List.set_cons_succ]
  refine wpAnyHIn_take (i := 43) (v := ?_) rfl (by kernel_rfl) (by kernel_rfl) (by kernel_rfl) (by kernel_rfl) (fun c a w h => hQ c a _ _ w h) ⟨Or.inl ⟨by rfl, ?_⟩, fun _ => rfl⟩ hS ?_
  rotate_left 1
  · intro Wy hSy
    rw [hSdef] at hSy
    go_simp
    try with_reducible rfl
  simp only [List.getElem_toArray, List.getElem_cons_zero, List.getElem_cons_succ, Act.put, List.setIfInBounds_toArray, List.set_cons_zero, List.set_cons_succ]
  refine wpAnyHIn_take (i := 44) (v := ?_) rfl (by kernel_rfl) (by kernel_rfl) (by kernel_rfl) (by kernel_rfl) (fun c a w h => hQ c a _ _ w h) ⟨Or.inl ⟨by rfl, ?_⟩, fun _ => rfl⟩ hS ?_
  rotate_left 1
  · intro Wy hSy
    rw [hSdef] at hSy
    go_simp
    try with_reducible rfl
  simp only [List.getElem_toArray, List.getElem_cons_zero, List.getElem_cons_succ, Act.put, List.setIfInBounds_toArray, List.set_cons_zero, List.set_cons_succ]
  refine wpAnyHIn_take (i := 45) (v := ?_) rfl (by kernel_rfl) (by kernel_rfl) (by kernel_rfl) (by kernel_rfl) (fun c a w h => hQ c a _ _ w h) ⟨Or.inl ⟨by rfl, ?_⟩, fun _ => rfl⟩ hS ?_
  rotate_left 1
  · intro Wy hSy
    rw [hSdef] at hSy
    go_simp
    try with_reducible rfl
  simp only [List.getElem_toArray, List.getElem_cons_zero, List.getElem_cons_succ, Act.put, List.setIfInBounds_toArray, List.set_cons_zero, List.set_cons_succ]
  subst hSdef
  exact r20d Q hQ w1 _ hd1 a32 c32 B26 f26 B28 f28 gd cd hgd hcd hE _ (by kernel_rfl) _ _ _ _ _ _ _ _ _ _ _ _ _ _ _ _ _ _ _ _ _ _ _ _ _ _ _ _ _ _ _ _ _ _ _ _ _ _ _ _ _ _ _ _ _ _ _ _ _ _ _ _ _ _ _ _ _ _ _ _ _ _ _ _ _ _ _ _ _ _ _ _ _ _ _ _ _ _ _ _ _ _ _ _ _ _ _ _ _ _ _ _ _ _ _ _ _ _ _ _ _ _ _ _ _ _ _ _ _ _ _ _ _ _ _ _ _ _ _ _ _ _ _ _ _ _ _ _ _ _ _ _ _ _ _ _ _ _ _ _ _ _ _ _ _ _ _ _ _ _ _ _ _ _ _ _ _ _ _ _ _ _ _ _ _ _ _ _ _ _ _ _ _ _ _ _ _ _ _ _ _ _ _ _ _ _ _ _ _ _ _ _ _ _ _ _ _ _ _ _ _ _ _ _ _ _ _ _ _ _ _ _ _ _ _ _ _ _ _ _ _ _ _ _ _ _ _ _ _ _ _ _ _ _ _ _ _ _ _ _ _ _ _ _ _ _ _ _ _ _ _

end Go.Proofs.YtfdkmmllemkogaaGreatDoor
