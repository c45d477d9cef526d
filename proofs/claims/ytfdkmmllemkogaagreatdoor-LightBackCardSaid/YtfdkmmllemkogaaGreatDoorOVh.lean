/-
  The walk of awake, chapter 1's fixed examples: the last statement's order, from its end.
-/
import Derived.Test.YtfdkmmllemkogaaGreatDoorOVg
import Derived.Test.YtfdkmmllemkogaaGreatDoorOShl
import Derived.Deep.CutBlock
import Derived.Deep.DeepCutAuto
namespace Go.Proofs.YtfdkmmllemkogaaGreatDoor
open Go.RowKit Go.Shelf
set_option linter.unusedVariables false
set_option linter.unusedSimpArgs false

def opsAt (n : Nat) : Code → Option (Array Oper)
  | .region m ops _ => if m == n then some ops else none
  | .seq a b => match opsAt n a with
    | some o => some o
    | none => opsAt n b
  | .loop c => opsAt n c
  | .block _ c => opsAt n c
  | .scope c => opsAt n c
  | .cond _ a b => match opsAt n a with
    | some o => some o
    | none => opsAt n b
  | _ => none
noncomputable def ops20 : Array Oper := (Tryz.f19.body.bind (opsAt 20)).getD #[]
abbrev S20 (w1 : World) : World → Prop := fun w' => Below w1.heap.size w1 w'
def listed20 (n : Nat) : Array Bool := (List.replicate n true ++ List.replicate (72 - n) false).toArray
set_option maxRecDepth 1000000 in
/-- What stands behind the region. -/
def End20 (Q : Exit → Act → World → Prop) (w1 : World) : Prop := ∀ (V : World) (u1 u2 u3 u4 u5 u6 u7 u8 u9 u10 u11 u12 u13 u14 u15 u16 u17 u18 u19 u20 u21 u22 u23 u24 u25 u26 u27 u28 u29 u30 u31 u32 u33 u34 u35 u36 u37 u38 u39 u40 u41 u42 u43 u44 u45 u46 u47 u48 u49 u50 u51 u52 u53 u54 u55 u56 u57 u58 u59 u60 u61 u62 u63 u64 u65 u66 u67 u68 u69 u70 u71 u72 u73 u74 u75 u76 u77 u78 u79 u80 u81 u82 u83 u84 u85 u86 u87 u88 u89 u90 u91 u92 u93 u94 u95 u96 u97 u98 u99 u100 u101 u102 u103 u104 u105 u106 u107 u108 u109 u110 u111 u112 u113 u114 u115 u116 u117 u118 u119 u120 u121 u122 u123 u124 u125 u126 u127 u128 u129 u130 u131 u132 u133 u134 u135 u136 u137 u138 u139 u140 u141 u142 u143 u144 u145 u146 u147 u148 u149 u150 u151 u152 u153 u154 u155 u156 u157 u158 u159 u160 u161 u162 u163 u164 u165 u166 u167 u168 u169 u170 u171 u172 u173 u174 u175 u176 u177 u178 u179 u180 u181 u182 u183 u184 u185 u186 u187 u188 u189 u190 u191 u192 u193 u194 u195 u196 u197 u198 u199 u200 u201 u202 u203 u204 u205 u206 u207 u208 u209 u210 u211 u212 u213 u214 u215 u216 u217 u218 u219 u220 u221 u222 u223 u224 u225 u226 u227 u228 u229 u230 u231 u232 u233 u234 u235 u236 u237 u238 u239 u240 u241 u242 u243 u244 u245 u246 u247 u248 u249 u250 u251 u252 u253 u254 u255 u256 : Value), Below w1.heap.size w1 V → Q .normal ⟨#[.bool true, u1, u2, u3, u4, u5, u6, u7, u8, u9, u10, u11, u12, u13, u14, u15, u16, u17, u18, u19, u20, u21, u22, u23, u24, u25, u26, u27, u28, u29, u30, u31, u32, u33, u34, u35, u36, u37, u38, u39, u40, u41, u42, u43, u44, u45, u46, u47, u48, u49, u50, u51, u52, u53, u54, u55, u56, u57, u58, u59, u60, u61, u62, u63, u64, u65, u66, u67, u68, u69, u70, u71, u72, u73, u74, u75, u76, u77, u78, u79, u80, u81, u82, u83, u84, u85, u86, u87, u88, u89, u90, u91, u92, u93, u94, u95, u96, u97, u98, u99, u100, u101, u102, u103, u104, u105, u106, u107, u108, u109, u110, u111, u112, u113, u114, u115, u116, u117, u118, u119, u120, u121, u122, u123, u124, u125, u126, u127, u128, u129, u130, u131, u132, u133, u134, u135, u136, u137, u138, u139, u140, u141, u142, u143, u144, u145, u146, u147, u148, u149, u150, u151, u152, u153, u154, u155, u156, u157, u158, u159, u160, u161, u162, u163, u164, u165, u166, u167, u168, u169, u170, u171, u172, u173, u174, u175, u176, u177, u178, u179, u180, u181, u182, u183, u184, u185, u186, u187, u188, u189, u190, u191, u192, u193, u194, u195, u196, u197, u198, u199, u200, u201, u202, u203, u204, u205, u206, u207, u208, u209, u210, u211, u212, u213, u214, u215, u216, u217, u218, u219, u220, u221, u222, u223, u224, u225, u226, u227, u228, u229, u230, u231, u232, u233, u234, u235, u236, u237, u238, u239, u240, u241, u242, u243, u244, u245, u246, u247, u248, u249, u250, u251, u252, u253, u254, u255, u256], []⟩ V

def cxV : Array Value := #[.complex .f32 1092616192 0, .complex .f32 3221225472 1073741824, .complex .f32 3221225472 0, .complex .f32 3221225472 3221225472]
def frA : Array Value := #[.int .u8 77, .int .u8 1, .int .u8 1, .int .u8 2, .int .u8 3, .int .u8 0, .int .u8 16, .int .u8 0, .int .u8 5, .int .u8 0, .int .u8 15, .int .u8 255, .int .u8 251, .int .u8 0, .int .u8 16, .int .u8 0, .int .u8 0, .int .u8 254, .int .u8 254, .int .u8 253]
theorem frV_take : ∀ (j : Nat) (v : Value), ([.int .u8 77, .int .u8 1, .int .u8 1, .int .u8 2, .int .u8 3, .int .u8 0, .int .u8 16, .int .u8 0, .int .u8 5, .int .u8 0, .int .u8 15, .int .u8 255, .int .u8 251, .int .u8 0, .int .u8 16, .int .u8 0, .int .u8 0, .int .u8 254, .int .u8 254, .int .u8 253] : List Value)[j]? = some v → frV.toArray[j]? = some v := by
  intro j v h
  have e : frV.take 20 = [.int .u8 77, .int .u8 1, .int .u8 1, .int .u8 2, .int .u8 3, .int .u8 0, .int .u8 16, .int .u8 0, .int .u8 5, .int .u8 0, .int .u8 15, .int .u8 255, .int .u8 251, .int .u8 0, .int .u8 16, .int .u8 0, .int .u8 0, .int .u8 254, .int .u8 254, .int .u8 253] := by kernel_rfl
  rw [← e, List.getElem?_take] at h
  split at h
  · rw [List.getElem?_toArray]; exact h
  · cases h
def teA : Array Value := #[.int .i64 1, .int .i64 258, .int .i64 3, .int .i64 5, .int .i64 (-5), .int .i64 0]

set_option maxRecDepth 1000000 in
set_option maxHeartbeats 25600000 in
theorem r20f (Q : Exit → Act → World → Prop) (hQ : ∀ c (a : Act) d v w, Q (.panic c) (a.put d v) w → Q (.panic c) a w) (w1 V : World) (hV : Below w1.heap.size w1 V) (a32 : Option Addr) (c32 : Nat) (gd cd : Nat) (hgd : gd < w1.heap.size) (hcd : ∀ j, j < 2 → w1.cell? ⟨gd, j, none⟩ = some (.int .i64 (([1, 0] : List Int)[j]?.getD 0))) (hE : End20 Q w1) (listed : Array Bool) (hl : listed = listed20 62) (u0 u1 u2 u3 u4 u5 u6 u7 u8 u9 u10 u11 u12 u13 u14 u15 u16 u17 u18 u19 u20 u21 u22 u23 u24 u25 u26 u27 u28 u29 u31 u33 u35 u36 u37 u38 u39 u40 u41 u42 u43 u44 u45 u46 u47 u48 u49 u50 u51 u52 u53 u54 u55 u56 u57 u58 u59 u60 u61 u62 u63 u64 u65 u66 u67 u68 u69 u70 u71 u72 u73 u74 u75 u76 u77 u78 u79 u80 u81 u82 u83 u84 u85 u86 u87 u88 u89 u90 u91 u92 u93 u94 u95 u96 u97 u98 u99 u100 u101 u102 u103 u104 u105 u106 u107 u108 u109 u110 u111 u112 u113 u114 u115 u116 u117 u118 u119 u120 u121 u122 u123 u124 u125 u126 u127 u128 u129 u130 u131 u132 u133 u134 u135 u136 u137 u138 u139 u140 u141 u142 u143 u144 u145 u146 u147 u148 u149 u150 u151 u152 u153 u154 u155 u156 u157 u158 u159 u160 u161 u162 u163 u164 u165 u166 u167 u168 u169 u170 u171 u172 u173 u174 u175 u176 u177 u178 u179 u180 u181 u182 u183 u184 u185 u186 u187 u188 u189 u190 u191 u192 u193 u194 u195 u196 u197 u198 u199 u200 u201 u202 u203 u204 u205 u206 u207 u208 u209 u210 u211 u212 u213 u214 u215 u216 u217 u218 u219 u220 u221 u222 u223 u224 u225 u226 u227 u228 u229 u230 u231 u232 u233 u234 u235 u236 u237 u238 u239 u240 u241 u242 u243 u244 u245 u246 u248 u249 u250 u251 u252 u253 u254 u255 u256 : Value) :
    wpAnyHIn Fence.wide 6 Tryz.prog .any ops20 Q (S20 w1) 10 listed ⟨#[u0, u1, u2, u3, u4, u5, u6, u7, u8, u9, u10, u11, u12, u13, u14, u15, u16, u17, u18, u19, u20, u21, u22, u23, u24, u25, u26, u27, u28, u29, strV prS, u31, .slice a32 18 c32, u33, .slice (some ⟨gd, 0, none⟩) 2 cd, u35, u36, u37, u38, u39, u40, u41, u42, u43, u44, u45, u46, u47, u48, u49, u50, u51, u52, u53, u54, u55, u56, u57, u58, u59, u60, u61, u62, u63, u64, u65, u66, u67, u68, u69, u70, u71, u72, u73, u74, u75, u76, u77, u78, u79, u80, u81, u82, u83, u84, u85, u86, u87, u88, u89, u90, u91, u92, u93, u94, u95, u96, u97, u98, u99, u100, u101, u102, u103, u104, u105, u106, u107, u108, u109, u110, u111, u112, u113, u114, u115, u116, u117, u118, u119, u120, u121, u122, u123, u124, u125, u126, u127, u128, u129, u130, u131, u132, u133, u134, u135, u136, u137, u138, u139, u140, u141, u142, u143, u144, u145, u146, u147, u148, u149, u150, u151, u152, u153, u154, u155, u156, u157, u158, u159, u160, u161, u162, u163, u164, u165, u166, u167, u168, u169, u170, u171, u172, u173, u174, u175, u176, u177, u178, u179, u180, u181, u182, u183, u184, u185, u186, u187, u188, u189, u190, u191, u192, u193, u194, u195, u196, u197, u198, u199, u200, u201, u202, u203, u204, u205, u206, u207, u208, u209, u210, u211, u212, u213, u214, u215, u216, u217, u218, u219, u220, u221, u222, u223, u224, u225, u226, u227, u228, u229, u230, u231, u232, u233, u234, u235, u236, u237, u238, u239, u240, u241, u242, u243, u244, u245, u246, .bool true, u248, u249, u250, u251, u252, u253, u254, u255, u256], []⟩ V := by
  subst hl
  conv => arg 5; whnf
  simp only [List.append_eq, List.cons_append, List.nil_append]
  obtain ⟨S, hSdef⟩ : ∃ S : World → Prop, S = fun w' => Below w1.heap.size w1 w' := ⟨_, rfl⟩
  have hS : S V := by rw [hSdef]; exact hV
  show wpAnyHIn _ _ _ _ _ _ (fun w' => Below w1.heap.size w1 w') _ _ _ _
  rw [← hSdef]
  refine wpAnyHIn_take (i := 62) (v := ?_) rfl (by kernel_rfl) (by kernel_rfl) (by kernel_rfl) (by kernel_rfl) (fun c a w h => hQ c a _ _ w h) ⟨Or.inl ⟨by rfl, ?_⟩, fun _ => rfl⟩ hS ?_
  rotate_left 1
  · intro Wy hSy
    rw [hSdef] at hSy
    go_simp
    try with_reducible rfl
  simp only [List.getElem_toArray, List.getElem_cons_zero, List.getElem_cons_succ, Act.put, List.setIfInBounds_toArray, List.set_cons_zero, List.set_cons_succ]
  refine wpAnyHIn_take (i := 63) (v := ?_) rfl (by kernel_rfl) (by kernel_rfl) (by kernel_rfl) (by kernel_rfl) (fun c a w h => hQ c a _ _ w h) ⟨Or.inl ⟨by rfl, ?_⟩, fun _ => rfl⟩ hS ?_
  rotate_left 1
  · intro Wy hSy
    rw [hSdef] at hSy
    go_simp
    try with_reducible rfl
  simp only [List.getElem_toArray, List.getElem_cons_zero, List.getElem_cons_succ, Act.put, List.setIfInBounds_toArray, List.set_cons_zero, List.set_cons_succ]
  refine wpAnyHIn_take (i := 64) (v := ?_) rfl (by kernel_rfl) (by kernel_rfl) (by kernel_rfl) (by kernel_rfl) (fun c a w h => hQ c a _ _ w h) ⟨Or.inl ⟨by rfl, ?_⟩, fun _ => rfl⟩ hS ?_
  rotate_left 1
  · intro Wy hSy
    rw [hSdef] at hSy
    go_simp
    try with_reducible rfl
  simp only [List.getElem_toArray, List.getElem_cons_zero, List.getElem_cons_succ, Act.put, List.setIfInBounds_toArray, List.set_cons_zero, List.set_cons_succ]
  refine wpAnyHIn_take (i := 65) (v := ?_) rfl (by kernel_rfl) (by kernel_rfl) (by kernel_rfl) (by kernel_rfl) (fun c a w h => hQ c a _ _ w h) ⟨Or.inl ⟨by rfl, ?_⟩, fun _ => rfl⟩ hS ?_
  rotate_left 1
  · intro Wy hSy
    rw [hSdef] at hSy
    go_simp
    try with_reducible rfl
  simp only [List.getElem_toArray, List.getElem_cons_zero, List.getElem_cons_succ, Act.put, List.setIfInBounds_toArray, List.set_cons_zero, List.set_cons_succ]
  refine wpAnyHIn_take (i := 66) (v := ?_) rfl (by kernel_rfl) (by kernel_rfl) (by kernel_rfl) (by kernel_rfl) (fun c a w h => hQ c a _ _ w h) ⟨Or.inl ⟨by rfl, ?_⟩, fun _ => rfl⟩ hS ?_
  rotate_left 1
  · intro Wy hSy
    rw [hSdef] at hSy
    go_simp
    try with_reducible rfl
  simp only [List.getElem_toArray, List.getElem_cons_zero, List.getElem_cons_succ, Act.put, List.setIfInBounds_toArray, List.set_cons_zero, List.set_cons_succ]
  refine wpAnyHIn_take (i := 67) (v := ?_) rfl (by kernel_rfl) (by kernel_rfl) (by kernel_rfl) (by kernel_rfl) (fun c a w h => hQ c a _ _ w h) ⟨Or.inl ⟨by rfl, ?_⟩, fun _ => rfl⟩ hS ?_
  rotate_left 1
  · intro Wy hSy
    rw [hSdef] at hSy
    go_simp
    try with_reducible rfl
  simp only [List.getElem_toArray, List.getElem_cons_zero, List.getElem_cons_succ, Act.put, List.setIfInBounds_toArray, List.set_cons_zero, List.set_cons_succ]
  have hI5 : Below V.heap.size V (V.alloc (.cells #[.int .i64 1, .int .i64 0] 3)) := (Below.refl _ V).alloc (Nat.le_refl _) _
  have K69 := Lib.hid (sameInts_any (w := V.alloc (.cells #[.int .i64 1, .int .i64 0] 3)) (some ⟨gd, 0, none⟩) (some ⟨V.heap.size, 0, none⟩) 2 cd 2 [1, 0] (by omega) (fun j hj => ⟨gd, 0, rfl, by have := hV.size; simp; omega, by rw [Nat.zero_add]; exact (hI5.cell (p := ⟨gd, j, none⟩) (by have := hV.size; show gd < _; omega)).trans ((hV.cell (p := ⟨gd, j, none⟩) hgd).trans (hcd j hj))⟩) (fun j hj => ⟨V.heap.size, 0, rfl, by simp, by
    rw [Nat.zero_add, cell_of_row _ _ j _ _ (0, 0) (blk_alloc_new V (.cells #[.int .i64 1, .int .i64 0] 3))]
    match j, hj with
    | 0, _ => rfl
    | 1, _ => rfl⟩))
  refine wpAnyHIn_one (i := 68) (by kernel_rfl) rfl (fun K hK => ?_)
  go_simp
  refine hK _ _ (by rw [hSdef]; exact hV.alloc hV.size _) ?_
  clear hK K
  try simp only [List.getElem_toArray, List.getElem_cons_zero, List.getElem_cons_succ, Act.put, List.setIfInBounds_toArray, List.set_cons_zero, List.set_cons_succ]
  refine wpAnyHIn_one (i := 69) (by kernel_rfl) rfl (fun K hK => ?_)
  go_simp
  refine ⟨trivial, ?_⟩
  gi_at_call 101
  refine (callsIn_wide.2 K69.out).mono ?_
  rintro e v6 ⟨rfl, hc6⟩
  have hd6 : Below w1.heap.size w1 v6 := (hV.trans (hI5.mono hV.size)).trans (hc6.mono (by have := hV.size; simp; omega))
  have hS : S v6 := by rw [hSdef]; exact hd6
  try gi_wp2_with fail
  refine hK _ _ hS ?_
  clear hK K
  try simp only [List.getElem_toArray, List.getElem_cons_zero, List.getElem_cons_succ, Act.put, List.setIfInBounds_toArray, List.set_cons_zero, List.set_cons_succ]
  refine wpAnyHIn_take (i := 70) (v := ?_) rfl (by kernel_rfl) (by kernel_rfl) (by kernel_rfl) (by kernel_rfl) (fun c a w h => hQ c a _ _ w h) ⟨Or.inl ⟨by rfl, ?_⟩, fun _ => rfl⟩ hS ?_
  rotate_left 1
  · intro Wy hSy
    rw [hSdef] at hSy
    go_simp
    try with_reducible rfl
  simp only [List.getElem_toArray, List.getElem_cons_zero, List.getElem_cons_succ, Act.put, List.setIfInBounds_toArray, List.set_cons_zero, List.set_cons_succ]
  refine wpAnyHIn_take (i := 71) (v := ?_) rfl (by kernel_rfl) (by kernel_rfl) (by kernel_rfl) (by kernel_rfl) (fun c a w h => hQ c a _ _ w h) ⟨Or.inl ⟨by rfl, ?_⟩, fun _ => rfl⟩ hS ?_
  rotate_left 1
  · intro Wy hSy
    rw [hSdef] at hSy
    go_simp
    try with_reducible rfl
  simp only [List.getElem_toArray, List.getElem_cons_zero, List.getElem_cons_succ, Act.put, List.setIfInBounds_toArray, List.set_cons_zero, List.set_cons_succ]
  refine wpAnyHIn_done (by kernel_rfl) ?_ _
  unfold End20 at hE
  exact hE _ _ _ _ _ _ _ _ _ _ _ _ _ _ _ _ _ _ _ _ _ _ _ _ _ _ _ _ _ _ _ _ _ _ _ _ _ _ _ _ _ _ _ _ _ _ _ _ _ _ _ _ _ _ _ _ _ _ _ _ _ _ _ _ _ _ _ _ _ _ _ _ _ _ _ _ _ _ _ _ _ _ _ _ _ _ _ _ _ _ _ _ _ _ _ _ _ _ _ _ _ _ _ _ _ _ _ _ _ _ _ _ _ _ _ _ _ _ _ _ _ _ _ _ _ _ _ _ _ _ _ _ _ _ _ _ _ _ _ _ _ _ _ _ _ _ _ _ _ _ _ _ _ _ _ _ _ _ _ _ _ _ _ _ _ _ _ _ _ _ _ _ _ _ _ _ _ _ _ _ _ _ _ _ _ _ _ _ _ _ _ _ _ _ _ _ _ _ _ _ _ _ _ _ _ _ _ _ _ _ _ _ _ _ _ _ _ _ _ _ _ _ _ _ _ _ _ _ _ _ _ _ _ _ _ _ _ _ _ _ _ _ _ _ _ _ _ _ _ _ _ _ _ _ _ _ _ hd6

set_option maxRecDepth 1000000 in
set_option maxHeartbeats 25600000 in
theorem r20e (Q : Exit → Act → World → Prop) (hQ : ∀ c (a : Act) d v w, Q (.panic c) (a.put d v) w → Q (.panic c) a w) (w1 V : World) (hV : Below w1.heap.size w1 V) (a32 : Option Addr) (c32 : Nat) (B28 : Nat) (f28 : TBox w1 B28) (gd cd : Nat) (hgd : gd < w1.heap.size) (hcd : ∀ j, j < 2 → w1.cell? ⟨gd, j, none⟩ = some (.int .i64 (([1, 0] : List Int)[j]?.getD 0))) (hE : End20 Q w1) (listed : Array Bool) (hl : listed = listed20 53) (u0 u1 u2 u3 u4 u5 u6 u7 u8 u9 u10 u11 u12 u13 u14 u15 u16 u17 u18 u19 u20 u21 u22 u23 u24 u25 u26 u27 u29 u31 u33 u35 u36 u37 u38 u39 u40 u41 u42 u43 u44 u45 u46 u47 u48 u49 u50 u51 u52 u53 u54 u55 u56 u57 u58 u59 u60 u61 u62 u63 u64 u65 u66 u67 u68 u69 u70 u71 u72 u73 u74 u75 u76 u77 u78 u79 u80 u81 u82 u83 u84 u85 u86 u87 u88 u89 u90 u91 u92 u93 u94 u95 u96 u97 u98 u99 u100 u101 u102 u103 u104 u105 u106 u107 u108 u109 u110 u111 u112 u113 u114 u115 u116 u117 u118 u119 u120 u121 u122 u123 u124 u125 u126 u127 u128 u129 u130 u131 u132 u133 u134 u135 u136 u137 u138 u139 u140 u141 u142 u143 u144 u145 u146 u147 u148 u149 u150 u151 u152 u153 u154 u155 u156 u157 u158 u159 u160 u161 u162 u163 u164 u165 u166 u167 u168 u169 u170 u171 u172 u173 u174 u175 u176 u177 u178 u179 u180 u181 u182 u183 u184 u185 u186 u187 u188 u189 u190 u191 u192 u193 u194 u195 u196 u197 u198 u199 u200 u201 u202 u203 u204 u205 u206 u207 u208 u209 u210 u211 u212 u213 u214 u215 u216 u217 u218 u219 u220 u221 u222 u223 u224 u225 u226 u227 u228 u229 u230 u231 u232 u233 u234 u235 u236 u237 u239 u240 u241 u242 u243 u244 u245 u246 u247 u248 u249 u250 u251 u252 u253 u254 u255 u256 : Value) :
    wpAnyHIn Fence.wide 6 Tryz.prog .any ops20 Q (S20 w1) 19 listed ⟨#[u0, u1, u2, u3, u4, u5, u6, u7, u8, u9, u10, u11, u12, u13, u14, u15, u16, u17, u18, u19, u20, u21, u22, u23, u24, u25, u26, u27, .pointer (some ⟨B28, 0, none⟩), u29, strV prS, u31, .slice a32 18 c32, u33, .slice (some ⟨gd, 0, none⟩) 2 cd, u35, u36, u37, u38, u39, u40, u41, u42, u43, u44, u45, u46, u47, u48, u49, u50, u51, u52, u53, u54, u55, u56, u57, u58, u59, u60, u61, u62, u63, u64, u65, u66, u67, u68, u69, u70, u71, u72, u73, u74, u75, u76, u77, u78, u79, u80, u81, u82, u83, u84, u85, u86, u87, u88, u89, u90, u91, u92, u93, u94, u95, u96, u97, u98, u99, u100, u101, u102, u103, u104, u105, u106, u107, u108, u109, u110, u111, u112, u113, u114, u115, u116, u117, u118, u119, u120, u121, u122, u123, u124, u125, u126, u127, u128, u129, u130, u131, u132, u133, u134, u135, u136, u137, u138, u139, u140, u141, u142, u143, u144, u145, u146, u147, u148, u149, u150, u151, u152, u153, u154, u155, u156, u157, u158, u159, u160, u161, u162, u163, u164, u165, u166, u167, u168, u169, u170, u171, u172, u173, u174, u175, u176, u177, u178, u179, u180, u181, u182, u183, u184, u185, u186, u187, u188, u189, u190, u191, u192, u193, u194, u195, u196, u197, u198, u199, u200, u201, u202, u203, u204, u205, u206, u207, u208, u209, u210, u211, u212, u213, u214, u215, u216, u217, u218, u219, u220, u221, u222, u223, u224, u225, u226, u227, u228, u229, u230, u231, u232, u233, u234, u235, u236, u237, .bool true, u239, u240, u241, u242, u243, u244, u245, u246, u247, u248, u249, u250, u251, u252, u253, u254, u255, u256], []⟩ V := by
  subst hl
  conv => arg 5; whnf
  simp only [List.append_eq, List.cons_append, List.nil_append]
  obtain ⟨S, hSdef⟩ : ∃ S : World → Prop, S = fun w' => Below w1.heap.size w1 w' := ⟨_, rfl⟩
  have hS : S V := by rw [hSdef]; exact hV
  show wpAnyHIn _ _ _ _ _ _ (fun w' => Below w1.heap.size w1 w') _ _ _ _
  rw [← hSdef]
  have htl : ∀ w : World, (binOp .eql 112 (.agg teA) (.agg teA)).run Tryz.prog w = .ok (.bool true) w := fun _ => by kernel_rfl
  have gtl : ∀ w : World, (eqGuard .eql 112 (.tmp 239) (.tmp 240) (.agg teA) (.agg teA)).run Tryz.prog w = .ok () w := fun _ => by kernel_rfl
  have hst : ∀ w : World, (binOp .eql 9 (strV prS) (.string ⟨#[109, 97, 112, 32, 50, 32, 49, 10, 114, 111, 119, 32, 49, 54, 32, 45, 56, 10]⟩)).run Tryz.prog w = .ok (.bool true) w := fun _ => by kernel_rfl
  have gst : ∀ w : World, (eqGuard .eql 9 (.tmp 244) (.const (.string ⟨#[109, 97, 112, 32, 50, 32, 49, 10, 114, 111, 119, 32, 49, 54, 32, 45, 56, 10]⟩)) (strV prS) (.string ⟨#[109, 97, 112, 32, 50, 32, 49, 10, 114, 111, 119, 32, 49, 54, 32, 45, 56, 10]⟩)).run Tryz.prog w = .ok () w := fun _ => by kernel_rfl
  unfold teA at htl gtl
  refine wpAnyHIn_take (i := 53) (v := ?_) rfl (by kernel_rfl) (by kernel_rfl) (by kernel_rfl) (by kernel_rfl) (fun c a w h => hQ c a _ _ w h) ⟨Or.inl ⟨by rfl, ?_⟩, fun _ => rfl⟩ hS ?_
  rotate_left 1
  · intro Wy hSy
    rw [hSdef] at hSy
    have hcb := (hSy.block _ (lt_of_blk (show w1.heap[B28]? = some _ from f28))).trans (show w1.heap[B28]? = some _ from f28)
    have x0 : Wy.cell? ⟨B28, 0, none⟩ = some (.int .i64 1) := by rw [cell_of_row Wy _ 0 _ _ (0, 0) hcb]; rfl
    have x1 : Wy.cell? ⟨B28, 1, none⟩ = some (.int .i64 258) := by rw [cell_of_row Wy _ 1 _ _ (0, 0) hcb]; rfl
    have x2 : Wy.cell? ⟨B28, 2, none⟩ = some (.int .i64 3) := by rw [cell_of_row Wy _ 2 _ _ (0, 0) hcb]; rfl
    have x3 : Wy.cell? ⟨B28, 3, none⟩ = some (.int .i64 5) := by rw [cell_of_row Wy _ 3 _ _ (0, 0) hcb]; rfl
    have x4 : Wy.cell? ⟨B28, 4, none⟩ = some (.int .i64 (-5)) := by rw [cell_of_row Wy _ 4 _ _ (0, 0) hcb]; rfl
    have x5 : Wy.cell? ⟨B28, 5, none⟩ = some (.int .i64 0) := by rw [cell_of_row Wy _ 5 _ _ (0, 0) hcb]; rfl
    clear hcb
    go_simp
    try with_reducible rfl
  simp only [List.getElem_toArray, List.getElem_cons_zero, List.getElem_cons_succ, Act.put, List.setIfInBounds_toArray, List.set_cons_zero, List.set_cons_succ]
  have K54 := Lib.hid (order_any V)
  refine wpAnyHIn_one (i := 54) (by kernel_rfl) rfl (fun K hK => ?_)
  go_simp
  refine ⟨trivial, ?_⟩
  gi_at_call 108
  refine (callsIn_wide.2 K54.out).mono ?_
  rintro e v5 ⟨rfl, hc5⟩
  have hd5 : Below w1.heap.size w1 v5 := hV.trans (hc5.mono hV.size)
  have hS : S v5 := by rw [hSdef]; exact hd5
  try gi_wp2_with fail
  refine hK _ _ hS ?_
  clear hK K
  try simp only [List.getElem_toArray, List.getElem_cons_zero, List.getElem_cons_succ, Act.put, List.setIfInBounds_toArray, List.set_cons_zero, List.set_cons_succ]
  refine wpAnyHIn_take (i := 55) (v := ?_) rfl (by kernel_rfl) (by kernel_rfl) (by kernel_rfl) (by kernel_rfl) (fun c a w h => hQ c a _ _ w h) ⟨Or.inl ⟨by rfl, ?_⟩, fun _ => rfl⟩ hS ?_
  rotate_left 1
  · intro Wy hSy
    rw [hSdef] at hSy
    go_simp
    try with_reducible rfl
  simp only [List.getElem_toArray, List.getElem_cons_zero, List.getElem_cons_succ, Act.put, List.setIfInBounds_toArray, List.set_cons_zero, List.set_cons_succ]
  refine wpAnyHIn_take (i := 56) (v := ?_) rfl (by kernel_rfl) (by kernel_rfl) (by kernel_rfl) (by kernel_rfl) (fun c a w h => hQ c a _ _ w h) ⟨Or.inl ⟨by rfl, ?_⟩, fun _ => rfl⟩ hS ?_
  rotate_left 1
  · intro Wy hSy
    rw [hSdef] at hSy
    go_simp
    try with_reducible rfl
  simp only [List.getElem_toArray, List.getElem_cons_zero, List.getElem_cons_succ, Act.put, List.setIfInBounds_toArray, List.set_cons_zero, List.set_cons_succ]
  refine wpAnyHIn_take (i := 57) (v := ?_) rfl (by kernel_rfl) (by kernel_rfl) (by kernel_rfl) (by kernel_rfl) (fun c a w h => hQ c a _ _ w h) ⟨Or.inl ⟨by rfl, ?_⟩, fun _ => rfl⟩ hS ?_
  rotate_left 1
  · intro Wy hSy
    rw [hSdef] at hSy
    go_simp
    try with_reducible rfl
  simp only [List.getElem_toArray, List.getElem_cons_zero, List.getElem_cons_succ, Act.put, List.setIfInBounds_toArray, List.set_cons_zero, List.set_cons_succ]
  refine wpAnyHIn_take (i := 58) (v := ?_) rfl (by kernel_rfl) (by kernel_rfl) (by kernel_rfl) (by kernel_rfl) (fun c a w h => hQ c a _ _ w h) ⟨Or.inl ⟨by rfl, ?_⟩, fun _ => rfl⟩ hS ?_
  rotate_left 1
  · intro Wy hSy
    rw [hSdef] at hSy
    go_simp
    try with_reducible rfl
  simp only [List.getElem_toArray, List.getElem_cons_zero, List.getElem_cons_succ, Act.put, List.setIfInBounds_toArray, List.set_cons_zero, List.set_cons_succ]
  refine wpAnyHIn_take (i := 59) (v := ?_) rfl (by kernel_rfl) (by kernel_rfl) (by kernel_rfl) (by kernel_rfl) (fun c a w h => hQ c a _ _ w h) ⟨Or.inl ⟨by rfl, ?_⟩, fun _ => rfl⟩ hS ?_
  rotate_left 1
  · intro Wy hSy
    rw [hSdef] at hSy
    go_simp
    try with_reducible rfl
  simp only [List.getElem_toArray, List.getElem_cons_zero, List.getElem_cons_succ, Act.put, List.setIfInBounds_toArray, List.set_cons_zero, List.set_cons_succ]
  refine wpAnyHIn_take (i := 60) (v := ?_) rfl (by kernel_rfl) (by kernel_rfl) (by kernel_rfl) (by kernel_rfl) (fun c a w h => hQ c a _ _ w h) ⟨Or.inl ⟨by rfl, ?_⟩, fun _ => rfl⟩ hS ?_
  rotate_left 1
  · intro Wy hSy
    rw [hSdef] at hSy
    go_simp
    try with_reducible rfl
  simp only [List.getElem_toArray, List.getElem_cons_zero, List.getElem_cons_succ, Act.put, List.setIfInBounds_toArray, List.set_cons_zero, List.set_cons_succ]
  refine wpAnyHIn_take (i := 61) (v := ?_) rfl (by kernel_rfl) (by kernel_rfl) (by kernel_rfl) (by kernel_rfl) (fun c a w h => hQ c a _ _ w h) ⟨Or.inl ⟨by rfl, ?_⟩, fun _ => rfl⟩ hS ?_
  rotate_left 1
  · intro Wy hSy
    rw [hSdef] at hSy
    go_simp
    try with_reducible rfl
  simp only [List.getElem_toArray, List.getElem_cons_zero, List.getElem_cons_succ, Act.put, List.setIfInBounds_toArray, List.set_cons_zero, List.set_cons_succ]
  subst hSdef
  exact r20f Q hQ w1 _ hd5 a32 c32 gd cd hgd hcd hE _ (by kernel_rfl) _ _ _ _ _ _ _ _ _ _ _ _ _ _ _ _ _ _ _ _ _ _ _ _ _ _ _ _ _ _ _ _ _ _ _ _ _ _ _ _ _ _ _ _ _ _ _ _ _ _ _ _ _ _ _ _ _ _ _ _ _ _ _ _ _ _ _ _ _ _ _ _ _ _ _ _ _ _ _ _ _ _ _ _ _ _ _ _ _ _ _ _ _ _ _ _ _ _ _ _ _ _ _ _ _ _ _ _ _ _ _ _ _ _ _ _ _ _ _ _ _ _ _ _ _ _ _ _ _ _ _ _ _ _ _ _ _ _ _ _ _ _ _ _ _ _ _ _ _ _ _ _ _ _ _ _ _ _ _ _ _ _ _ _ _ _ _ _ _ _ _ _ _ _ _ _ _ _ _ _ _ _ _ _ _ _ _ _ _ _ _ _ _ _ _ _ _ _ _ _ _ _ _ _ _ _ _ _ _ _ _ _ _ _ _ _ _ _ _ _ _ _ _ _ _ _ _ _ _ _ _ _ _ _ _ _ _ _ _ _ _ _ _ _ _ _ _ _ _ _ _ _ _

end Go.Proofs.YtfdkmmllemkogaaGreatDoor
