/-
  TopEmberSent, given what stands behind region 28.
-/
import Derived.Test.YtfdkmmllemkogaaOYf
import Derived.Test.YtfdkmmllemkogaaOYd
namespace Go.Proofs.Ytfdkmmllemkogaa
open Go.RowKit
set_option linter.unusedVariables false

theorem sent_of28 (W H : Int) (a : Option Addr) (n c : Nat) (xs : List Nat) (lost : Int) (hl : 0 ≤ lost ∧ lost ≤ 65535) (hm : n ≤ 4611686018427387904) (w : World) (hwf : ∀ j, j < n → xs[j]?.getD 0 < 2 ^ 32) (hxl : xs.length = n)
    (hs : ∀ j, j < n → ∃ b o, a = some ⟨b, o, none⟩ ∧ b < w.heap.size ∧ ∀ j, j < n → w.cell? ⟨b, o + j, none⟩ = some (.float .f32 (xs[j]?.getD 0)))
    (hT : ∀ (b o : Nat) (ks : List Int) (m g cc : Nat) (lev : List Int) (B : Nat), Tail28 W H b o n c xs ks m g cc lev B lost w) :
    Calls Try.prog 3 #[.agg #[.int .i64 W, .int .i64 H, .slice a n c], .int .u16 lost] w (SentPost w) :=
  sent_try W H a n c xs lost hl hm w hwf hxl hs (fun b o ks m g cc lev B wx hS =>
    tail21 W H b o n c xs ks m g cc lev B lost hl w wx hS (tail26 W H b o n c xs ks m g cc lev B lost hl w (hT b o ks m g cc lev B)))
end Go.Proofs.Ytfdkmmllemkogaa

/-
  What the third loop of TopEmberSent leaves: which came, the two maps; in plain lists, and what is to be shown behind it.
-/
namespace Go.Proofs.Ytfdkmmllemkogaa
open Go.RowKit
set_option linter.unusedVariables false

/-- A list made by f, of which the places below k are made by g. -/
def mixed {α : Type} (n : Nat) (f g : Nat → α) (k : Nat) : List α := (List.range n).map (fun q => if q < k then g q else f q)
theorem mixed_len {α : Type} (n : Nat) (f g : Nat → α) (k : Nat) : (mixed n f g k).length = n := by simp [mixed]
theorem mixed_set {α : Type} (n : Nat) (f g : Nat → α) (k : Nat) (v : α) (hv : k < n → v = g k) : (mixed n f g k).set k v = mixed n f g (k + 1) := by
  refine List.ext_getElem (by simp [mixed]) fun q h1 h2 => ?_
  simp only [mixed, List.length_map, List.length_range] at h2
  simp only [mixed, List.getElem_set, List.getElem_map, List.getElem_range]
  by_cases e : k = q
  · subst e
    rw [if_pos rfl, if_pos (by omega)]
    exact hv h2
  · rw [if_neg e]
    by_cases e2 : q < k
    · rw [if_pos e2, if_pos (by omega)]
    · rw [if_neg e2, if_neg (by omega)]
theorem mixed_over {α : Type} (n : Nat) (f g : Nat → α) (k : Nat) (h : n ≤ k) : mixed n f g (k + 1) = mixed n f g k := by
  refine List.ext_getElem (by simp [mixed]) fun q h1 h2 => ?_
  simp only [mixed, List.length_map, List.length_range] at h2
  simp only [mixed, List.getElem_map, List.getElem_range]
  rw [if_pos (by omega), if_pos (by omega)]
theorem mixed_none {α : Type} (n : Nat) (f g : Nat → α) (k : Nat) (h : ∀ q, q < n → q < k → f q = g q) : mixed n f g k = (List.range n).map f := by
  refine List.ext_getElem (by simp [mixed]) fun q h1 h2 => ?_
  simp only [List.length_map, List.length_range] at h2
  simp only [mixed, List.getElem_map, List.getElem_range]
  split
  · rename_i e; exact (h q h2 e).symm
  · rfl
theorem mixed_all {α : Type} (n : Nat) (f g : Nat → α) (k : Nat) (h : ∀ q, q < n → k ≤ q → f q = g q) : mixed n f g k = (List.range n).map g := by
  refine List.ext_getElem (by simp [mixed]) fun q h1 h2 => ?_
  simp only [List.length_map, List.length_range] at h2
  simp only [mixed, List.getElem_map, List.getElem_range]
  split
  · rfl
  · rename_i e; exact h q h2 (by omega)

/-- The code from the statement on that begins with a region, inside loops too. -/
def tailDeep (n : Nat) : Code → Option Code
  | .seq a b => if headsIt n a then some (.seq a b) else match tailDeep n b with
    | some c => some c
    | none => tailDeep n a
  | .block _ c => tailDeep n c
  | .scope c => tailDeep n c
  | .loop c => tailDeep n c
  | .cond _ a b => match tailDeep n a with
    | some c => some c
    | none => tailDeep n b
  | c => if headsIt n c then some c else none
noncomputable def roundOf (n : Nat) : Code := ((Try.f3.body.bind (tailDeep n)).getD .skip)

theorem store_float (P : Program) (w : World) (a : Addr) (m : Mode) (k : FloatKind) (x : Nat) : (store a (.float k x) m).run P w = stored P w a (.float k x) m := run_store P w a _ m rfl

def csOf (m : Nat) (C : List Int) : List Bool := (List.range m).map (inC C)
def avOf (n : Nat) (lev : List Int) (C : List Int) : List Nat := (List.range n).map (againW lev smpOf C)
def rsOf (n : Nat) (xs : List Nat) (C : List Int) : List Nat := (List.range n).map (restW xs C)
theorem csOf_nil (m : Nat) : csOf m [] = List.replicate m false := by
  refine List.ext_getElem (by simp [csOf]) fun q h1 h2 => ?_
  simp [csOf, inC]
theorem avOf_nil (n : Nat) (lev : List Int) : avOf n lev [] = List.replicate n 0 := by
  refine List.ext_getElem (by simp [avOf]) fun q h1 h2 => ?_
  simp [avOf, againW, inC]
theorem rsOf_nil (n : Nat) (xs : List Nat) (h : xs.length = n) : rsOf n xs [] = xs := by
  refine List.ext_getElem (by simp [rsOf, h]) fun q h1 h2 => ?_
  simp [rsOf, restW, inC, List.getElem?_eq_getElem h2]
theorem csOf_len (m : Nat) (C : List Int) : (csOf m C).length = m := by simp [csOf]
theorem csOf_at (m : Nat) (C : List Int) (i : Nat) (hi : i < m) : (csOf m C)[i]?.getD false = inC C i := by
  simp [csOf, List.getElem?_range hi]
theorem csOf_set (m : Nat) (C : List Int) (i : Nat) : (csOf m C).set i true = csOf m (C ++ [(i : Int)]) := by
  refine List.ext_getElem (by simp [csOf]) fun q h1 h2 => ?_
  simp only [csOf, List.getElem_set, List.getElem_map, List.getElem_range, inC_snoc]
  by_cases e : i = q
  · subst e; simp
  · rw [if_neg e]
    have : decide ((q : Int) = (i : Int)) = false := by simp; omega
    rw [this, Bool.or_false]
theorem inC_no {C : List Int} {i : Nat} (h : (i : Int) ∉ C) : inC C i = false := by
  simp [inC, List.contains_eq_mem, h]
theorem inC_new (C : List Int) (i : Nat) : inC (C ++ [(i : Int)]) i = true := by
  rw [inC_snoc]; simp
theorem inC_old (C : List Int) (i j : Nat) (h : j ≠ i) : inC (C ++ [(i : Int)]) j = inC C j := by
  rw [inC_snoc]
  have : decide ((j : Int) = (i : Int)) = false := by simp; omega
  rw [this, Bool.or_false]
theorem againW_old (lev : List Int) (sm : Int → Nat) (C : List Int) (i q : Nat) (h : q < 3 * i ∨ 3 * i + 3 ≤ q) : againW lev sm (C ++ [(i : Int)]) q = againW lev sm C q := by
  unfold againW; rw [inC_old C i (q / 3) (by omega)]
theorem restW_old (xs : List Nat) (C : List Int) (i q : Nat) (h : q < 3 * i ∨ 3 * i + 3 ≤ q) : restW xs (C ++ [(i : Int)]) q = restW xs C q := by
  unfold restW; rw [inC_old C i (q / 3) (by omega)]
theorem againW_new (lev : List Int) (sm : Int → Nat) (C : List Int) (i k : Nat) (h : k < 3) : againW lev sm (C ++ [(i : Int)]) (3 * i + k) = sm (lev[3 * i + k]?.getD 0) := by
  unfold againW; rw [show (3 * i + k) / 3 = i by omega, inC_new, if_pos rfl]
theorem restW_new (xs : List Nat) (C : List Int) (i k : Nat) (h : k < 3) : restW xs (C ++ [(i : Int)]) (3 * i + k) = 0 := by
  unfold restW; rw [show (3 * i + k) / 3 = i by omega, inC_new, if_pos rfl]
/-- The two maps while the k-th of three integers of the i-th telegram is next. -/
def avAt (n : Nat) (lev : List Int) (C : List Int) (i k : Nat) : List Nat := mixed n (againW lev smpOf C) (againW lev smpOf (C ++ [(i : Int)])) (3 * i + k)
def rsAt (n : Nat) (xs : List Nat) (C : List Int) (i k : Nat) : List Nat := mixed n (restW xs C) (restW xs (C ++ [(i : Int)])) (3 * i + k)
theorem avAt_0 (n : Nat) (lev : List Int) (C : List Int) (i : Nat) : avOf n lev C = avAt n lev C i 0 :=
  (mixed_none n _ _ _ fun q _ h => (againW_old lev smpOf C i q (.inl (by omega))).symm).symm
theorem rsAt_0 (n : Nat) (xs : List Nat) (C : List Int) (i : Nat) : rsOf n xs C = rsAt n xs C i 0 :=
  (mixed_none n _ _ _ fun q _ h => (restW_old xs C i q (.inl (by omega))).symm).symm
theorem avAt_3 (n : Nat) (lev : List Int) (C : List Int) (i : Nat) : avAt n lev C i 3 = avOf n lev (C ++ [(i : Int)]) :=
  mixed_all n _ _ _ fun q _ h => (againW_old lev smpOf C i q (.inr h)).symm
theorem rsAt_3 (n : Nat) (xs : List Nat) (C : List Int) (i : Nat) : rsAt n xs C i 3 = rsOf n xs (C ++ [(i : Int)]) :=
  mixed_all n _ _ _ fun q _ h => (restW_old xs C i q (.inr h)).symm
theorem avAt_len (n : Nat) (lev : List Int) (C : List Int) (i k : Nat) : (avAt n lev C i k).length = n := mixed_len _ _ _ _
theorem rsAt_len (n : Nat) (xs : List Nat) (C : List Int) (i k : Nat) : (rsAt n xs C i k).length = n := mixed_len _ _ _ _
theorem avAt_set (n : Nat) (lev : List Int) (C : List Int) (i k : Nat) (hk : k < 3) : (avAt n lev C i k).set (3 * i + k) (smpOf (lev[3 * i + k]?.getD 0)) = avAt n lev C i (k + 1) :=
  mixed_set n _ _ _ _ fun _ => (againW_new lev smpOf C i k hk).symm
theorem rsAt_set (n : Nat) (xs : List Nat) (C : List Int) (i k : Nat) (hk : k < 3) : (rsAt n xs C i k).set (3 * i + k) 0 = rsAt n xs C i (k + 1) :=
  mixed_set n _ _ _ _ fun _ => (restW_new xs C i k hk).symm
theorem avAt_over (n : Nat) (lev : List Int) (C : List Int) (i k : Nat) (h : n ≤ 3 * i + k) : avAt n lev C i (k + 1) = avAt n lev C i k := mixed_over n _ _ _ h
theorem rsAt_over (n : Nat) (xs : List Nat) (C : List Int) (i k : Nat) (h : n ≤ 3 * i + k) : rsAt n xs C i (k + 1) = rsAt n xs C i k := mixed_over n _ _ _ h
theorem counts_take {L : List Tel} {st x : Int} {k : Nat} (h : x ∈ countsOf (L.take k) st) : x ∈ countsOf L st := by
  rw [← List.take_append_drop k L, counts_append]
  exact List.mem_append.2 (.inl h)

theorem flat_val_at : ∀ (L : List Tel) (k j : Nat) (v : Value), k < L.length → (L[k]?.getD tel0).val[j]? = some v → (L.flatMap Tel.val)[6 * k + j]? = some v
  | [], _, _, _, h, _ => by simp at h
  | t :: L, 0, j, v, _, h => by
    simp only [List.getElem?_cons_zero, Option.getD_some] at h
    rw [List.flatMap_cons, List.getElem?_append_left (by have := (List.getElem?_eq_some_iff.1 h).1; omega)]
    rw [Nat.mul_zero, Nat.zero_add]; exact h
  | t :: L, k + 1, j, v, hk, h => by
    have hl : t.val.length = 6 := rfl
    rw [List.flatMap_cons, List.getElem?_append_right (by omega), hl, show 6 * (k + 1) + j - 6 = 6 * k + j by omega]
    exact flat_val_at L k j v (by simpa using hk) (by simpa using h)
theorem telsAt_of {w : World} {B n c g : Nat} {L : List Tel} (h : w.ownsRow B 35 6 (.slice (some ⟨g, 0, none⟩) n c) n (L.flatMap Tel.val)) : TelsAt w g 0 L := fun k hk j v hv => by
  have e := h.cells (g := g) rfl (6 * k + j) v (flat_val_at L k j v hk hv)
  rw [Addr.add_mid] at e
  rw [show 0 + k * 6 + j = 0 + (6 * k + j) by omega]
  exact e

set_option maxRecDepth 1000000 in
/-- What is still to be shown where the walk stands ahead of region 48. -/
def Tail48 (W H : Int) (b o n c : Nat) (xs : List Nat) (ks : List Int) (m g cc : Nat) (lev : List Int) (B : Nat) (lost : Int) (w : World) : Prop :=
  ∀ (p : MadeAt) (L : List Tel) (wz : World) (u3 u4 u7 u8 u9 u10 u11 u12 u13 u15 u16 u22 u23 u24 u25 u26 u27 u28 u29 u30 u31 u32 u33 u34 u35 u36 u37 u38 u39 u40 u41 u42 u43 u44 u45 u46 u47 u48 u49 u50 u51 u52 u53 u54 u55 u56 u57 u58 u59 u60 u61 u62 u63 u64 u65 u66 u67 u68 u69 u70 u71 u72 u73 u74 u75 u76 u77 u78 u79 u80 u81 u82 u83 u84 u85 u86 u87 u88 u89 u90 u91 u92 u93 u94 u95 u96 u97 u98 u99 u100 u101 u102 u103 u104 u105 u106 u107 u108 u109 u110 u111 u112 u113 u114 u115 u116 u117 u118 u119 u120 u121 u122 u123 u124 u125 u126 u127 u128 u129 u130 u131 u132 u133 u134 u135 u136 u137 u138 u139 u140 u141 u142 u143 u144 u145 u146 u147 u148 u149 u150 u151 u152 u153 u154 u155 u156 u157 u158 u159 u160 u161 u162 u163 u164 u165 u166 u167 u168 u169 u170 u171 u172 u173 u174 u175 u176 u177 u178 u179 u180 u181 u182 u183 u184 u185 u186 u187 u188 u189 u190 u191 u192 u193 u194 u195 u196 u197 u198 u199 u200 u201 u202 u203 u204 u205 u206 u207 u208 u209 u210 u211 u212 u213 u214 u215 u216 u217 u218 u219 u220 u221 u222 u223 u224 u225 u226 u227 u228 u229 u230 u231 u232 u233 u234 u235 u236 u237 u238 u239 u240 u241 u242 u243 u244 u245 u246 u247 u248 u249 u250 u251 u252 u253 u254 u255 u256 u257 u258 u259 u260 u261 u262 u263 u264 u265 u266 u267 u268 u269 u270 u271 u272 u273 u274 u275 u276 u277 u278 u279 u280 u281 u282 u283 u284 u285 u286 u287 u288 u289 u290 u291 u292 u293 u294 u295 u296 u297 u298 u299 u300 u301 u302 u303 u304 u305 u306 u307 u308 u309 u310 u311 u312 u313 u314 u315 u316 u317 u318 u319 u320 u321 u322 u323 u324 u325 u326 u327 u328 u329 u330 u331 u332 u333 u334 u335 u336 u337 u338 u339 u340 u341 u342 u343 u344 u345 u346 u347 u348 u349 u350 u351 u352 u353 u354 u355 u356 u357 : Value), Sent w W H b o n c xs ks m g cc lev B wz → g < p.N → w.heap.size < p.N → p.Apart → telsTo lev (keptF lost) m = L → Made p W H n m L (csOf m (keptTo (keptF lost) m)) (avOf n lev (keptTo (keptF lost) m)) (rsOf n xs (keptTo (keptF lost) m)) wz → Code.wp Try.prog (tailOf 48) (bodyPost Try.prog Try.f3 (SentPost w)) ⟨#[.agg #[.int .i64 W, .int .i64 H, .slice (some ⟨b, o, none⟩) n c], .int .u16 lost, .pointer (some ⟨w.heap.size, 0, none⟩), u3, u4, .slice (some ⟨g, 0, none⟩) (3 * m) cc, .int .i64 m, u7, u8, u9, u10, u11, u12, u13, .slice p.gl L.length p.cl, u15, u16, .slice (some ⟨p.gc, 0, none⟩) m m, .pointer (some ⟨p.B18, 0, none⟩), .pointer (some ⟨p.B19, 0, none⟩), .int .i64 (headOf (keptTo (keptF lost) m)), .int .i64 (endOf (keptTo (keptF lost) m)), u22, u23, u24, u25, u26, u27, u28, u29, u30, u31, u32, u33, u34, u35, u36, u37, u38, u39, u40, u41, u42, u43, u44, u45, u46, u47, u48, u49, u50, u51, u52, u53, u54, u55, u56, u57, u58, u59, u60, u61, u62, u63, u64, u65, u66, u67, u68, u69, u70, u71, u72, u73, u74, u75, u76, u77, u78, u79, u80, u81, u82, u83, u84, u85, u86, u87, u88, u89, u90, u91, u92, u93, u94, u95, u96, u97, u98, u99, u100, u101, u102, u103, u104, u105, u106, u107, u108, u109, u110, u111, u112, u113, u114, u115, u116, u117, u118, u119, u120, u121, u122, u123, u124, u125, u126, u127, u128, u129, u130, u131, u132, u133, u134, u135, u136, u137, u138, u139, u140, u141, u142, u143, u144, u145, u146, u147, u148, u149, u150, u151, u152, u153, u154, u155, u156, u157, u158, u159, u160, u161, u162, u163, u164, u165, u166, u167, u168, u169, u170, u171, u172, u173, u174, u175, u176, u177, u178, u179, u180, u181, u182, u183, u184, u185, u186, u187, u188, u189, u190, u191, u192, u193, u194, u195, u196, u197, u198, u199, u200, u201, u202, u203, u204, u205, u206, u207, u208, u209, u210, u211, u212, u213, u214, u215, u216, u217, u218, u219, u220, u221, u222, u223, u224, u225, u226, u227, u228, u229, u230, u231, u232, u233, u234, u235, u236, u237, u238, u239, u240, u241, u242, u243, u244, u245, u246, u247, u248, u249, u250, u251, u252, u253, u254, u255, u256, u257, u258, u259, u260, u261, u262, u263, u264, u265, u266, u267, u268, u269, u270, u271, u272, u273, u274, u275, u276, u277, u278, u279, u280, u281, u282, u283, u284, u285, u286, u287, u288, u289, u290, u291, u292, u293, u294, u295, u296, u297, u298, u299, u300, u301, u302, u303, u304, u305, u306, u307, u308, u309, u310, u311, u312, u313, u314, u315, u316, u317, u318, u319, u320, u321, u322, u323, u324, u325, u326, u327, u328, u329, u330, u331, u332, u333, u334, u335, u336, u337, u338, u339, u340, u341, u342, u343, u344, u345, u346, u347, u348, u349, u350, u351, u352, u353, u354, u355, u356, u357], []⟩ wz
end Go.Proofs.Ytfdkmmllemkogaa
