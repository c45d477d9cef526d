/-
  TopEmberRing: its first loop, in which the turns are placed and added.
-/
import Derived.Test.YtpmjiifdnnhecaaGreatDoorOaaUe
import Derived.Test.YtpmjiifdnnhecaaGreatDoorOaaZk
namespace Go.Proofs.YtpmjiifdnnhecaaGreatDoor
open Go.RowKit Go.Shelf
set_option linter.unusedVariables false
set_option linter.unusedSimpArgs false

/-- A block of three cells, stored anew. -/
def put3 (w : World) (B : Nat) (a b c : Value) : World := ((w.setCell ⟨B, 0, none⟩ a).setCell ⟨B, 1, none⟩ b).setCell ⟨B, 2, none⟩ c
theorem put3_self {w : World} {B : Nat} {T : TypeId} {x y z : Value} (h : w.heap[B]? = some (.cells #[x, y, z] T (0, 0))) (a b c : Value) : (put3 w B a b c).heap[B]? = some (.cells #[a, b, c] T (0, 0)) := blk_set3 h a b c
theorem put3_other (w : World) {B q : Nat} (hq : q ≠ B) (a b c : Value) : (put3 w B a b c).heap[q]? = w.heap[q]? :=
  (Below.heap_setCell _ _ _ _ hq).trans ((Below.heap_setCell _ _ _ _ hq).trans (Below.heap_setCell _ _ _ _ hq))
theorem put3_below {w w1 : World} {B : Nat} (h : Below w.heap.size w w1) (hB : w.heap.size ≤ B) (a b c : Value) : Below w.heap.size w (put3 w1 B a b c) :=
  ((h.setCell (p := ⟨B, 0, none⟩) hB _).setCell (p := ⟨B, 1, none⟩) hB _).setCell (p := ⟨B, 2, none⟩) hB _
theorem put3_size (w : World) (B : Nat) (a b c : Value) : w.heap.size ≤ (put3 w B a b c).heap.size :=
  (((Below.refl 0 w).setCell (p := ⟨B, 0, none⟩) (Nat.zero_le _) a).setCell (p := ⟨B, 1, none⟩) (Nat.zero_le _) b |>.setCell (p := ⟨B, 2, none⟩) (Nat.zero_le _) c).size
theorem cell_put3 (w : World) {B q : Nat} (hq : ¬ q = B) (j : Nat) (a b c : Value) : (((w.setCell ⟨B, 0, none⟩ a).setCell ⟨B, 1, none⟩ b).setCell ⟨B, 2, none⟩ c).cell? ⟨q, j, none⟩ = w.cell? ⟨q, j, none⟩ := by
  have h := put3_other w (B := B) (q := q) hq a b c
  unfold put3 at h
  simp [World.cell?, h]
theorem cell_put3d (w : World) {B q : Nat} (hq : ¬ q = B) (j : Nat) (a b c : Value) : (((w.setCell ⟨B, 0, none⟩ a).setCell ⟨B, 1, none⟩ b).setCell ⟨B, 2, none⟩ c).drew.cell? ⟨q, j, none⟩ = w.cell? ⟨q, j, none⟩ := cell_put3 w hq j a b c
theorem kp_set2 {w w1 : World} {l : List (Nat × Obj)} (h : Kp w w1 l) {x y : Value} {T : TypeId} (a b : Value) :
    Kp w (((w1.alloc (.cells #[x, y] T)).setCell ⟨w1.heap.size, 0, none⟩ a).setCell ⟨w1.heap.size, 1, none⟩ b) ((w1.heap.size, .cells #[a, b] T (0, 0)) :: l) := by
  have hs : w.heap.size ≤ w1.heap.size := h.1.size
  have k := h.alloc (.cells #[x, y] T)
  refine ⟨(k.1.setCell (p := ⟨w1.heap.size, 0, none⟩) hs _).setCell (p := ⟨w1.heap.size, 1, none⟩) hs _, fun p hp => ?_⟩
  rcases List.mem_cons.1 hp with rfl | hp
  · exact blk_set2 (blk_alloc_new _ _) _ _
  · have hne : p.1 ≠ w1.heap.size := by have := lt_of_blk (h.2 p hp); omega
    exact (Below.heap_setCell _ _ _ _ hne).trans ((Below.heap_setCell _ _ _ _ hne).trans (k.2 p (.tail _ hp)))
theorem ring_other {w w' : World} {W H n g : Nat} {L : List Int} (h : RM w W H n L g 0) (hb : w'.heap[g]? = w.heap[g]?) (hz : w.heap.size ≤ w'.heap.size) : RM w' W H n L g 0 := by
  obtain ⟨h1, xs, h2⟩ := h
  have hc : ∀ j, w'.cell? ⟨g, j, none⟩ = w.cell? ⟨g, j, none⟩ := fun j => by simp [World.cell?, hb]
  exact ⟨Nat.lt_of_lt_of_le h1 hz, xs, ⟨⟨h2.len, h2.lenk, h2.small, fun j hj => by rw [hc]; exact h2.cells j hj, h2.words, h2.smps, h2.sizes⟩, h2.wid, h2.hei, h2.area⟩⟩
theorem ring_ne {w : World} {W H n g B : Nat} {L : List Int} {x : Int} {y z : Value} {T : TypeId} (h : RM w W H n L g 0) (hB : w.heap[B]? = some (.cells #[.int .i64 x, y, z] T (0, 0))) : g ≠ B := by
  rintro rfl
  obtain ⟨h1, xs, h2⟩ := h
  have hn : 0 < n := by
    have hw := h2.wid; have hh := h2.hei; have ha := h2.area
    rcases Nat.eq_zero_or_pos n with h0 | h0
    · rw [h0] at ha
      have : (1 : Int) ≤ (W : Int) * H := Int.mul_pos (by omega) (by omega)
      omega
    · exact h0
  have hc := h2.cells 0 hn
  rw [Nat.zero_add, cell_of_row w g 0 _ _ (0, 0) hB] at hc
  cases hc
/-- Both variables of the loop stored, in either order. -/
theorem ring_stored {w w1 : World} {Bt Ba : Nat} {T : TypeId} {t0 t2 a0 a2 : Value} {t1 a1 : Value} {l : List (Nat × Obj)} (hk : Kp w w1 ((Bt, .cells #[t0, t1, t2] T (0, 0)) :: (Ba, .cells #[a0, a1, a2] T (0, 0)) :: l)) (hBt : w.heap.size ≤ Bt) (hBa : w.heap.size ≤ Ba) (hne : Bt ≠ Ba) (hl : ∀ p ∈ l, p.1 ≠ Bt ∧ p.1 ≠ Ba)
    (p0 p1 p2 q0 q1 q2 : Value) (w' : World) (hw : w' = put3 (put3 w1 Ba q0 q1 q2) Bt p0 p1 p2 ∨ w' = put3 (put3 w1 Bt p0 p1 p2) Ba q0 q1 q2) :
    Kp w w' ((Bt, .cells #[p0, p1, p2] T (0, 0)) :: (Ba, .cells #[q0, q1, q2] T (0, 0)) :: l) ∧ (∀ g, g ≠ Bt → g ≠ Ba → w'.heap[g]? = w1.heap[g]?) ∧ w1.heap.size ≤ w'.heap.size := by
  have hT := hk.2 _ (.head _)
  have hA := hk.2 _ (.tail _ (.head _))
  rcases hw with rfl | rfl
  · refine ⟨⟨put3_below (put3_below hk.1 hBa _ _ _) hBt _ _ _, fun p hp => ?_⟩, fun g h1 h2 => (put3_other _ h1 _ _ _).trans (put3_other _ h2 _ _ _), Nat.le_trans (put3_size _ _ _ _ _) (put3_size _ _ _ _ _)⟩
    rcases List.mem_cons.1 hp with rfl | hp
    · exact put3_self ((put3_other _ hne _ _ _).trans hT) _ _ _
    · rcases List.mem_cons.1 hp with rfl | hp
      · exact (put3_other _ (Ne.symm hne) _ _ _).trans (put3_self hA _ _ _)
      · exact (put3_other _ (hl p hp).1 _ _ _).trans ((put3_other _ (hl p hp).2 _ _ _).trans (hk.2 p (.tail _ (.tail _ hp))))
  · refine ⟨⟨put3_below (put3_below hk.1 hBt _ _ _) hBa _ _ _, fun p hp => ?_⟩, fun g h1 h2 => (put3_other _ h2 _ _ _).trans (put3_other _ h1 _ _ _), Nat.le_trans (put3_size _ _ _ _ _) (put3_size _ _ _ _ _)⟩
    rcases List.mem_cons.1 hp with rfl | hp
    · exact (put3_other _ hne _ _ _).trans (put3_self hT _ _ _)
    · rcases List.mem_cons.1 hp with rfl | hp
      · exact put3_self ((put3_other _ (Ne.symm hne) _ _ _).trans hA) _ _ _
      · exact (put3_other _ (hl p hp).2 _ _ _).trans ((put3_other _ (hl p hp).1 _ _ _).trans (hk.2 p (.tail _ (.tail _ hp))))

set_option maxHeartbeats 800000 in
theorem ring_rel {w wj : World} {s D n N k ct ca : Nat} {L : List Int} {Bn Bv Bt Ba gt ga gv gq : Nat} {O : Obj} {v0 v1 v2 n0 n1 n2 : Value}
    (hJ : Kp w wj [(Bn, (.cells #[n0, n1, n2] 121 (0, 0))), (Bv, (.cells #[v0, v1, v2] 121 (0, 0))), (Bt, (.cells #[.int .i64 (s : Nat), .int .i64 (s : Nat), .slice (some ⟨gt, 0, none⟩) n ct] 121 (0, 0))), (Ba, (.cells #[.int .i64 (D : Nat), .int .i64 (D : Nat), .slice (some ⟨ga, 0, none⟩) N ca] 121 (0, 0))), (w.heap.size, O)])
    (hQ : RM wj s s n (turnI s L (k + 1)) gq 0) (hS : RM wj D D N (ringK s L (k + 1)) gv 0) (hB : w.heap.size < Bt ∧ w.heap.size < Ba ∧ Bt ≠ Ba) (W : World) (hW : W = World.drew (World.setCell (World.setCell (World.setCell (World.setCell (World.setCell (World.setCell wj ⟨Ba, 0, none⟩ (.int .i64 (D : Nat))) ⟨Ba, 1, none⟩ (.int .i64 (D : Nat))) ⟨Ba, 2, none⟩ (.slice (some ⟨gv, 0, none⟩) N N)) ⟨Bt, 0, none⟩ (.int .i64 (s : Nat))) ⟨Bt, 1, none⟩ (.int .i64 (s : Nat))) ⟨Bt, 2, none⟩ (.slice (some ⟨gq, 0, none⟩) n n))) :
    Kp w W [(Bt, (.cells #[.int .i64 (s : Nat), .int .i64 (s : Nat), .slice (some ⟨gq, 0, none⟩) n n] 121 (0, 0))), (Ba, (.cells #[.int .i64 (D : Nat), .int .i64 (D : Nat), .slice (some ⟨gv, 0, none⟩) N N] 121 (0, 0))), (w.heap.size, O)] ∧ RM W s s n (turnI s L (k + 1)) gq 0 ∧ RM W D D N (ringK s L (k + 1)) gv 0 := by
  have hst := ring_stored (hJ.subs (m := [(Bt, (.cells #[.int .i64 (s : Nat), .int .i64 (s : Nat), .slice (some ⟨gt, 0, none⟩) n ct] 121 (0, 0))), (Ba, (.cells #[.int .i64 (D : Nat), .int .i64 (D : Nat), .slice (some ⟨ga, 0, none⟩) N ca] 121 (0, 0))), (w.heap.size, O)]) (fun p hp => .tail _ (.tail _ hp))) (Nat.le_of_lt hB.1) (Nat.le_of_lt hB.2.1) hB.2.2 (fun p hp => by
    rcases List.mem_cons.1 hp with rfl | hp
    · exact ⟨Nat.ne_of_lt hB.1, Nat.ne_of_lt hB.2.1⟩
    · nomatch hp) (.int .i64 (s : Nat)) (.int .i64 (s : Nat)) (.slice (some ⟨gq, 0, none⟩) n n) (.int .i64 (D : Nat)) (.int .i64 (D : Nat)) (.slice (some ⟨gv, 0, none⟩) N N)
  have n1 := ring_ne hQ (hJ.2 _ (.tail _ (.tail _ (.head _))))
  have n2 := ring_ne hQ (hJ.2 _ (.tail _ (.tail _ (.tail _ (.head _)))))
  have n3 := ring_ne hS (hJ.2 _ (.tail _ (.tail _ (.head _))))
  have n4 := ring_ne hS (hJ.2 _ (.tail _ (.tail _ (.tail _ (.head _)))))
  have h := hst _ (.inl rfl)
  have hW' : W = World.drew (put3 (put3 wj Ba (.int .i64 (D : Nat)) (.int .i64 (D : Nat)) (.slice (some ⟨gv, 0, none⟩) N N)) Bt (.int .i64 (s : Nat)) (.int .i64 (s : Nat)) (.slice (some ⟨gq, 0, none⟩) n n)) := by
    rw [hW]
    unfold put3
    with_reducible rfl
  clear hW hst
  generalize put3 (put3 wj Ba (.int .i64 (D : Nat)) (.int .i64 (D : Nat)) (.slice (some ⟨gv, 0, none⟩) N N)) Bt (.int .i64 (s : Nat)) (.int .i64 (s : Nat)) (.slice (some ⟨gq, 0, none⟩) n n) = X at h hW'
  subst hW'
  exact ⟨Kp.drew h.1, ring_other hQ (h.2.1 _ n1 n2) h.2.2, ring_other hS (h.2.1 _ n3 n4) h.2.2⟩

set_option maxRecDepth 1000000 in
set_option maxHeartbeats 25600000 in
theorem ring9 (w : World) (s D n N b o c : Nat) (L : List Int) (hs : 1 ≤ s ∧ s ≤ 8) (hD : 2 * s = D) (hN : D * D = N) (hL : L.length = s * s) (hsm : ∀ j : Nat, (L[j]?.getD 0 : Int).natAbs ≤ 256) (R : List Int) (hRR : ringK s L 4 = R) (Tt : Int) (hT : L.sum = Tt) (hn : s * s = n) (sh : Int) (hsh : 0 ≤ sh ∧ sh ≤ 4) (hM : RM w s s n L b o) (Bt g0 c0 Ba g1 c1 : Nat) (hBt : w.heap.size < Bt) (hBa : w.heap.size < Ba) (hne : Bt ≠ Ba) (ht : TabAt w) (hm : MaxAt w) (wr : World)
    (u0 u1 u3 u4 u8 u11 u12 u13 u14 u15 u16 u17 u18 u19 u20 u21 u22 u23 u24 u25 u26 u27 u28 u29 u30 u31 u32 u33 u34 u35 u36 u37 u38 u39 u40 u41 u42 u43 u44 u45 u46 u47 u48 u49 u50 u51 u52 u53 u54 u55 u56 u57 u58 u59 u60 u61 u62 u63 u64 u65 u66 u67 u68 u69 u70 u71 u72 u73 u74 u75 u76 u77 u78 u79 u80 u81 u82 u83 u84 u85 u86 u87 u88 u89 u90 u91 u92 u93 u94 u95 u96 u97 u98 u99 u100 u101 u102 u103 u104 u105 u106 u107 u108 u109 u110 u111 u112 u113 u114 u115 u116 u117 u118 u119 u120 u121 u122 u123 u124 u125 u126 u127 u128 u129 u130 u131 u132 u133 u134 u135 u136 u137 u138 u139 u140 u141 u142 u143 u144 u145 u146 u147 u148 u149 u150 u151 u152 u153 u154 u155 u156 u157 u158 u159 u160 u161 u162 u163 u164 u165 u166 u167 u168 u169 u170 u171 u172 u173 u174 u175 u176 u177 u178 u179 u180 u181 u182 u183 u184 u185 u186 u187 u188 u189 u190 u191 u192 u193 u194 u195 u196 u197 u198 u199 u200 u201 u202 u203 u204 u205 u206 u207 u208 u209 u210 u211 u212 u213 u214 u215 u216 u217 u218 u219 u220 u221 u222 u223 u224 u225 u226 u227 u228 u229 u230 u231 u232 u233 u234 u235 u236 u237 u238 u239 u240 u241 u242 u243 u244 u245 u246 u247 u248 u249 u250 u251 u252 u253 u254 u255 u256 u257 u258 u259 u260 u261 u262 u263 u264 u265 u266 u267 u268 u269 u270 u271 u272 u273 u274 u275 u276 u277 u278 u279 u280 u281 u282 : Value)
    (hKp : Kp w wr [(Bt, (.cells #[.int .i64 (s : Nat), .int .i64 (s : Nat), .slice (some ⟨g0, 0, none⟩) n c0] 121 (0, 0))), (Ba, (.cells #[.int .i64 (D : Nat), .int .i64 (D : Nat), .slice (some ⟨g1, 0, none⟩) N c1] 121 (0, 0))), (w.heap.size, (.cells #[.int .i64 (s : Nat), .int .i64 (s : Nat), .slice (some ⟨b, o, none⟩) n c] 117 (0, 0)))]) (hTn : RM wr s s n L g0 0) (hA : RM wr D D N (ringK s L 0) g1 0) :
    Code.wp Tryz.prog (cutR 9) (bodyPost Tryz.prog Tryz.f10 (RingPost w)) ⟨#[u0, u1, .pointer (some ⟨w.heap.size, 0, none⟩), u3, u4, .int .i64 (s : Nat), .int .i64 sh, .int .i64 Tt, u8, .pointer (some ⟨Bt, 0, none⟩), .pointer (some ⟨Ba, 0, none⟩), u11, u12, u13, u14, u15, u16, u17, u18, u19, u20, u21, u22, u23, u24, u25, u26, u27, u28, u29, u30, u31, u32, u33, u34, u35, u36, u37, u38, u39, u40, u41, u42, u43, u44, u45, u46, u47, u48, u49, u50, u51, u52, u53, u54, u55, u56, u57, u58, u59, u60, u61, u62, u63, u64, u65, u66, u67, u68, u69, u70, u71, u72, u73, u74, u75, u76, u77, u78, u79, u80, u81, u82, u83, u84, u85, u86, u87, u88, u89, u90, u91, u92, u93, u94, u95, u96, u97, u98, u99, u100, u101, u102, u103, u104, u105, u106, u107, u108, u109, u110, u111, u112, u113, u114, u115, u116, u117, u118, u119, u120, u121, u122, u123, u124, u125, u126, u127, u128, u129, u130, u131, u132, u133, u134, u135, u136, u137, u138, u139, u140, u141, u142, u143, u144, u145, u146, u147, u148, u149, u150, u151, u152, u153, u154, u155, u156, u157, u158, u159, u160, u161, u162, u163, u164, u165, u166, u167, u168, u169, u170, u171, u172, u173, u174, u175, u176, u177, u178, u179, u180, u181, u182, u183, u184, u185, u186, u187, u188, u189, u190, u191, u192, u193, u194, u195, u196, u197, u198, u199, u200, u201, u202, u203, u204, u205, u206, u207, u208, u209, u210, u211, u212, u213, u214, u215, u216, u217, u218, u219, u220, u221, u222, u223, u224, u225, u226, u227, u228, u229, u230, u231, u232, u233, u234, u235, u236, u237, u238, u239, u240, u241, u242, u243, u244, u245, u246, u247, u248, u249, u250, u251, u252, u253, u254, u255, u256, u257, u258, u259, u260, u261, u262, u263, u264, u265, u266, u267, u268, u269, u270, u271, u272, u273, u274, u275, u276, u277, u278, u279, u280, u281, u282], []⟩ wr := by
  conv => arg 2; whnf
  dsimp only
  have w2s : IntKind.i64.wrap (2 * (s : Int)) = (D : Int) := by rw [show 2 * (s : Int) = (D : Int) by omega]; exact IntWalk.i64_in _ ⟨by omega, by omega⟩
  have KPl : Hid (∀ (w1 : World) (k px py g cc : Nat), ringX s k = px → ringY s k = py → px ≤ s → py ≤ s → RM w1 s s n (turnI s L k) g 0 → Calls Tryz.prog 64 #[.agg #[.int .i64 (s : Nat), .int .i64 (s : Nat), .slice (some ⟨g, 0, none⟩) n cc], .int .i64 (D : Nat), .int .i64 (D : Nat), .agg #[.int .i64 (px : Nat), .int .i64 (py : Nat)]] w1 fun e w' =>
      ∃ g', e = .returned (.tuple #[.agg #[.int .i64 (D : Nat), .int .i64 (D : Nat), .slice (some ⟨g', 0, none⟩) N N], .int .i64 0]) ∧ RM w' D D N (ringP s L k) g' 0 ∧ Below w1.heap.size w1 w') := Lib.hid fun w1 k px py g cc e1 e2 h1 h2 h => by
    subst e1 e2 hD hN
    exact rm_placed h cc (by omega) (by omega) (by omega) (by omega) rfl
  have KAd : Hid (∀ (w1 : World) (k g cc g' cc' : Nat), k < 4 → RM w1 D D N (ringK s L k) g 0 → RM w1 D D N (ringP s L k) g' 0 → Calls Tryz.prog 65 #[.agg #[.int .i64 (D : Nat), .int .i64 (D : Nat), .slice (some ⟨g, 0, none⟩) N cc], .agg #[.int .i64 (D : Nat), .int .i64 (D : Nat), .slice (some ⟨g', 0, none⟩) N cc']] w1 fun e w' =>
      ∃ g', e = .returned (.tuple #[.agg #[.int .i64 (D : Nat), .int .i64 (D : Nat), .slice (some ⟨g', 0, none⟩) N N], .int .i64 0]) ∧ RM w' D D N (ringK s L (k + 1)) g' 0 ∧ Below w1.heap.size w1 w') := Lib.hid fun w1 k g cc g' cc' hk h h' => by
    subst hD hN
    exact rm_added h h' cc cc' (fun j hj => by
      have q1 := ringK_small (s := s) hsm k j
      have q2 := ringP_small (s := s) hsm k j hj
      have q3 : k * 256 ≤ 3 * 256 := Nat.mul_le_mul_right _ (by omega)
      omega)
  have KTu : Hid (∀ (w1 : World) (k g cc : Nat), RM w1 s s n (turnI s L k) g 0 → Calls Tryz.prog 66 #[.agg #[.int .i64 (s : Nat), .int .i64 (s : Nat), .slice (some ⟨g, 0, none⟩) n cc]] w1 fun e w' =>
      ∃ g', e = .returned (.tuple #[.agg #[.int .i64 (s : Nat), .int .i64 (s : Nat), .slice (some ⟨g', 0, none⟩) n n], .int .i64 0]) ∧ RM w' s s n (turnI s L (k + 1)) g' 0 ∧ Below w1.heap.size w1 w') := Lib.hid fun w1 k g cc h => by
    subst hn
    exact rm_turned h cc
  have HG := Lib.hid (And.intro hs (And.intro hD (And.intro hN (And.intro hL (And.intro hsm (And.intro hRR (And.intro hT (And.intro ht (And.intro hm (And.intro hn (And.intro hsh hM)))))))))))
  have H4 := Lib.hid (turnI_four hL)
  have HRR := Lib.hid hRR
  have HK := Lib.hid hKp
  have HT := Lib.hid hTn
  have HA := Lib.hid hA
  have HB := Lib.hid (And.intro hBt (And.intro hBa hne))
  clear hs hD hN hL hsm hRR hT ht hm hn hsh hM hKp hTn hA hBt hBa hne
  go_upto_block 0 with fail
  go_cut [] (fun wc => ∃ gt ct ga ca : Nat, Kp w wc [(Bt, (.cells #[.int .i64 (s : Nat), .int .i64 (s : Nat), .slice (some ⟨gt, 0, none⟩) n ct] 121 (0, 0))), (Ba, (.cells #[.int .i64 (D : Nat), .int .i64 (D : Nat), .slice (some ⟨ga, 0, none⟩) N ca] 121 (0, 0))), (w.heap.size, (.cells #[.int .i64 (s : Nat), .int .i64 (s : Nat), .slice (some ⟨b, o, none⟩) n c] 117 (0, 0)))] ∧ RM wc s s n (turnI s L 4) gt 0 ∧ RM wc D D N (ringK s L 4) ga 0)
  case first =>
    go_wp2_with fail
    go_loopw [91] (fun iv wx => ∃ k gt ct ga ca : Nat, k ≤ 4 ∧ iv = .int .i64 k ∧ Kp w wx [(Bt, (.cells #[.int .i64 (s : Nat), .int .i64 (s : Nat), .slice (some ⟨gt, 0, none⟩) n ct] 121 (0, 0))), (Ba, (.cells #[.int .i64 (D : Nat), .int .i64 (D : Nat), .slice (some ⟨ga, 0, none⟩) N ca] 121 (0, 0))), (w.heap.size, (.cells #[.int .i64 (s : Nat), .int .i64 (s : Nat), .slice (some ⟨b, o, none⟩) n c] 117 (0, 0)))] ∧ RM wx s s n (turnI s L k) gt 0 ∧ RM wx D D N (ringK s L k) ga 0) (fun iv _ => 4 - (intOf iv).toNat)
    case atStart => exact ⟨0, g0, c0, g1, c1, by omega, rfl, HK.out, HT.out, HA.out⟩
    case round =>
      obtain ⟨k, gt, ct, ga, ca, hk, rfl, hkp, hrt, hra⟩ := hrel
      have J0 := Lib.hid hkp
      have T0 := Lib.hid hrt
      have A0 := Lib.hid hra
      clear hkp hrt hra HK HT HA
      by_cases hlt : k < 4
      · have hx : ∃ px py : Nat, (∀ w1 : World, (Instr.index 125 (.agg #[.int .i64 0, .int .i64 0, .int .i64 (s : Nat), .int .i64 0, .int .i64 (s : Nat), .int .i64 (s : Nat), .int .i64 0, .int .i64 (s : Nat)]) (.int .i64 (k : Int))).run Tryz.prog w1 = .ok (.agg #[.int .i64 (px : Nat), .int .i64 (py : Nat)]) w1) ∧ ringX s k = px ∧ ringY s k = py ∧ px ≤ s ∧ py ≤ s := by
          rcases (show k = 0 ∨ k = 1 ∨ k = 2 ∨ k = 3 by omega) with rfl | rfl | rfl | rfl
          · exact ⟨0, 0, fun w1 => by kernel_rfl, rfl, rfl, Nat.zero_le _, Nat.zero_le _⟩
          · exact ⟨s, 0, fun w1 => by kernel_rfl, rfl, rfl, Nat.le_refl _, Nat.zero_le _⟩
          · exact ⟨s, s, fun w1 => by kernel_rfl, rfl, rfl, Nat.le_refl _, Nat.le_refl _⟩
          · exact ⟨0, s, fun w1 => by kernel_rfl, rfl, rfl, Nat.zero_le _, Nat.le_refl _⟩
        obtain ⟨px, py, hix, hpx, hpy, hpx2, hpy2⟩ := hx
        have HPX := Lib.hid (And.intro hpx (And.intro hpy (And.intro hpx2 hpy2)))
        clear hpx hpy hpx2 hpy2
        go_upto_region 12 with fail
        clear hix
        refine wp_world (fun w' => Kp w w' [(wr.heap.size, (.cells #[.int .i64 (px : Nat), .int .i64 (py : Nat)] 124 (0, 0))), (Bt, (.cells #[.int .i64 (s : Nat), .int .i64 (s : Nat), .slice (some ⟨gt, 0, none⟩) n ct] 121 (0, 0))), (Ba, (.cells #[.int .i64 (D : Nat), .int .i64 (D : Nat), .slice (some ⟨ga, 0, none⟩) N ca] 121 (0, 0))), (w.heap.size, (.cells #[.int .i64 (s : Nat), .int .i64 (s : Nat), .slice (some ⟨b, o, none⟩) n c] 117 (0, 0)))] ∧ Below wr.heap.size wr w') (by first | exact ⟨J0.out.alloc _, (Below.refl _ _).alloc (Nat.le_refl _) _⟩ | exact ⟨kp_set2 J0.out _ _, (kp_set2 (Kp.none wr) _ _).1⟩) fun wa ka => ?_
        have J1 := Lib.hid ka.1
        have T1 := Lib.hid (T0.out.kept ka.2)
        have A1 := Lib.hid (A0.out.kept ka.2)
        obtain ⟨Bp, hBp⟩ : ∃ Bp, wr.heap.size = Bp := ⟨_, rfl⟩
        rw [hBp] at J1 ⊢
        clear ka J0 T0 A0 hBp
        obtain ⟨x0, x1, x2⟩ := cells3 (J1.out.2 _ (.tail _ (.head _)))
        obtain ⟨p0, p1⟩ := cells2 (J1.out.2 _ (.head _))
        go_upto_region 13 with (first
          | (go_at_call 64; (refine Calls.mono (KPl.out _ k px py _ _ HPX.out.1 HPX.out.2.1 HPX.out.2.2.1 HPX.out.2.2.2 T1.out) ?_); rintro e wb ⟨gp, rfl, hm, hb⟩;
             have J2 := Lib.hid ((J1.out.call hb).subs (m := [(Bt, (.cells #[.int .i64 (s : Nat), .int .i64 (s : Nat), .slice (some ⟨gt, 0, none⟩) n ct] 121 (0, 0))), (Ba, (.cells #[.int .i64 (D : Nat), .int .i64 (D : Nat), .slice (some ⟨ga, 0, none⟩) N ca] 121 (0, 0))), (w.heap.size, (.cells #[.int .i64 (s : Nat), .int .i64 (s : Nat), .slice (some ⟨b, o, none⟩) n c] 117 (0, 0)))]) (fun p hp => .tail _ hp)); have T2 := Lib.hid (T1.out.kept hb); have A2 := Lib.hid (A1.out.kept hb); have P2 := Lib.hid hm; clear hb hm))
        clear x0 x1 x2 p0 p1 J1 T1 A1
        refine wp_world (fun w' => Kp w w' [(wb.heap.size, (.cells #[.int .i64 (D : Nat), .int .i64 (D : Nat), .slice (some ⟨gp, 0, none⟩) N N] 121 (0, 0))), (Bt, (.cells #[.int .i64 (s : Nat), .int .i64 (s : Nat), .slice (some ⟨gt, 0, none⟩) n ct] 121 (0, 0))), (Ba, (.cells #[.int .i64 (D : Nat), .int .i64 (D : Nat), .slice (some ⟨ga, 0, none⟩) N ca] 121 (0, 0))), (w.heap.size, (.cells #[.int .i64 (s : Nat), .int .i64 (s : Nat), .slice (some ⟨b, o, none⟩) n c] 117 (0, 0)))] ∧ Below wb.heap.size wb w') (by first | exact ⟨J2.out.alloc _, (Below.refl _ _).alloc (Nat.le_refl _) _⟩ | exact ⟨kp_set3 J2.out _ _ _, below_new3 _ _ _⟩) fun wd kd => ?_
        have J3 := Lib.hid kd.1
        have T3 := Lib.hid (T2.out.kept kd.2)
        have A3 := Lib.hid (A2.out.kept kd.2)
        have P3 := Lib.hid (P2.out.kept kd.2)
        obtain ⟨Bq, hBq⟩ : ∃ Bq, wb.heap.size = Bq := ⟨_, rfl⟩
        rw [hBq] at J3 ⊢
        clear kd J2 T2 A2 P2 hBq
        obtain ⟨x0, x1, x2⟩ := cells3 (J3.out.2 _ (.tail _ (.tail _ (.head _))))
        obtain ⟨y0, y1, y2⟩ := cells3 (J3.out.2 _ (.head _))
        go_upto_region 16 with (first
          | (go_at_call 65; (refine Calls.mono (KAd.out _ k _ _ _ _ hlt A3.out P3.out) ?_); rintro e we ⟨gv, rfl, hm, hb⟩;
             have J4 := Lib.hid ((J3.out.call hb).subs (m := [(Bt, (.cells #[.int .i64 (s : Nat), .int .i64 (s : Nat), .slice (some ⟨gt, 0, none⟩) n ct] 121 (0, 0))), (Ba, (.cells #[.int .i64 (D : Nat), .int .i64 (D : Nat), .slice (some ⟨ga, 0, none⟩) N ca] 121 (0, 0))), (w.heap.size, (.cells #[.int .i64 (s : Nat), .int .i64 (s : Nat), .slice (some ⟨b, o, none⟩) n c] 117 (0, 0)))]) (fun p hp => .tail _ hp)); have T4 := Lib.hid (T3.out.kept hb); have S4 := Lib.hid hm; clear hb hm))
        clear x0 x1 x2 y0 y1 y2 J3 T3 A3 P3
        refine wp_world (fun w' => Kp w w' [(we.heap.size, (.cells #[.int .i64 (D : Nat), .int .i64 (D : Nat), .slice (some ⟨gv, 0, none⟩) N N] 121 (0, 0))), (Bt, (.cells #[.int .i64 (s : Nat), .int .i64 (s : Nat), .slice (some ⟨gt, 0, none⟩) n ct] 121 (0, 0))), (Ba, (.cells #[.int .i64 (D : Nat), .int .i64 (D : Nat), .slice (some ⟨ga, 0, none⟩) N ca] 121 (0, 0))), (w.heap.size, (.cells #[.int .i64 (s : Nat), .int .i64 (s : Nat), .slice (some ⟨b, o, none⟩) n c] 117 (0, 0)))] ∧ Below we.heap.size we w') (by first | exact ⟨J4.out.alloc _, (Below.refl _ _).alloc (Nat.le_refl _) _⟩ | exact ⟨kp_set3 J4.out _ _ _, below_new3 _ _ _⟩) fun wf kf => ?_
        have J5 := Lib.hid kf.1
        have T5 := Lib.hid (T4.out.kept kf.2)
        have S5 := Lib.hid (S4.out.kept kf.2)
        have hvl : Bt < we.heap.size ∧ Ba < we.heap.size := ⟨lt_of_blk (J4.out.2 _ (.head _)), lt_of_blk (J4.out.2 _ (.tail _ (.head _)))⟩
        obtain ⟨Bv, hBv⟩ : ∃ Bv, we.heap.size = Bv := ⟨_, rfl⟩
        rw [hBv] at J5 hvl ⊢
        have HVL := Lib.hid hvl
        clear hvl
        clear kf J4 T4 S4 hBv
        obtain ⟨x0, x1, x2⟩ := cells3 (J5.out.2 _ (.tail _ (.head _)))
        go_upto_region 17 with (first
          | (go_at_call 66; (refine Calls.mono (KTu.out _ k _ _ T5.out) ?_); rintro e wg ⟨gq, rfl, hm, hb⟩;
             have J6 := Lib.hid (J5.out.call hb); have S6 := Lib.hid (S5.out.kept hb); have Q6 := Lib.hid hm; clear hb hm))
        clear x0 x1 x2 J5 T5 S5
        refine wp_world (fun w' => Kp w w' [(wg.heap.size, (.cells #[.int .i64 (s : Nat), .int .i64 (s : Nat), .slice (some ⟨gq, 0, none⟩) n n] 121 (0, 0))), (Bv, (.cells #[.int .i64 (D : Nat), .int .i64 (D : Nat), .slice (some ⟨gv, 0, none⟩) N N] 121 (0, 0))), (Bt, (.cells #[.int .i64 (s : Nat), .int .i64 (s : Nat), .slice (some ⟨gt, 0, none⟩) n ct] 121 (0, 0))), (Ba, (.cells #[.int .i64 (D : Nat), .int .i64 (D : Nat), .slice (some ⟨ga, 0, none⟩) N ca] 121 (0, 0))), (w.heap.size, (.cells #[.int .i64 (s : Nat), .int .i64 (s : Nat), .slice (some ⟨b, o, none⟩) n c] 117 (0, 0)))] ∧ Below wg.heap.size wg w') (by first | exact ⟨J6.out.alloc _, (Below.refl _ _).alloc (Nat.le_refl _) _⟩ | exact ⟨kp_set3 J6.out _ _ _, below_new3 _ _ _⟩) fun wh kh => ?_
        have J7 := Lib.hid kh.1
        have S7 := Lib.hid (S6.out.kept kh.2)
        have Q7 := Lib.hid (Q6.out.kept kh.2)
        have hnl : Bt < wg.heap.size ∧ Ba < wg.heap.size := ⟨lt_of_blk (J6.out.2 _ (.tail _ (.head _))), lt_of_blk (J6.out.2 _ (.tail _ (.tail _ (.head _))))⟩
        obtain ⟨Bn, hBn⟩ : ∃ Bn, wg.heap.size = Bn := ⟨_, rfl⟩
        rw [hBn] at J7 hnl ⊢
        have HNL := Lib.hid hnl
        clear hnl
        clear kh J6 S6 Q6 hBn
        obtain ⟨x0, x1, x2⟩ := cells3 (J7.out.2 _ (.head _))
        obtain ⟨y0, y1, y2⟩ := cells3 (J7.out.2 _ (.tail _ (.head _)))
        have eD : ((D : Int) != (D : Int)) = false := by simp
        go_upto_region 19 with (first
          | (go_at_call 67; (refine Calls.mono (rm_check Q7.out n) ?_); rintro e wi ⟨rfl, hb⟩;
             have J8 := Lib.hid (J7.out.call hb); have S8 := Lib.hid (S7.out.kept hb); have Q8 := Lib.hid (Q7.out.kept hb); clear hb x0 x1 x2 y0 y1 y2 J7 S7 Q7;
             obtain ⟨y0, y1, y2⟩ := cells3 (J8.out.2 _ (.tail _ (.head _))))
          | (go_at_call 67; (refine Calls.mono (rm_check S8.out N) ?_); rintro e wj ⟨rfl, hb⟩;
             have J9 := Lib.hid (J8.out.call hb); have S9 := Lib.hid (S8.out.kept hb); have Q9 := Lib.hid (Q8.out.kept hb); clear hb y0 y1 y2 J8 S8 Q8;
             obtain ⟨y0, y1, y2⟩ := cells3 (J9.out.2 _ (.tail _ (.head _)))))
        clear y0 y1 y2
        obtain ⟨x0, x1, x2⟩ := cells3 (J9.out.2 _ (.head _))
        obtain ⟨y0, y1, y2⟩ := cells3 (J9.out.2 _ (.tail _ (.head _)))
        have fA : ∀ j, wj.frozen? ⟨Ba, j, none⟩ = false := fun j => frozen_of_row wj Ba j _ _ (J9.out.2 _ (.tail _ (.tail _ (.tail _ (.head _)))))
        have fT : ∀ j, wj.frozen? ⟨Bt, j, none⟩ = false := fun j => frozen_of_row wj Bt j _ _ (J9.out.2 _ (.tail _ (.tail _ (.head _))))
        obtain ⟨a0, a1, a2⟩ := cells3 (J9.out.2 _ (.tail _ (.tail _ (.tail _ (.head _)))))
        obtain ⟨t0, t1, t2⟩ := cells3 (J9.out.2 _ (.tail _ (.tail _ (.head _))))
        have nBt : ¬ Bt = Ba := HB.out.2.2
        have nBa : ¬ Ba = Bt := fun h => HB.out.2.2 h.symm
        have nv1 : ¬ Bv = Bt := Nat.ne_of_gt HVL.out.1
        have nv2 : ¬ Bv = Ba := Nat.ne_of_gt HVL.out.2
        have nn1 : ¬ Bn = Bt := Nat.ne_of_gt HNL.out.1
        have nn2 : ¬ Bn = Ba := Nat.ne_of_gt HNL.out.2
        go_region_held3 (fun w' => w'.cell? ⟨Bv, 0, none⟩ = some (.int .i64 (D : Nat)) ∧ w'.cell? ⟨Bv, 1, none⟩ = some (.int .i64 (D : Nat)) ∧ w'.cell? ⟨Bv, 2, none⟩ = some (.slice (some ⟨gv, 0, none⟩) N N) ∧
            w'.cell? ⟨Bn, 0, none⟩ = some (.int .i64 (s : Nat)) ∧ w'.cell? ⟨Bn, 1, none⟩ = some (.int .i64 (s : Nat)) ∧ w'.cell? ⟨Bn, 2, none⟩ = some (.slice (some ⟨gq, 0, none⟩) n n))
          (first
            | (go_split_ands; refine ⟨?_, ?_, ?_, ?_, ?_, ?_⟩ <;> with_reducible assumption)
            | (go_split_ands; refine ⟨?_, ?_, ?_, ?_, ?_, ?_⟩ <;> first | (rw [cell_put3d _ nv2]; assumption) | (rw [cell_put3d _ nn2]; assumption) | (rw [cell_put3d _ nv1]; assumption) | (rw [cell_put3d _ nn1]; assumption) | (rw [cell_put3 _ nv2]; assumption) | (rw [cell_put3 _ nn2]; assumption) | (rw [cell_put3 _ nv1]; assumption) | (rw [cell_put3 _ nn1]; assumption))
            | (go_keep; done))
          (fail)
        all_goals
          clear a0 a1 a2 t0 t1 t2 fA fT x0 x1 x2 y0 y1 y2 nBt nBa nv1 nv2 nn1 nn2
          go_wp2_with fail
          go_roundw
          case rel =>
            refine ⟨k + 1, gq, n, gv, N, by omega, by go_num, ?_⟩
            exact ring_rel J9.out Q9.out S9.out HB.out _ rfl
          case measure => simp [intOf]; omega
      · obtain rfl : k = 4 := by omega
        go_wp2_with fail
        go_meet
        exact ⟨gt, ct, ga, ca, J0.out, T0.out, A0.out⟩
  case rest =>
    rename_i hK
    obtain ⟨gt, ct, ga, ca, hk, ht4, ha4⟩ := hcut
    refine hK _ _ ?_
    clear hK
    rw [H4.out] at ht4
    rw [HRR.out] at ha4
    obtain ⟨a1, a2, a3, a4, a5, a6, a7, a8, a9, a10, a11, a12⟩ := HG.out
    exact ring21 w s D n N b o c L a1 a2 a3 a4 a5 R a6 Tt a7 a10 sh a11 a12 Bt gt ct Ba ga ca a8 a9 _ _ _ _ _ _ _ _ _ _ _ _ _ _ _ _ _ _ _ _ _ _ _ _ _ _ _ _ _ _ _ _ _ _ _ _ _ _ _ _ _ _ _ _ _ _ _ _ _ _ _ _ _ _ _ _ _ _ _ _ _ _ _ _ _ _ _ _ _ _ _ _ _ _ _ _ _ _ _ _ _ _ _ _ _ _ _ _ _ _ _ _ _ _ _ _ _ _ _ _ _ _ _ _ _ _ _ _ _ _ _ _ _ _ _ _ _ _ _ _ _ _ _ _ _ _ _ _ _ _ _ _ _ _ _ _ _ _ _ _ _ _ _ _ _ _ _ _ _ _ _ _ _ _ _ _ _ _ _ _ _ _ _ _ _ _ _ _ _ _ _ _ _ _ _ _ _ _ _ _ _ _ _ _ _ _ _ _ _ _ _ _ _ _ _ _ _ _ _ _ _ _ _ _ _ _ _ _ _ _ _ _ _ _ _ _ _ _ _ _ _ _ _ _ _ _ _ _ _ _ _ _ _ _ _ _ _ _ _ _ _ _ _ _ _ _ _ _ _ _ _ _ _ _ _ _ _ _ _ _ _ _ _ _ _ _ _ _ _ _ _ _ _ _ _ _ _ _ hk ht4 ha4
end Go.Proofs.YtpmjiifdnnhecaaGreatDoor
