/-
  Arguments that are arrays of bytes, opened.
-/
import Derived.Test.YtfdkmmllemkogaaGreatDoorODg
import Derived.Test.YtfdkmmllemkogaaGreatDoorOHb
import Derived.Test.YtfdkmmllemkogaaGreatDoorOGa
import Derived.Test.YtfdkmmllemkogaaGreatDoorOLm
import Derived.Test.YtfdkmmllemkogaaGreatDoorOVk
import Derived.Test.YtfdkmmllemkogaaGreatDoorOWp
import Derived.Test.YtfdkmmllemkogaaGreatDoorOWs
namespace Go.Proofs.YtfdkmmllemkogaaGreatDoor
open Go.ChangeShapes Go.WideShapes Go.ChangeAt Go.RowKit Go.Joins Go.Deep
set_option linter.unusedVariables false
set_option linter.unusedSimpArgs false
set_option maxRecDepth 100000

theorem openByteArr {H : Type} {enc : TypeId × Value → H} {W : World} {b0 : Nat} {t n e : Nat} {v : Value} {d : DataW H} {p : List MemPlace} (ht : Tryz.prog.underlying t = some (.array n e)) (he : Tryz.prog.underlying e = some (.int .u8)) (hc : Tryz.prog.cellsOf t = n) (hce : Tryz.prog.cellsOf e = 1)
    (hv : Value.okWide Tryz.prog W .any b0 t v) (h : DataW.Trod enc Tryz.prog W 0 (fun _ => true) true t v d p) : ∃ l : List Int, l.length = n ∧ (∀ z ∈ l, 0 ≤ z ∧ z ≤ 255) ∧ v = .agg (l.map (Value.int .u8)).toArray := by
  obtain ⟨cs, rfl, hsz⟩ := okWide_arr ht hv
  obtain ⟨fuel, hf⟩ := h
  obtain ⟨xs, m, _, _, _, hl, hi⟩ := DataW.trod_array ht hf
  have e1' : IntKind.u8.min = 0 := by rfl
  have e2' : IntKind.u8.max = 255 := by rfl
  have key : ∀ i, i < n → ∃ z : Int, cs.toList[i]? = some (.int .u8 z) ∧ 0 ≤ z ∧ z ≤ 255 := by
    intro i hlt
    have h := hi i hlt
    rw [hce, Nat.mul_one] at h
    simp only [Value.cells] at h
    obtain ⟨y, hy⟩ : ∃ y, xs[i]? = some y := ⟨_, List.getElem?_eq_getElem (by omega)⟩
    rw [hy] at h
    have hli : i < cs.toList.length := by rw [Array.length_toList]; omega
    have e1 : (cs.toList.drop i).take 1 = [cs.toList[i]] := by
      rw [List.drop_eq_getElem_cons hli]; rfl
    rw [e1] at h
    obtain ⟨X, e0, _, hw⟩ := DataW.trod_int he h
    simp only [List.cons.injEq, and_true] at e0
    simp only [Lit.wf, Bool.and_eq_true, decide_eq_true_eq, e1', e2'] at hw
    exact ⟨X, by rw [List.getElem?_eq_getElem hli, e0], hw.1, hw.2⟩
  refine ⟨(List.range n).map (fun i => match cs.toList[i]? with | some (Value.int _ z) => z | _ => (0 : Int)), by simp, ?_, ?_⟩
  · intro z hz
    obtain ⟨i, hi', rfl⟩ := List.mem_map.1 hz
    obtain ⟨y, hy, h1, h2⟩ := key i (List.mem_range.1 hi')
    rw [hy]
    exact ⟨h1, h2⟩
  · congr 1
    apply Array.ext'
    refine List.ext_getElem? fun i => ?_
    simp only [List.map_map, List.getElem?_map]
    by_cases hi' : i < n
    · obtain ⟨z, hz, _, _⟩ := key i hi'
      rw [hz, List.getElem?_range hi']
      have hz2 : cs[i]? = some (.int .u8 z) := by simpa using hz
      simp [hz2]
    · have h1 : cs.toList[i]? = none := by rw [List.getElem?_eq_none]; rw [Array.length_toList]; omega
      have h2 : (List.range n)[i]? = none := by rw [List.getElem?_eq_none]; simp; omega
      rw [h1, h2]; rfl
theorem openBytes2 {H : Type} {enc : TypeId × Value → H} {W : World} {b0 : Nat} {v : Value} {d : DataW H} {p : List MemPlace}
    (hv : Value.okWide Tryz.prog W .any b0 150 v) (h : DataW.Trod enc Tryz.prog W 0 (fun _ => true) true 150 v d p) :
    ∃ x y : Int, v = .agg #[.int .u8 x, .int .u8 y] ∧ (0 ≤ x ∧ x ≤ 255) ∧ (0 ≤ y ∧ y ≤ 255) := by
  obtain ⟨l, hl, hb, rfl⟩ := openByteArr Tryz.underlying150 Tryz.underlying5 (by kernel_rfl) (by kernel_rfl) hv h
  match l, hl with
  | [x, y], _ => exact ⟨x, y, rfl, hb x (by simp), hb y (by simp)⟩
end Go.Proofs.YtfdkmmllemkogaaGreatDoor

/-
  LightFound, plain mathematics: a frame of which one byte is changed is none; what is received of frames behind bytes that are no marks; the counter that is lost.
-/
namespace Go.Proofs.YtfdkmmllemkogaaGreatDoor
open Go.RowKit
set_option linter.unusedVariables false
set_option linter.unusedSimpArgs false

/-! ### The checksum tells one changed byte -/
def chkFrom (x : Int) (l : List Int) : Int := l.foldl (fun x b => (277 * x + b) % 16777199) x
theorem chkFrom_bd (l : List Int) : ∀ x : Int, 0 ≤ x ∧ x ≤ 16777198 → 0 ≤ chkFrom x l ∧ chkFrom x l ≤ 16777198 := by
  unfold chkFrom
  induction l with
  | nil => intro x h; exact h
  | cons b l ih => intro x h; refine ih _ ?_; dsimp only; omega
theorem chkFrom_inj : ∀ (l : List Int) (x y : Int), 0 ≤ x ∧ x ≤ 16777198 → 0 ≤ y ∧ y ≤ 16777198 → chkFrom x l = chkFrom y l → x = y
  | [], x, y, _, _, h => h
  | b :: l, x, y, hx, hy, h => by
    have h1 := chkFrom_inj l ((277 * x + b) % 16777199) ((277 * y + b) % 16777199) (by omega) (by omega) h
    omega
theorem chk_one (l1 l2 : List Int) {b b' : Int} (hb : 0 ≤ b ∧ b ≤ 255) (hb' : 0 ≤ b' ∧ b' ≤ 255) (h : chkOf (l1 ++ b :: l2) = chkOf (l1 ++ b' :: l2)) : b = b' := by
  have e : ∀ c : Int, chkOf (l1 ++ c :: l2) = chkFrom ((277 * chkFrom 1 l1 + c) % 16777199) l2 := fun c => by
    unfold chkOf chkFrom; rw [List.foldl_append]; rfl
  rw [e, e] at h
  have h1 := chkFrom_inj l2 _ _ (by omega) (by omega) h
  omega

/-! ### Frames by their bytes -/
def headB (p : List Int) : List Int := 77 :: (p ++ [255 - p[0]?.getD 0, 255 - p[1]?.getD 0, 255 - p[2]?.getD 0])
def frameB (p : List Int) : List Int := headB p ++ [byt (chkOf (headB p)) 3, byt (chkOf (headB p)) 2, byt (chkOf (headB p)) 1, byt (chkOf (headB p)) 0]
def bytesT (s c o x y z : Int) : List Int :=
  [s, byt c 1, byt c 0, o, byt (x + 1048576) 3, byt (x + 1048576) 2, byt (x + 1048576) 1, byt (x + 1048576) 0, byt (y + 1048576) 3, byt (y + 1048576) 2, byt (y + 1048576) 1, byt (y + 1048576) 0,
   byt (z + 1048576) 3, byt (z + 1048576) 2, byt (z + 1048576) 1, byt (z + 1048576) 0]
theorem frame_bytes (s c o x y z : Int) : frame s c o x y z = frameB (bytesT s c o x y z) := rfl
theorem headB_len {p : List Int} (h : p.length = 16) : (headB p).length = 20 := by simp [headB, h]
theorem frameB_len {p : List Int} (h : p.length = 16) : (frameB p).length = 24 := by simp [frameB, headB_len h]
theorem frameB_head {p : List Int} (h : p.length = 16) {j : Nat} (hj : j < 20) : (frameB p)[j]? = (headB p)[j]? := by
  unfold frameB; rw [List.getElem?_append_left (by rw [headB_len h]; exact hj)]
theorem headB_body {p : List Int} (h : p.length = 16) {j : Nat} (hj : j < 16) : (headB p)[j + 1]? = p[j]? := by
  unfold headB; rw [List.getElem?_cons_succ, List.getElem?_append_left (by omega)]
theorem headB_rep {p : List Int} (h : p.length = 16) {j : Nat} (hj : j < 3) : (headB p)[j + 17]? = some (255 - p[j]?.getD 0) := by
  unfold headB
  rw [List.getElem?_cons_succ, List.getElem?_append_right (by omega), h]
  match j, hj with
  | 0, _ => rfl
  | 1, _ => rfl
  | 2, _ => rfl
theorem frameB_chk {p : List Int} (h : p.length = 16) {j : Nat} (hj : j < 4) : (frameB p)[j + 20]? = some (byt (chkOf (headB p)) (3 - j)) := by
  unfold frameB
  rw [List.getElem?_append_right (by rw [headB_len h]; omega), headB_len h]
  match j, hj with
  | 0, _ => rfl
  | 1, _ => rfl
  | 2, _ => rfl
  | 3, _ => rfl
theorem byt4_inj {v u : Int} (hv : 0 ≤ v ∧ v ≤ 4294967295) (hu : 0 ≤ u ∧ u ≤ 4294967295) (h : ∀ k, k < 4 → byt v k = byt u k) : v = u := by
  have e1 := num4 v hv.1 hv.2
  have e2 := num4 u hu.1 hu.2
  rw [h 0 (by omega), h 1 (by omega), h 2 (by omega), h 3 (by omega)] at e1
  rw [← e1, e2]
theorem split_at {l : List Int} {k : Nat} {u : Int} (h : l[k]? = some u) : l = l.take k ++ u :: l.drop (k + 1) := by
  obtain ⟨hlt, rfl⟩ := List.getElem?_eq_some_iff.1 h
  rw [List.getElem_cons_drop hlt, List.take_append_drop]
theorem drop_add {α : Type} (A B : List α) (i : Nat) : (A ++ B).drop (A.length + i) = B.drop i := by
  rw [List.drop_append, List.drop_eq_nil_of_le (by omega), List.nil_append, Nat.add_sub_cancel_left]
/-- Two frames that agree but at one place are one. -/
theorem frameB_one {p q : List Int} (hp : p.length = 16) (hq : q.length = 16) (bp : ∀ v ∈ p, 0 ≤ v ∧ v ≤ 255) (bq : ∀ v ∈ q, 0 ≤ v ∧ v ≤ 255) (k : Nat) (h : ∀ j, j ≠ k → (frameB p)[j]? = (frameB q)[j]?) : p = q := by
  have hb : ∀ j, j < 16 → j + 1 ≠ k → p[j]? = q[j]? := fun j hj hk => by
    have h1 := h (j + 1) hk
    rwa [frameB_head hp (by omega), frameB_head hq (by omega), headB_body hp hj, headB_body hq hj] at h1
  suffices hk : ∀ j, j < 16 → j + 1 = k → p[j]? = q[j]? by
    refine List.ext_getElem? fun j => ?_
    by_cases hj : j < 16
    · by_cases e : j + 1 = k
      · exact hk j hj e
      · exact hb j hj e
    · rw [List.getElem?_eq_none (by omega), List.getElem?_eq_none (by omega)]
  intro j hj e
  obtain ⟨u, g1⟩ : ∃ u, p[j]? = some u := ⟨_, List.getElem?_eq_getElem (by omega)⟩
  obtain ⟨v, g2⟩ : ∃ v, q[j]? = some v := ⟨_, List.getElem?_eq_getElem (by omega)⟩
  have mu := bp u (List.mem_of_getElem? g1)
  have mv := bq v (List.mem_of_getElem? g2)
  by_cases h3 : j < 3
  · have h1 := h (j + 17) (by omega)
    rw [frameB_head hp (by omega), frameB_head hq (by omega), headB_rep hp h3, headB_rep hq h3, g1, g2] at h1
    simp only [Option.getD_some, Option.some.injEq] at h1
    rw [g1, g2]
    congr 1
    omega
  · have hc : chkOf (headB p) = chkOf (headB q) := by
      have b1 := chk_bd (headB p)
      have b2 := chk_bd (headB q)
      refine byt4_inj (by omega) (by omega) fun i hi => ?_
      have h1 := h (3 - i + 20) (by omega)
      rw [frameB_chk hp (by omega), frameB_chk hq (by omega)] at h1
      rw [show 3 - (3 - i) = i by omega] at h1
      exact Option.some.inj h1
    have ha : ∀ i, i ≠ k → (headB p)[i]? = (headB q)[i]? := fun i hi => by
      by_cases h20 : i < 20
      · have h1 := h i hi
        rwa [frameB_head hp h20, frameB_head hq h20] at h1
      · rw [List.getElem?_eq_none (by rw [headB_len hp]; omega), List.getElem?_eq_none (by rw [headB_len hq]; omega)]
    have k1 : (headB p)[k]? = some u := by rw [← e, headB_body hp hj, g1]
    have k2 : (headB q)[k]? = some v := by rw [← e, headB_body hq hj, g2]
    have s1 := split_at k1
    have s2 := split_at k2
    have t1 : (headB p).take k = (headB q).take k := List.ext_getElem? fun i => by
      rw [List.getElem?_take, List.getElem?_take]
      by_cases hi : i < k
      · rw [if_pos hi, if_pos hi, ha i (by omega)]
      · rw [if_neg hi, if_neg hi]
    have t2 : (headB p).drop (k + 1) = (headB q).drop (k + 1) := List.ext_getElem? fun i => by
      rw [List.getElem?_drop, List.getElem?_drop, ha _ (by omega)]
    rw [s1, s2, t1, t2] at hc
    rw [g1, g2, chk_one _ _ mu mv hc]

/-! ### Decoding frames -/
def Tel.frame (t : Tel) : List Int := Go.Proofs.YtfdkmmllemkogaaGreatDoor.frame t.s t.c t.o t.x t.y t.z
def Tel.bts (t : Tel) : List Int := bytesT t.s t.c t.o t.x t.y t.z
theorem Tel.frame_b (t : Tel) : t.frame = frameB t.bts := rfl
theorem bytesT_in {s c o x y z : Int} (h : FitT s c o x y z) : ∀ v ∈ bytesT s c o x y z, 0 ≤ v ∧ v ≤ 255 := by
  have h1 := h.st
  have h2 := h.od
  intro v hv
  simp only [bytesT, List.mem_cons, List.not_mem_nil, or_false] at hv
  rcases hv with rfl | rfl | rfl | rfl | rfl | rfl | rfl | rfl | rfl | rfl | rfl | rfl | rfl | rfl | rfl | rfl <;> first | exact h1 | exact h2 | exact byt_bd _ _
theorem frame24 (t : Tel) (h : t.Good) : Bytes24 t.frame := ⟨rfl, frame_in h⟩
theorem telOf_frame (t : Tel) (h : t.Good) : telOf t.frame = t := by
  have h2 := num2 t.c h.ct.1 h.ct.2
  have h3 := num4 (t.x + 1048576) (by have := h.vx; omega) (by have := h.vx; omega)
  have h4 := num4 (t.y + 1048576) (by have := h.vy; omega) (by have := h.vy; omega)
  have h5 := num4 (t.z + 1048576) (by have := h.vz; omega) (by have := h.vz; omega)
  show (⟨t.s, numOf [byt t.c 1, byt t.c 0], t.o, numOf [byt (t.x + 1048576) 3, byt (t.x + 1048576) 2, byt (t.x + 1048576) 1, byt (t.x + 1048576) 0] - 1048576, numOf [byt (t.y + 1048576) 3, byt (t.y + 1048576) 2, byt (t.y + 1048576) 1, byt (t.y + 1048576) 0] - 1048576, numOf [byt (t.z + 1048576) 3, byt (t.z + 1048576) 2, byt (t.z + 1048576) 1, byt (t.z + 1048576) 0] - 1048576⟩ : Tel) = t
  rw [h2, h3, h4, h5]
  cases t
  simp
theorem decErr_frame (t : Tel) (h : t.Good) : decErr t.frame = 0 := by
  unfold decErr
  rw [if_neg (by simp [byteAt, Tel.frame, Go.Proofs.YtfdkmmllemkogaaGreatDoor.frame, frame20]), telOf_frame t h, if_neg (by simp [Tel.tail]; rfl)]
  exact telErr_good h
theorem decTel_frame (t : Tel) (h : t.Good) : decTel t.frame = t := by
  unfold decTel; rw [if_pos (decErr_frame t h), telOf_frame t h]
/-- Bytes that are decoded are the frame of their telegram. -/
theorem decErr_zero {F : List Int} (h : Bytes24 F) (h0 : decErr F = 0) : F = frameB (telOf F).bts ∧ FitT (telOf F).s (telOf F).c (telOf F).o (telOf F).x (telOf F).y (telOf F).z := by
  unfold decErr at h0
  split at h0
  · cases h0
  · rename_i hm
    split at h0
    · cases h0
    · rename_i ht
      obtain ⟨e1, e2, e3⟩ := raw_telOf F h (Classical.not_not.1 hm)
      have e4 : F.drop 17 = (telOf F).tail := Classical.not_not.1 ht
      rw [e4] at e1
      exact ⟨e1, e3⟩
/-- A frame of which one byte is changed is not decoded. -/
theorem decErr_broken (t : Tel) (h : t.Good) (hf : FitT t.s t.c t.o t.x t.y t.z) (k : Nat) (v : Int) (hv : 0 ≤ v ∧ v ≤ 255) (hk : k < 24) (hne : v ≠ t.frame[k]?.getD 0) : decErr (t.frame.set k v) ≠ 0 := fun h0 => by
  have hb : Bytes24 (t.frame.set k v) := ⟨by rw [List.length_set]; rfl, fun u hu => by
    rcases List.mem_or_eq_of_mem_set hu with h1 | h1
    · exact (frame24 t h).2 u h1
    · rw [h1]; exact hv⟩
  obtain ⟨e1, e2⟩ := decErr_zero hb h0
  have e3 := frameB_one (p := t.bts) (q := (telOf (t.frame.set k v)).bts) rfl rfl (bytesT_in hf) (bytesT_in e2) k (fun j hj => by
    rw [← e1, ← Tel.frame_b, List.getElem?_set_ne (fun e => hj e.symm)])
  rw [← e3, ← Tel.frame_b] at e1
  have e4 : (t.frame.set k v)[k]?.getD 0 = v := by rw [List.getElem?_set_self (by show k < 24; exact hk)]; rfl
  rw [e1] at e4
  exact hne e4.symm

/-! ### What is received -/
def joined (ts : List Tel) : List Int := ts.flatMap Tel.frame
theorem joined_len (ts : List Tel) : (joined ts).length = 24 * ts.length := by
  induction ts with
  | nil => rfl
  | cons t ts ih =>
    have e : joined (t :: ts) = t.frame ++ joined ts := rfl
    rw [e, List.length_append, ih, List.length_cons, show t.frame.length = 24 from rfl]; omega
theorem joined_at (ts : List Tel) (i : Nat) (hi : i < ts.length) : ((joined ts).drop (24 * i)).take 24 = (ts[i]'hi).frame := by
  induction ts generalizing i with
  | nil => simp at hi
  | cons t ts ih =>
    have e : joined (t :: ts) = t.frame ++ joined ts := rfl
    have hl : t.frame.length = 24 := rfl
    cases i with
    | zero => rw [e, Nat.mul_zero, List.drop_zero, List.take_append_of_le_length (by omega), List.take_of_length_le (by omega)]; rfl
    | succ i =>
      rw [e, show 24 * (i + 1) = t.frame.length + 24 * i by omega, drop_add]
      exact ih i (by simpa using hi)
/-- The span of what stands ahead. -/
def ahead1 (k : Nat) : List (Int × Int) := if k = 0 then [] else [(0, (k : Int))]
theorem ext_ahead (k : Nat) : extL (ahead1 k) k = ahead1 (k + 1) := by
  by_cases h : k = 0
  · subst h; rfl
  · unfold ahead1
    rw [if_neg h, if_neg (by omega)]
    simp [extL]
theorem rcv_ahead {B : List Int} {ts : List Tel} {n : Nat} (hB : ∀ v ∈ B, v ≠ 77) (hn : (B ++ joined ts).length = n) : ∀ k, k ≤ B.length → rcv (B ++ joined ts) n n 0 [] [] = rcv (B ++ joined ts) n n k [] (ahead1 k)
  | 0, _ => rfl
  | k + 1, h => by
    rw [rcv_ahead hB hn k (by omega)]
    have hl : k < n := by rw [← hn, List.length_append]; omega
    have ho : okAt (B ++ joined ts) n k = false := by
      unfold okAt
      split
      · have h1 : byteAt (streamAt (B ++ joined ts) k) 0 ≠ 77 := by
          unfold byteAt streamAt
          rw [List.getElem?_take, if_pos (by omega), List.getElem?_drop, List.getElem?_append_left (by omega), List.getElem?_eq_getElem (by omega)]
          exact hB _ (List.getElem_mem _)
        have h2 : decErr (streamAt (B ++ joined ts) k) = 1 := by unfold decErr; rw [if_pos h1]
        rw [h2]; rfl
      · rfl
    rw [rcv_miss hl ho, ext_ahead]
theorem rcv_frames {B : List Int} {ts : List Tel} {n : Nat} (hg : ∀ t ∈ ts, t.Good) (hn : (B ++ joined ts).length = n) (sp : List (Int × Int)) : ∀ i, i ≤ ts.length → rcv (B ++ joined ts) n n B.length [] sp = rcv (B ++ joined ts) n n (B.length + 24 * i) (ts.take i) sp
  | 0, _ => by simp
  | i + 1, h => by
    rw [rcv_frames hg hn sp i (by omega)]
    have hj := joined_len ts
    have hl : B.length + 24 * i + 24 ≤ n := by rw [← hn, List.length_append, hj]; omega
    have e : streamAt (B ++ joined ts) (B.length + 24 * i) = (ts[i]'(by omega)).frame := by
      unfold streamAt
      rw [drop_add]
      exact joined_at ts i (by omega)
    have hgi := hg _ (List.getElem_mem (show i < ts.length by omega))
    have ho : okAt (B ++ joined ts) n (B.length + 24 * i) = true := by
      unfold okAt; rw [if_pos hl, e, decErr_frame _ hgi]; rfl
    have ht : telAt (B ++ joined ts) n (B.length + 24 * i) = ts[i]'(by omega) := by
      unfold telAt; rw [if_pos hl, e, decTel_frame _ hgi]
    rw [rcv_hit (by omega) ho, ht, show B.length + 24 * i + 24 = B.length + 24 * (i + 1) by omega, List.take_add_one, List.getElem?_eq_getElem (by omega)]
    rfl
/-- Frames behind bytes that are no marks are received; these are skipped. -/
theorem rcv_found {B : List Int} {ts : List Tel} {n : Nat} (hB : ∀ v ∈ B, v ≠ 77) (hg : ∀ t ∈ ts, t.Good) (hn : (B ++ joined ts).length = n) : rcvL (B ++ joined ts) n = ts ∧ rcvP (B ++ joined ts) n = ahead1 B.length := by
  have h : rcv (B ++ joined ts) n n 0 [] [] = (ts, ahead1 B.length) := by
    rw [rcv_ahead hB hn B.length (Nat.le_refl _), rcv_frames hg hn _ ts.length (Nat.le_refl _), rcv_end (by rw [← hn, List.length_append, joined_len]; omega), List.take_length]
  exact ⟨by unfold rcvL; rw [h], by unfold rcvP; rw [h]⟩

/-! ### The counter that is lost -/
def ctr (i : Nat) : Int := ((65530 : Int) + (i : Int)) % 65536
def keptI (m k : Nat) : List Nat := (List.range m).filter fun j => decide (j ≠ k)
theorem keptI_succ (m k : Nat) : keptI (m + 1) k = keptI m k ++ (if m ≠ k then [m] else []) := by
  unfold keptI
  rw [List.range_succ, List.filter_append]
  congr 1
  by_cases h : m = k
  · simp [h]
  · simp [h]
def gapOf (m k : Nat) : List Int := if 0 < k ∧ k + 1 < m then [ctr k] else []
theorem lost_gap : ∀ m, m < 9 → ∀ k, k < m → cycTo ((keptI m k).map ctr) (((keptI m k).map ctr).length - 1) = gapOf m k ∧ (keptI m k).length = m - 1 := by decide +kernel
end Go.Proofs.YtfdkmmllemkogaaGreatDoor

/-
  LightFound: its walk from the counters that are lost on.
-/
namespace Go.Proofs.YtfdkmmllemkogaaGreatDoor
open Go.RowKit Go.Shelf
set_option linter.unusedVariables false
set_option linter.unusedSimpArgs false

noncomputable def cutF (n : Nat) : Code := ((Tryz.f16.body.bind (tailC n)).getD .skip)

section
variable {P : Program} {w : World}
theorem step_append_none {ops : Array Oper} {o : Oper} {a : Act} {K : Act → World → Prop} {Q : Exit → Act → World → Prop} {E : Prop} (hgd : o.guard = none) (s x : Operand) (t : TypeId)
    (ho : o.op = .call { callee := .builtin .append, args := #[s, x], argTypes := #[t, t] })
    (base : Nat) (e : TypeId) (i : TypeInfo) (size : Nat) (ht : P.underlying t = some (.slice e)) (hi : P.info? e = some i)
    (v : Value) (n : Nat) (xs : List Value) (hs : a.eval s = v) (hown : w.ownsRow base e size v n xs) (hx : a.eval x = .slice none 0 0)
    (h : K (a.put o.dst v) w) :
    if Region.wanted o (yielded ops a.tmps) = true then Oper.wp P o a w K Q else E := by
  have hw : Region.wanted o (yielded ops a.tmps) = true := by simp [Region.wanted, hgd]
  rw [if_pos hw]
  have hrun := run_append_owned_none (P := P) (w := w) base t o.type e i size ht hi v n xs hown
  unfold Oper.wp
  simp [execOp, ho, resolve, invoke, builtin, hs, hx, hrun, Result.andThen]
  exact h
theorem step_append_own {ops : Array Oper} {o : Oper} {a : Act} {K : Act → World → Prop} {Q : Exit → Act → World → Prop} {E : Prop} (hgd : o.guard = none) (s x : Operand) (t : TypeId)
    (ho : o.op = .call { callee := .builtin .append, args := #[s, x], argTypes := #[t, t] })
    (base : Nat) (e : TypeId) (i : TypeInfo) (z : Value) (size bytes : Nat) (ht : P.underlying t = some (.slice e)) (hi : P.info? e = some i) (hz : i.zero = some z)
    (hsize : i.size = size) (hby : i.bytes = bytes) (hzs : z.cells.size = size) (hsz : 0 < size)
    (v : Value) (n : Nat) (xs : List Value) (hs : a.eval s = v) (hown : w.ownsRow base e size v n xs)
    (ad : Addr) (m c : Nat) (news : List Value) (hx : a.eval x = .slice (some ad) m c) (hl : news.length = m * size) (hnews : ∀ j u, news[j]? = some u → w.cell? (ad.add j) = some u) (h1 : ∀ u ∈ news, u.oneCell' = true)
    (h63 : n + m ≤ maxLen) (hbytes : (n + m) * bytes ≤ 140737488355328) (hbase : base ≤ w.heap.size)
    (h : ∀ v' w', w'.ownsRow base e size v' (n + m) (xs ++ news) → w.grownBy w' v.ownBlock → K (a.put o.dst v') w') :
    if Region.wanted o (yielded ops a.tmps) = true then Oper.wp P o a w K Q else E := by
  have hw : Region.wanted o (yielded ops a.tmps) = true := by simp [Region.wanted, hgd]
  rw [if_pos hw]
  obtain ⟨v', w', hr, h2, h3, _, _⟩ := run_append_own_at (P := P) w base t o.type e i z size bytes ht hi hz hsize hby hzs hsz v n xs hown ad m c news hl hnews h1 h63 hbytes hbase
  unfold Oper.wp execOp
  simp only [ho, resolve, invoke, builtin, Sem.run_bind, Sem.run_pure, Result.andThen_ok, List.map_toArray, List.map_cons, List.map_nil, hs, hx, hr]
  exact h v' w' h2 h3
end

theorem one_val (t : Tel) : ∀ u ∈ t.val, u.oneCell' = true := by
  intro u hu; simp [Tel.val] at hu; rcases hu with rfl | rfl | rfl | rfl | rfl | rfl <;> rfl
theorem one_vals (L : List Tel) : ∀ u ∈ L.flatMap Tel.val, u.oneCell' = true := by
  intro u hu
  obtain ⟨t, _, ht⟩ := List.mem_flatMap.1 hu
  exact one_val t u ht
theorem vals_len (L : List Tel) : (L.flatMap Tel.val).length = L.length * 6 := by
  induction L with
  | nil => rfl
  | cons t L ih => rw [List.flatMap_cons, List.length_append, ih, List.length_cons, Tel.val_len]; omega

/-- The cells of telegrams, one behind the other. -/
theorem AnyTels.flat {w w' : World} {ad : Addr} {n : Nat} {L : List Tel} (h : AnyTels w (some ad) n L) (hb : Below w.heap.size w w') : ∀ j u, (L.flatMap Tel.val)[j]? = some u → w'.cell? (ad.add j) = some u := by
  intro j u hu
  have hj : j < L.length * 6 := by have := (List.getElem?_eq_some_iff.1 hu).1; rwa [vals_len] at this
  have hk : j / 6 < L.length := (Nat.div_lt_iff_lt_mul (by omega)).2 hj
  obtain ⟨b, q, e, hlt, hc⟩ := h.2 0 (by have := h.1; omega)
  cases e
  have hr : j % 6 < 6 := Nat.mod_lt _ (by omega)
  obtain ⟨v, hv⟩ : ∃ v, (L[j / 6]?.getD tel0).val[j % 6]? = some v := ⟨_, List.getElem?_eq_getElem (by rw [Tel.val_len]; exact hr)⟩
  have e1 := flat_val_at L (j / 6) (j % 6) v hk hv
  rw [show 6 * (j / 6) + j % 6 = j from Nat.div_add_mod j 6, hu] at e1
  obtain rfl := Option.some.inj e1
  have e2 := hc (j / 6) hk (j % 6) u hv
  rw [Addr.add_mid, hb.cell (p := ⟨b, q + j, none⟩) hlt]
  rw [show q + j / 6 * 6 + j % 6 = q + j by have := Nat.div_add_mod j 6; omega] at e2
  exact e2

/-- The telegrams that are sent: of one station, with ascending counters, in their ranges. -/
structure SentL (m : Nat) (n1 : Int) (ts : List Tel) : Prop where
  len : ts.length = m
  good : ∀ t ∈ ts, t.Good
  st : ∀ t ∈ ts, t.s = n1
  ct : ∀ i, i < m → (ts[i]?.getD tel0).c = ctr i
/-- All of them but one. -/
def cutL (m k : Nat) (ts : List Tel) : List Tel := (keptI m k).map fun i => ts[i]?.getD tel0
theorem keptI_lt {m k i : Nat} (h : i ∈ keptI m k) : i < m := by
  unfold keptI at h
  exact List.mem_range.1 (List.mem_filter.1 h).1
theorem SentL.mem {m : Nat} {n1 : Int} {ts : List Tel} (h : SentL m n1 ts) {i : Nat} (hi : i < m) : ts[i]?.getD tel0 ∈ ts := by
  rw [List.getElem?_eq_getElem (by rw [h.len]; exact hi)]; exact List.getElem_mem _
theorem SentL.cut_mem {m k : Nat} {n1 : Int} {ts : List Tel} (h : SentL m n1 ts) : ∀ t ∈ cutL m k ts, t ∈ ts := by
  intro t ht
  obtain ⟨i, hi, rfl⟩ := List.mem_map.1 ht
  exact h.mem (keptI_lt hi)
theorem SentL.counts {m k : Nat} {n1 : Int} {ts : List Tel} (h : SentL m n1 ts) : countsOf (cutL m k ts) n1 = (keptI m k).map ctr := by
  unfold countsOf
  rw [List.filter_eq_self.2 (fun t ht => by rw [h.st t (h.cut_mem t ht)]; simp)]
  unfold cutL
  rw [List.map_map]
  exact List.map_congr_left fun i hi => h.ct i (keptI_lt hi)
theorem SentL.lost {m k : Nat} {n1 : Int} {ts : List Tel} (h : SentL m n1 ts) (hm : m < 9) (hk : k < m) (hn : 0 ≤ n1 ∧ n1 ≤ 255) : lostErr (cutL m k ts) n1 = 0 ∧ lostN (cutL m k ts) n1 = (gapOf m k).length ∧ lostL (cutL m k ts) n1 = gapOf m k ∧ (cutL m k ts).length = m - 1 := by
  have hg := lost_gap m hm k hk
  have e1 : lostL (cutL m k ts) n1 = gapOf m k := by unfold lostL; rw [h.counts]; exact hg.1
  have e2 : argErr (cutL m k ts) n1 = 0 := by
    unfold argErr
    have e3 : telsErr (cutL m k ts) = 0 := by
      unfold telsErr
      refine firstNZ_zeros fun x hx => ?_
      obtain ⟨t, ht, rfl⟩ := List.mem_map.1 hx
      exact telErr_good (h.good t (h.cut_mem t ht))
    rw [e3, rangeErr_in hn.1 hn.2]; rfl
  have e4 : (gapOf m k).length ≤ 1 := by unfold gapOf; split <;> simp
  have e5 : lostErr (cutL m k ts) n1 = 0 := by
    unfold lostErr; rw [if_neg (by simp [e2]), e1, if_neg (by omega)]
  refine ⟨e5, ?_, e1, by unfold cutL; rw [List.length_map]; exact hg.2⟩
  unfold lostN; rw [if_pos e5, e1]

set_option maxRecDepth 1000000 in
set_option maxHeartbeats 25600000 in
theorem found43 (w : World) (m k : Nat) (hm : m < 9) (hk : k < m) (n0 n1 n2 n3 : Int) (hn : 0 ≤ n1 ∧ n1 ≤ 255) (Bn : Nat) (ts : List Tel) (hS : SentL m n1 ts) (g13 c13 : Nat) (a28 : Option Addr) (nc c28 : Nat) (hnc : (cutL m k ts).length = nc) (wr : World) (ht : TabAt w) (u0 u1 u2 u3 u4 u6 u7 u8 u9 u10 u11 u14 u15 u16 u17 u18 u19 u20 u21 u22 u23 u24 u25 u26 u27 u29 u30 u31 u32 u33 u34 u35 u36 u37 u38 u39 u40 u41 u42 u43 u44 u45 u46 u47 u48 u49 u50 u51 u52 u53 u54 u55 u56 u57 u58 u59 u60 u61 u62 u63 u64 u65 u66 u67 u68 u69 u70 u71 u72 u73 u74 u75 u76 u77 u78 u79 u80 u81 u82 u83 u84 u85 u86 u87 u88 u89 u90 u91 u92 u93 u94 u95 u96 u97 u98 u99 u100 u101 u102 u103 u104 u105 u106 u107 u108 u109 u110 u111 u112 u113 u114 u115 u116 u117 u118 u119 u120 u121 u122 u123 u124 u125 u126 u127 u128 u129 u130 u131 u132 u133 u134 u135 u136 u137 u138 u139 u140 u141 u142 u143 u144 u145 u146 u147 u148 u149 u150 u151 u152 u153 u154 u155 u156 u157 u158 u159 u160 u161 u162 u163 u164 u165 u166 u167 u168 u169 u170 u171 u172 u173 u174 u175 u176 u177 u178 u179 u180 u181 u182 u183 u184 u185 u186 u187 u188 u189 u190 u191 u192 u193 u194 u195 u196 u197 u198 u199 u200 u201 u202 u203 u204 u205 u206 u207 u208 u209 u210 u211 u212 u213 u214 u215 u216 u217 u218 u219 u220 u221 u222 u223 u224 u225 u226 u227 u228 u229 u230 u231 u232 u233 u234 u235 u236 u237 u238 u239 u240 u241 u242 u243 u244 u245 u246 u247 u248 u249 u250 u251 u252 u253 u254 u255 u256 u257 u258 u259 u260 u261 u262 u263 u264 u265 u266 u267 u268 u269 u270 : Value)
    (hKp : Kp w wr [(Bn, (.cells #[.int .u8 n0, .int .u8 n1, .int .u8 n2, .int .u8 n3] 161 (0, 0)))]) (hT : AnyTels wr (some ⟨g13, 0, none⟩) m ts) (hC : AnyTels wr a28 nc (cutL m k ts)) (hnil : a28 = none → nc = 0 ∧ c28 = 0) :
    Code.wp Tryz.prog (cutF 43) (bodyPost Tryz.prog Tryz.f16 (TruePost w)) ⟨#[u0, u1, u2, u3, u4, .pointer (some ⟨Bn, 0, none⟩), u6, u7, u8, u9, u10, u11, .int .i64 (k : Nat), .slice (some ⟨g13, 0, none⟩) m c13, u14, u15, u16, u17, u18, u19, u20, u21, u22, u23, u24, u25, u26, u27, .slice a28 nc c28, u29, u30, u31, u32, u33, u34, u35, u36, u37, u38, u39, u40, u41, u42, u43, u44, u45, u46, u47, u48, u49, u50, u51, u52, u53, u54, u55, u56, u57, u58, u59, u60, u61, u62, u63, u64, u65, u66, u67, u68, u69, u70, u71, u72, u73, u74, u75, u76, u77, u78, u79, u80, u81, u82, u83, u84, u85, u86, u87, u88, u89, u90, u91, u92, u93, u94, u95, u96, u97, u98, u99, u100, u101, u102, u103, u104, u105, u106, u107, u108, u109, u110, u111, u112, u113, u114, u115, u116, u117, u118, u119, u120, u121, u122, u123, u124, u125, u126, u127, u128, u129, u130, u131, u132, u133, u134, u135, u136, u137, u138, u139, u140, u141, u142, u143, u144, u145, u146, u147, u148, u149, u150, u151, u152, u153, u154, u155, u156, u157, u158, u159, u160, u161, u162, u163, u164, u165, u166, u167, u168, u169, u170, u171, u172, u173, u174, u175, u176, u177, u178, u179, u180, u181, u182, u183, u184, u185, u186, u187, u188, u189, u190, u191, u192, u193, u194, u195, u196, u197, u198, u199, u200, u201, u202, u203, u204, u205, u206, u207, u208, u209, u210, u211, u212, u213, u214, u215, u216, u217, u218, u219, u220, u221, u222, u223, u224, u225, u226, u227, u228, u229, u230, u231, u232, u233, u234, u235, u236, u237, u238, u239, u240, u241, u242, u243, u244, u245, u246, u247, u248, u249, u250, u251, u252, u253, u254, u255, u256, u257, u258, u259, u260, u261, u262, u263, u264, u265, u266, u267, u268, u269, u270], []⟩ wr := by
  conv => arg 2; whnf
  dsimp only
  obtain ⟨i0, hi, hz0, hz1, hz2⟩ := info_parts Tryz.infoTel
  obtain ⟨i1, hj, hy0, hy1, hy2⟩ := info_parts Tryz.infoInt
  have KW : Hid (∀ w1 : World, Below w.heap.size w w1 → Calls Tryz.prog 19 #[] w1 fun e w' => e = .returned (.bool true) ∧ Below w.heap.size w w') :=
    Lib.hid fun w1 h => (awake_any w1 (ht.on h)).mono fun e w' ⟨he, hb⟩ => ⟨he, h.trans (hb.mono h.size)⟩
  obtain ⟨l1, l2, l3, l4⟩ := hS.lost hm hk hn
  have hct := hS.ct k hk
  obtain ⟨G, hG⟩ : ∃ G, gapOf m k = G := ⟨_, rfl⟩
  have hG1 : G.length ≤ 1 := by rw [← hG]; unfold gapOf; split <;> simp
  rw [hG] at l2 l3
  obtain ⟨cs, hcs⟩ : ∃ cs, cutL m k ts = cs := ⟨_, rfl⟩
  rw [hcs] at l1 l2 l3 l4 hC hnc
  have hnc9 : nc < 9 := by omega
  have KL : Hid (∀ (w1 : World) (a' : Option Addr) (c' : Nat), AnyTels w1 a' nc cs → Calls Tryz.prog 84 #[.slice a' nc c', .int .i64 n1] w1 fun e w' => ∃ v, e = .returned (.tuple #[v, .int .i64 0]) ∧ IntsV w' v G.length G ∧ Below w1.heap.size w1 w') := Lib.hid fun w1 a' c' h1 => by
    have k1 := lost_all cs a' nc c' n1 (by omega) w1 h1
    rw [l1, l2, l3] at k1
    exact k1
  have wn : IntKind.i64.wrap n1 = n1 := IntWalk.i64_in _ ⟨by omega, by omega⟩
  have HK := Lib.hid hKp
  have HT := Lib.hid hT
  have HC := Lib.hid hC
  have HGP := Lib.hid hG
  have HCT := Lib.hid hct
  have HTL := Lib.hid hS.len
  have HCL := Lib.hid hnc
  clear hKp hT hC hS hG hct hn hcs l1 l2 l3 l4 ht hnc
  obtain ⟨b0, b1, b2, b3⟩ := cells4 (HK.out.2 _ (.head _))
  have lb := lt_of_blk (HK.out.2 _ (.head _))
  go_upto_region 43 with fail
  go_cut [33, 34] (fun s33 s34 wc => IntsV wc s33 G.length G ∧ s34 = .int .i64 0 ∧ Below wr.heap.size wr wc)
  case first =>
    have hBw : Blw wr.heap.size wr wr := show Below _ _ _ from Below.refl _ _
    have hBd : Blw wr.heap.size wr wr.drew := show Below _ _ _ from (Below.refl wr.heap.size wr).drew
    have hBa : Blw wr.heap.size wr (wr.alloc (.cells #[] 112)).drew := show Below _ _ _ from ((Below.refl wr.heap.size wr).alloc (Nat.le_refl _) _).drew
    have hC0 : (wr.alloc (.cells #[] 112)).drew.ownsRow wr.heap.size 112 6 (.slice (some ⟨wr.heap.size, 0, none⟩) 0 0) 0 [] := by
      have h := World.ownsRow_made (base := wr.heap.size) (e := 112) (size := 6) wr #[] 0 (by simp) (by unfold maxLen; omega) rfl
      simpa using h.drew
    have HC0 := Lib.hid hC0
    clear hC0
    cases a28 with
    | none =>
      obtain ⟨rfl, rfl⟩ := hnil rfl
      have hAB : AnyTels (wr.alloc (.cells #[] 112)).drew (some ⟨wr.heap.size, 0, none⟩) 0 cs := ⟨HCL.out, fun j hj => absurd hj (Nat.not_lt_zero j)⟩
      have HAB := Lib.hid hAB
      clear hAB HT HC
      go_region_held3 (fun w' => w'.cell? ⟨Bn, 1, none⟩ = some (.int .u8 n1) ∧ Blw wr.heap.size wr w')
        (first
          | (go_split_ands; refine ⟨?_, ?_⟩ <;> with_reducible assumption)
          | (go_split_ands; refine ⟨?_, ?_⟩ <;> first | (with_reducible assumption) | (rw [Below.cell (w := wr) (by assumption : Blw wr.heap.size wr _) (by assumption)]; assumption))
          | (go_keep; done))
        (first
          | (refine step_append_none (by rfl) (.tmp 235) (.tmp 236) 115 (by rfl) wr.heap.size 112 i0 6 Tryz.underlying115 hi (.slice (some ⟨wr.heap.size, 0, none⟩) 0 0) 0 [] (by rfl) HC0.out (by rfl) ?_)
          | (go_at_call 84; refine (KL.out _ _ _ HAB.out).mono ?_; rintro e w7 ⟨v7, rfl, hv7, hb7⟩; have hb8 : Blw wr.heap.size wr w7 := Below.trans hBa (Below.mono hb7 (Below.size hBa))))
      all_goals
        go_wp2_with fail
        go_meet
        exact ⟨hv7, rfl, hb8⟩
    | some ad =>
      have hln : (cs.flatMap Tel.val).length = nc * 6 := by rw [vals_len, HCL.out]
      have hnw := AnyTels.flat HC.out (hBa : Below wr.heap.size wr _)
      have HLN := Lib.hid hln
      have HNW := Lib.hid hnw
      clear hln hnw HT HC
      go_region_held3 (fun w' => w'.cell? ⟨Bn, 1, none⟩ = some (.int .u8 n1) ∧ Blw wr.heap.size wr w')
        (first
          | (go_split_ands; refine ⟨?_, ?_⟩ <;> with_reducible assumption)
          | (go_split_ands; refine ⟨?_, ?_⟩ <;> first | (with_reducible assumption) | (rw [Below.cell (w := wr) (by assumption : Blw wr.heap.size wr _) (by assumption)]; assumption))
          | (go_keep; done))
        (first
          | (refine step_append_own (by rfl) (.tmp 235) (.tmp 236) 115 (by rfl) wr.heap.size 112 i0 (.agg #[.int .i64 0, .int .i64 0, .int .i64 0, .int .i64 0, .int .i64 0, .int .i64 0]) 6 48 Tryz.underlying115 hi hz0 hz1 hz2 (by rfl) (by omega) (.slice (some ⟨wr.heap.size, 0, none⟩) 0 0) 0 [] (by rfl) HC0.out ad nc c28 (cs.flatMap Tel.val) (by rfl) HLN.out HNW.out (one_vals cs) (by unfold maxLen; omega) (by omega) (by simp) ?_; intro v6 w6 hO6 hG6;
             have hb6 : Blw wr.heap.size wr w6 := show Below _ _ _ from Below.grown hBa hG6 (by simp) (fun q hq => by cases hq; exact Nat.le_refl _);
             rw [Nat.zero_add, List.nil_append] at hO6;
             obtain ⟨a6, c6, rfl, hA6⟩ := AnyTels.of_row HCL.out hO6)
          | (go_at_call 84; refine (KL.out _ _ _ hA6).mono ?_; rintro e w7 ⟨v7, rfl, hv7, hb7⟩; have hb8 : Blw wr.heap.size wr w7 := Below.trans hb6 (Below.mono hb7 (Below.size hb6))))
      all_goals
        go_wp2_with fail
        go_meet
        exact ⟨hv7, rfl, hb8⟩
  case rest =>
    rename_i hK
    obtain ⟨⟨av, cv, rfl, hv⟩, rfl, hb⟩ := hcut
    refine hK _ _ ?_
    clear hK
    have K1 := Lib.hid (HK.out.call hb)
    have T1 := Lib.hid (HT.out.kept hb)
    have HV := Lib.hid hv
    clear hb hv KL HK HT HC HCL b0 b1 b2 b3 lb
    have wm : IntKind.i64.wrap ((m : Int) - 1) = (m : Int) - 1 := IntWalk.i64_in _ ⟨by omega, by omega⟩
    by_cases hg : 0 < k ∧ k + 1 < m
    · obtain rfl : G = [ctr k] := by rw [← HGP.out]; unfold gapOf; rw [if_pos hg]
      have g1 : (0 : Int) < (k : Int) := by omega
      have g2 : (k : Int) < (m : Int) - 1 := by omega
      have g3 : (k : Int) < (m : Int) := by omega
      obtain ⟨b', q', e', lt', tc⟩ := T1.out.2 k hk
      cases e'
      have hc := tc k (by rw [HTL.out]; exact hk) 1 (.int .i64 (ctr k)) (by rw [← HCT.out]; rfl)
      have hc1 : wc.cell? ⟨g13, k * 6 + 1, none⟩ = some (.int .i64 (ctr k)) := by rw [← hc]; simp
      have hN0 : (wc.alloc (.cells #[.int .i64 (ctr k)] 3)).ownsRow w.heap.size 3 1 (.slice none 0 0) 0 [] := ⟨rfl, .inl ⟨rfl, rfl⟩⟩
      have hsz := K1.out.1.size
      have hB1 : Below wc.heap.size wc (wc.alloc (.cells #[.int .i64 (ctr k)] 3)) := (Below.refl _ _).alloc (Nat.le_refl _) _
      clear tc hc
      go_wp2_with (first
        | (at_builtin; refine wpList_append_own _ rfl (.tmp 253) (.tmp 259) 25 rfl w.heap.size 3 i1 (.int .i64 0) 1 8 Tryz.underlying25 hj hy0 hy1 hy2 rfl (by decide) _ 0 [] rfl hN0 ⟨wc.heap.size, 0, none⟩ 1 1 [.int .i64 (ctr k)] rfl rfl (cell_one_new _ _ _) (by intro u hu; simp at hu; subst hu; rfl) (by unfold maxLen; omega) (by omega) (by simp; omega) ?_; intro v' w3 hown3 hgrow3 _; (obtain ⟨gw, cw, rfl, _, _⟩ := owns_some hown3 (by omega));
           have hb3 : Below wc.heap.size wc w3 := hB1.grown hgrow3 (by simp) (fun q hq => by cases hq))
        | (go_at_call 101; refine (sameInts_any av (some ⟨gw, 0, none⟩) 1 cv cw [ctr k] (by decide) (fun j hj => ?_) (fun j hj => ⟨gw, 0, rfl, ?_, ?_⟩)).mono ?_; rotate_left 3; rintro e w4 ⟨rfl, hb4⟩;
           have hb5 : Below w.heap.size w w4 := K1.out.1.trans (Below.mono (Below.trans hb3 (Below.mono hb4 hb3.size)) hsz))
        | (go_at_call 19; refine (KW.out _ hb5).mono ?_; rintro e w16 ⟨rfl, hb16⟩))
      · go_ret
        exact ⟨rfl, hb16⟩
      · obtain ⟨b2, o2, e2, l2, c2⟩ := HV.out j hj
        have hbx : Below wc.heap.size wc w3 := hb3
        exact ⟨b2, o2, e2, Nat.lt_of_lt_of_le l2 hbx.size, (hbx.cell (p := ⟨b2, o2 + j, none⟩) l2).trans c2⟩
      · exact (hown3.lt gw rfl).2
      · obtain rfl : j = 0 := by omega
        exact owns_cell hown3 rfl
    · obtain rfl : G = [] := by rw [← HGP.out]; unfold gapOf; rw [if_neg hg]
      have hsz := K1.out.1.size
      by_cases g0 : 0 < k
      · have g1 : (0 : Int) < (k : Int) := by omega
        have g2 : ¬ (k : Int) < (m : Int) - 1 := by omega
        go_wp2_with (first
          | (go_at_call 101; refine (sameInts_any av none 0 cv 0 [] (by decide) (fun j hj => absurd hj (Nat.not_lt_zero j)) (fun j hj => absurd hj (Nat.not_lt_zero j))).mono ?_; rintro e w4 ⟨rfl, hb4⟩;
             have hb5 : Below w.heap.size w w4 := K1.out.1.trans (Below.mono hb4 hsz))
          | (go_at_call 19; refine (KW.out _ hb5).mono ?_; rintro e w16 ⟨rfl, hb16⟩))
        go_ret
        exact ⟨rfl, hb16⟩
      · have g1 : ¬ (0 : Int) < (k : Int) := by omega
        go_wp2_with (first
          | (go_at_call 101; refine (sameInts_any av none 0 cv 0 [] (by decide) (fun j hj => absurd hj (Nat.not_lt_zero j)) (fun j hj => absurd hj (Nat.not_lt_zero j))).mono ?_; rintro e w4 ⟨rfl, hb4⟩;
             have hb5 : Below w.heap.size w w4 := K1.out.1.trans (Below.mono hb4 hsz))
          | (go_at_call 19; refine (KW.out _ hb5).mono ?_; rintro e w16 ⟨rfl, hb16⟩))
        go_ret
        exact ⟨rfl, hb16⟩
end Go.Proofs.YtfdkmmllemkogaaGreatDoor

/-
  LightFound: its walk from what is received on.
-/
namespace Go.Proofs.YtfdkmmllemkogaaGreatDoor
open Go.RowKit Go.Shelf
set_option linter.unusedVariables false
set_option linter.unusedSimpArgs false

theorem one_byts (L : List Int) : ∀ u ∈ L.map (Value.int .u8), u.oneCell' = true := by
  intro u hu
  obtain ⟨x, _, rfl⟩ := List.mem_map.1 hu
  rfl
theorem Tryz.infoByteX : (Tryz.prog.info? 5).map (fun i => (i.zero, i.size, i.bytes)) = some (some (.int .u8 0), 1, 1) := by kernel_rfl
/-- The cells of bytes. -/
theorem AnyBytes.news {w w' : World} {ad : Addr} {n : Nat} {S : List Int} (h : AnyBytes w (some ad) n S) (hb : Below w.heap.size w w') : ∀ j u, (S.map (Value.int .u8))[j]? = some u → w'.cell? (ad.add j) = some u := by
  intro j u hu
  have hj : j < n := by have := (List.getElem?_eq_some_iff.1 hu).1; rw [List.length_map, h.1.1] at this; exact this
  obtain ⟨b, q, e, hlt, hc⟩ := h.2 j hj
  cases e
  rw [Addr.add_mid, hb.cell (p := ⟨b, q + j, none⟩) hlt]
  exact hc j u hu
theorem AnyTels.of_row' {w : World} {B : Nat} {v : Value} {n : Nat} {L : List Tel} (hl : L.length = n) (h : w.ownsRow B 112 6 v n (L.flatMap Tel.val)) : ∃ a c, v = .slice a n c ∧ AnyTels w a n L ∧ (a = none → n = 0 ∧ c = 0) := by
  obtain ⟨a, c, rfl, hA⟩ := AnyTels.of_row hl h
  refine ⟨a, c, rfl, hA, fun e => ?_⟩
  subst e
  rcases h.2 with ⟨e1, e2⟩ | ⟨g, cap, cur, e1, _⟩
  · cases e1; exact ⟨rfl, rfl⟩
  · cases e1
/-- What is received of frames behind bytes that are no marks. -/
theorem received_found (B : List Int) (ts : List Tel) (hB : ∀ v ∈ B, v ≠ 77) (hg : ∀ t ∈ ts, t.Good) (n : Nat) (hn : (B ++ joined ts).length = n) (hm : n ≤ 12288) (nt sl : Nat) (hnt : ts.length = nt) (hsl : (ahead1 B.length).length = sl) (a : Option Addr) (cp : Nat) (w : World) (hcp : n ≤ cp) (hcq : cp ≤ 9223372036854775807) (hA : AnyBytes w a n (B ++ joined ts)) :
    Calls Tryz.prog 76 #[.slice a n cp] w fun e w' => ∃ a1 c1 a2 c2, e = .returned (.tuple #[.slice a1 nt c1, .slice a2 sl c2, .int .i64 0]) ∧ AnyTels w' a1 nt ts ∧ (a1 = none → nt = 0 ∧ c1 = 0) ∧ AnySpans w' a2 sl (ahead1 B.length) ∧ Below w.heap.size w w' := by
  obtain ⟨e1, e2⟩ := rcv_found hB hg hn
  refine (received_all _ a n cp hm hcp hcq w hA).mono ?_
  rintro e w' ⟨v1, v2, rfl, h1, h2, hb⟩
  rw [e1] at h1
  rw [e2] at h2
  rw [hnt] at h1
  obtain ⟨a1, c1, rfl, h3, h4⟩ := AnyTels.of_row' hnt h1
  obtain ⟨a2, c2, rfl, h5⟩ := AnySpans.of_row h2
  rw [hsl] at h5
  exact ⟨a1, c1, a2, c2, by rw [hsl], h3, h4, h5, hb⟩


set_option maxRecDepth 1000000 in
set_option maxHeartbeats 25600000 in
theorem found38 (w : World) (m k : Nat) (hm : m < 9) (hk : k < m) (n0 n1 n2 n3 : Int) (hn : 0 ≤ n1 ∧ n1 ≤ 255) (Bn : Nat) (ts : List Tel) (hS : SentL m n1 ts) (g13 c13 : Nat) (a25 : Option Addr) (c25 : Nat) (a28 : Option Addr) (nc c28 : Nat) (hcl : (cutL m k ts).length = nc) (wr0 : World) (ht : TabAt w) (u0 u1 u2 u3 u4 u6 u7 u8 u9 u10 u11 u14 u15 u16 u17 u18 u19 u20 u21 u22 u23 u24 u26 u27 u29 u30 u31 u32 u33 u34 u35 u36 u37 u38 u39 u40 u41 u42 u43 u44 u45 u46 u47 u48 u49 u50 u51 u52 u53 u54 u55 u56 u57 u58 u59 u60 u61 u62 u63 u64 u65 u66 u67 u68 u69 u70 u71 u72 u73 u74 u75 u76 u77 u78 u79 u80 u81 u82 u83 u84 u85 u86 u87 u88 u89 u90 u91 u92 u93 u94 u95 u96 u97 u98 u99 u100 u101 u102 u103 u104 u105 u106 u107 u108 u109 u110 u111 u112 u113 u114 u115 u116 u117 u118 u119 u120 u121 u122 u123 u124 u125 u126 u127 u128 u129 u130 u131 u132 u133 u134 u135 u136 u137 u138 u139 u140 u141 u142 u143 u144 u145 u146 u147 u148 u149 u150 u151 u152 u153 u154 u155 u156 u157 u158 u159 u160 u161 u162 u163 u164 u165 u166 u167 u168 u169 u170 u171 u172 u173 u174 u175 u176 u177 u178 u179 u180 u181 u182 u183 u184 u185 u186 u187 u188 u189 u190 u191 u192 u193 u194 u195 u196 u197 u198 u199 u200 u201 u202 u203 u204 u205 u206 u207 u208 u209 u210 u211 u212 u213 u214 u215 u216 u217 u218 u219 u220 u221 u222 u223 u224 u225 u226 u227 u228 u229 u230 u231 u232 u233 u234 u235 u236 u237 u238 u239 u240 u241 u242 u243 u244 u245 u246 u247 u248 u249 u250 u251 u252 u253 u254 u255 u256 u257 u258 u259 u260 u261 u262 u263 u264 u265 u266 u267 u268 u269 u270 : Value)
    (hKp : Kp w wr0 [(Bn, (.cells #[.int .u8 n0, .int .u8 n1, .int .u8 n2, .int .u8 n3] 161 (0, 0)))]) (hT : AnyTels wr0 (some ⟨g13, 0, none⟩) m ts) (hT25 : AnyTels wr0 a25 m ts) (hT28 : AnyTels wr0 a28 nc (cutL m k ts)) (hN28 : a28 = none → nc = 0 ∧ c28 = 0) :
    Code.wp Tryz.prog (cutF 37) (bodyPost Tryz.prog Tryz.f16 (TruePost w)) ⟨#[u0, u1, u2, u3, u4, .pointer (some ⟨Bn, 0, none⟩), u6, u7, u8, u9, u10, u11, .int .i64 (k : Nat), .slice (some ⟨g13, 0, none⟩) m c13, u14, u15, u16, u17, u18, u19, u20, u21, u22, u23, u24, .slice a25 m c25, u26, u27, .slice a28 nc c28, u29, u30, u31, u32, u33, u34, u35, u36, u37, u38, u39, u40, u41, u42, u43, u44, u45, u46, u47, u48, u49, u50, u51, u52, u53, u54, u55, u56, u57, u58, u59, u60, u61, u62, u63, u64, u65, u66, u67, u68, u69, u70, u71, u72, u73, u74, u75, u76, u77, u78, u79, u80, u81, u82, u83, u84, u85, u86, u87, u88, u89, u90, u91, u92, u93, u94, u95, u96, u97, u98, u99, u100, u101, u102, u103, u104, u105, u106, u107, u108, u109, u110, u111, u112, u113, u114, u115, u116, u117, u118, u119, u120, u121, u122, u123, u124, u125, u126, u127, u128, u129, u130, u131, u132, u133, u134, u135, u136, u137, u138, u139, u140, u141, u142, u143, u144, u145, u146, u147, u148, u149, u150, u151, u152, u153, u154, u155, u156, u157, u158, u159, u160, u161, u162, u163, u164, u165, u166, u167, u168, u169, u170, u171, u172, u173, u174, u175, u176, u177, u178, u179, u180, u181, u182, u183, u184, u185, u186, u187, u188, u189, u190, u191, u192, u193, u194, u195, u196, u197, u198, u199, u200, u201, u202, u203, u204, u205, u206, u207, u208, u209, u210, u211, u212, u213, u214, u215, u216, u217, u218, u219, u220, u221, u222, u223, u224, u225, u226, u227, u228, u229, u230, u231, u232, u233, u234, u235, u236, u237, u238, u239, u240, u241, u242, u243, u244, u245, u246, u247, u248, u249, u250, u251, u252, u253, u254, u255, u256, u257, u258, u259, u260, u261, u262, u263, u264, u265, u266, u267, u268, u269, u270], []⟩ wr0 := by
  conv => arg 2; whnf
  dsimp only
  have KD := Lib.hid hKp
  have TD := Lib.hid hT
  have T25D := Lib.hid hT25
  have T28D := Lib.hid hT28
  have N28 := Lib.hid hN28
  have HS := Lib.hid hS
  have HCL := Lib.hid hcl
  have HTB := Lib.hid ht
  have HN := Lib.hid hn
  clear hKp hT hT25 hT28 hN28 hS hcl ht hn
  go_upto_block 4 with fail
  go_cut [] from 31 to 233 (fun we => Below wr0.heap.size wr0 we)
  case first =>
    go_wp2_with fail
    go_loopw [222] (fun s222 wy => ∃ i : Nat, i ≤ m ∧ s222 = .int .i64 i ∧ Below wr0.heap.size wr0 wy) (fun i _ => m - (intOf i).toNat)
    case atStart => exact ⟨0, by omega, rfl, Below.refl _ _⟩
    case round =>
      obtain ⟨i, him, rfl, hbi⟩ := hrel
      have HBI := Lib.hid hbi
      by_cases hlt : i < m
      · have hltI : (i : Int) < (m : Int) := by omega
        obtain ⟨b25, q25, e25, l25, tc25⟩ := (T25D.out.kept hbi).2 i hlt
        subst e25
        obtain ⟨b', q', e', lg, tcB⟩ := (TD.out.kept hbi).2 i hlt
        cases e'
        have hil : i < ts.length := by rw [HS.out.len]; exact hlt
        obtain ⟨t, ht'⟩ : ∃ t, ts[i]?.getD tel0 = t := ⟨_, rfl⟩
        have tA := tc25 i hil
        have tB := tcB i hil
        have K4 : Hid (Kp wr ((wr.alloc (.cells #[.int .i64 0, .int .i64 0, .int .i64 0, .int .i64 0, .int .i64 0, .int .i64 0] 112)).setRow wr.heap.size #[.int .i64 t.s, .int .i64 t.c, .int .i64 t.o, .int .i64 t.x, .int .i64 t.y, .int .i64 t.z]) [(wr.heap.size, .cells #[.int .i64 t.s, .int .i64 t.c, .int .i64 t.o, .int .i64 t.x, .int .i64 t.y, .int .i64 t.z] 112 (0, 0))]) := Lib.hid ((Kp.none wr).stored #[.int .i64 0, .int .i64 0, .int .i64 0, .int .i64 0, .int .i64 0, .int .i64 0] #[.int .i64 t.s, .int .i64 t.c, .int .i64 t.o, .int .i64 t.x, .int .i64 t.y, .int .i64 t.z] 112)
        have K3 : Hid (Kp wr (wr.alloc (.cells #[.int .i64 0, .int .i64 0, .int .i64 0, .int .i64 0, .int .i64 0, .int .i64 0] 112)) [(wr.heap.size, .cells #[.int .i64 0, .int .i64 0, .int .i64 0, .int .i64 0, .int .i64 0, .int .i64 0] 112 (0, 0))]) := Lib.hid ((Kp.none wr).alloc _)
        have a0 : wr.cell? ⟨b25, q25 + i * 6, none⟩ = some (.int .i64 t.s) := by have h := tA 0 (.int .i64 t.s) (by rw [← ht']; rfl); simpa using h
        have a1 : wr.cell? ⟨b25, q25 + i * 6 + 1, none⟩ = some (.int .i64 t.c) := by have h := tA 1 (.int .i64 t.c) (by rw [← ht']; rfl); simpa using h
        have a2 : wr.cell? ⟨b25, q25 + i * 6 + 2, none⟩ = some (.int .i64 t.o) := by have h := tA 2 (.int .i64 t.o) (by rw [← ht']; rfl); simpa using h
        have a3 : wr.cell? ⟨b25, q25 + i * 6 + 3, none⟩ = some (.int .i64 t.x) := by have h := tA 3 (.int .i64 t.x) (by rw [← ht']; rfl); simpa using h
        have a4 : wr.cell? ⟨b25, q25 + i * 6 + 4, none⟩ = some (.int .i64 t.y) := by have h := tA 4 (.int .i64 t.y) (by rw [← ht']; rfl); simpa using h
        have a5 : wr.cell? ⟨b25, q25 + i * 6 + 5, none⟩ = some (.int .i64 t.z) := by have h := tA 5 (.int .i64 t.z) (by rw [← ht']; rfl); simpa using h
        have d0 : wr.cell? ⟨g13, i * 6, none⟩ = some (.int .i64 t.s) := by have h := tB 0 (.int .i64 t.s) (by rw [← ht']; rfl); simpa using h
        have d1 : wr.cell? ⟨g13, i * 6 + 1, none⟩ = some (.int .i64 t.c) := by have h := tB 1 (.int .i64 t.c) (by rw [← ht']; rfl); simpa using h
        have d2 : wr.cell? ⟨g13, i * 6 + 2, none⟩ = some (.int .i64 t.o) := by have h := tB 2 (.int .i64 t.o) (by rw [← ht']; rfl); simpa using h
        have d3 : wr.cell? ⟨g13, i * 6 + 3, none⟩ = some (.int .i64 t.x) := by have h := tB 3 (.int .i64 t.x) (by rw [← ht']; rfl); simpa using h
        have d4 : wr.cell? ⟨g13, i * 6 + 4, none⟩ = some (.int .i64 t.y) := by have h := tB 4 (.int .i64 t.y) (by rw [← ht']; rfl); simpa using h
        have d5 : wr.cell? ⟨g13, i * 6 + 5, none⟩ = some (.int .i64 t.z) := by have h := tB 5 (.int .i64 t.z) (by rw [← ht']; rfl); simpa using h
        clear tc25 tcB tA tB hbi ht' l25
        go_upto_region 40 with (refine wpList_store_row rfl 112 (.tmp 32) (.tmp 226) rfl wr.heap.size rfl #[.int .i64 t.s, .int .i64 t.c, .int .i64 t.o, .int .i64 t.x, .int .i64 t.y, .int .i64 t.z] rfl 112 #[.int .i64 0, .int .i64 0, .int .i64 0, .int .i64 0, .int .i64 0, .int .i64 0] (K3.out.2 _ (.head _)) (by rfl) (by kernel_rfl) (by simp [Value.oneCell']) ?_)
        obtain ⟨W4, hW4⟩ : ∃ W4, (wr.alloc (.cells #[.int .i64 0, .int .i64 0, .int .i64 0, .int .i64 0, .int .i64 0, .int .i64 0] 112)).setRow wr.heap.size #[.int .i64 t.s, .int .i64 t.c, .int .i64 t.o, .int .i64 t.x, .int .i64 t.y, .int .i64 t.z] = W4 := ⟨_, rfl⟩
        have k4 := K4.out
        rw [hW4] at k4 ⊢
        clear K4 K3 a0 a1 a2 a3 a4 a5
        have K4 := Lib.hid k4
        have e0 : W4.cell? ⟨wr.heap.size, 0, none⟩ = some (.int .i64 t.s) := by rw [cell_of_row _ _ 0 _ _ (0, 0) (K4.out.2 _ (.head _))]; rfl
        have e1 : W4.cell? ⟨wr.heap.size, 1, none⟩ = some (.int .i64 t.c) := by rw [cell_of_row _ _ 1 _ _ (0, 0) (K4.out.2 _ (.head _))]; rfl
        have e2 : W4.cell? ⟨wr.heap.size, 2, none⟩ = some (.int .i64 t.o) := by rw [cell_of_row _ _ 2 _ _ (0, 0) (K4.out.2 _ (.head _))]; rfl
        have e3 : W4.cell? ⟨wr.heap.size, 3, none⟩ = some (.int .i64 t.x) := by rw [cell_of_row _ _ 3 _ _ (0, 0) (K4.out.2 _ (.head _))]; rfl
        have e4 : W4.cell? ⟨wr.heap.size, 4, none⟩ = some (.int .i64 t.y) := by rw [cell_of_row _ _ 4 _ _ (0, 0) (K4.out.2 _ (.head _))]; rfl
        have e5 : W4.cell? ⟨wr.heap.size, 5, none⟩ = some (.int .i64 t.z) := by rw [cell_of_row _ _ 5 _ _ (0, 0) (K4.out.2 _ (.head _))]; rfl
        have f0 : W4.cell? ⟨g13, i * 6, none⟩ = some (.int .i64 t.s) := (K4.out.1.cell (p := ⟨g13, i * 6, none⟩) lg).trans d0
        have f1 : W4.cell? ⟨g13, i * 6 + 1, none⟩ = some (.int .i64 t.c) := (K4.out.1.cell (p := ⟨g13, i * 6 + 1, none⟩) lg).trans d1
        have f2 : W4.cell? ⟨g13, i * 6 + 2, none⟩ = some (.int .i64 t.o) := (K4.out.1.cell (p := ⟨g13, i * 6 + 2, none⟩) lg).trans d2
        have f3 : W4.cell? ⟨g13, i * 6 + 3, none⟩ = some (.int .i64 t.x) := (K4.out.1.cell (p := ⟨g13, i * 6 + 3, none⟩) lg).trans d3
        have f4 : W4.cell? ⟨g13, i * 6 + 4, none⟩ = some (.int .i64 t.y) := (K4.out.1.cell (p := ⟨g13, i * 6 + 4, none⟩) lg).trans d4
        have f5 : W4.cell? ⟨g13, i * 6 + 5, none⟩ = some (.int .i64 t.z) := (K4.out.1.cell (p := ⟨g13, i * 6 + 5, none⟩) lg).trans d5
        have HB4 : Hid (Below wr0.heap.size wr0 W4.drew) := Lib.hid (HBI.out.trans (k4.1.mono HBI.out.size)).drew
        clear hW4 k4 d0 d1 d2 d3 d4 d5 K4
        go_region_held3 (fun w' => w'.cell? ⟨wr.heap.size, 0, none⟩ = some (.int .i64 t.s) ∧ w'.cell? ⟨wr.heap.size, 1, none⟩ = some (.int .i64 t.c) ∧ w'.cell? ⟨wr.heap.size, 2, none⟩ = some (.int .i64 t.o) ∧ w'.cell? ⟨wr.heap.size, 3, none⟩ = some (.int .i64 t.x) ∧ w'.cell? ⟨wr.heap.size, 4, none⟩ = some (.int .i64 t.y) ∧ w'.cell? ⟨wr.heap.size, 5, none⟩ = some (.int .i64 t.z) ∧ w'.cell? ⟨g13, i * 6, none⟩ = some (.int .i64 t.s) ∧ w'.cell? ⟨g13, i * 6 + 1, none⟩ = some (.int .i64 t.c) ∧ w'.cell? ⟨g13, i * 6 + 2, none⟩ = some (.int .i64 t.o) ∧ w'.cell? ⟨g13, i * 6 + 3, none⟩ = some (.int .i64 t.x) ∧ w'.cell? ⟨g13, i * 6 + 4, none⟩ = some (.int .i64 t.y) ∧ w'.cell? ⟨g13, i * 6 + 5, none⟩ = some (.int .i64 t.z))
          (first
            | (go_split_ands; refine ⟨?_, ?_, ?_, ?_, ?_, ?_, ?_, ?_, ?_, ?_, ?_, ?_⟩ <;> with_reducible assumption)
            | (go_keep; done))
          (fail)
        all_goals
          go_wp2_with fail
          go_roundw
          case rel => exact ⟨i + 1, by omega, by go_num, HB4.out⟩
          case measure => simp [intOf]; omega
      · obtain rfl : i = m := by omega
        go_wp2_with fail
        go_meet
        exact hbi
  case rest =>
    rename_i hK
    have HB := Lib.hid hcut
    clear hcut
    refine hK _ _ ?_
    clear hK
    exact found43 w m k hm hk n0 n1 n2 n3 HN.out Bn ts HS.out g13 c13 a28 nc c28 HCL.out _ HTB.out _ _ _ _ _ _ _ _ _ _ _ _ _ _ _ _ _ _ _ _ _ _ _ _ _ _ _ _ _ _ _ _ _ _ _ _ _ _ _ _ _ _ _ _ _ _ _ _ _ _ _ _ _ _ _ _ _ _ _ _ _ _ _ _ _ _ _ _ _ _ _ _ _ _ _ _ _ _ _ _ _ _ _ _ _ _ _ _ _ _ _ _ _ _ _ _ _ _ _ _ _ _ _ _ _ _ _ _ _ _ _ _ _ _ _ _ _ _ _ _ _ _ _ _ _ _ _ _ _ _ _ _ _ _ _ _ _ _ _ _ _ _ _ _ _ _ _ _ _ _ _ _ _ _ _ _ _ _ _ _ _ _ _ _ _ _ _ _ _ _ _ _ _ _ _ _ _ _ _ _ _ _ _ _ _ _ _ _ _ _ _ _ _ _ _ _ _ _ _ _ _ _ _ _ _ _ _ _ _ _ _ _ _ _ _ _ _ _ _ _ _ _ _ _ _ _ _ _ _ _ _ _ _ _ _ _ _ _ _ _ _ _ _ _ _ _ _ _ _ _ _ _ _ _ _ _ _ _ _ _ _ _ _ _ _ _ _ (KD.out.call HB.out) (TD.out.kept HB.out) (T28D.out.kept HB.out) N28.out

set_option maxRecDepth 1000000 in
set_option maxHeartbeats 25600000 in
theorem found37 (w : World) (m k : Nat) (hm : m < 9) (hk : k < m) (n0 n1 n2 n3 : Int) (hn : 0 ≤ n1 ∧ n1 ≤ 255) (Bn : Nat) (ts : List Tel) (hS : SentL m n1 ts) (g13 c13 : Nat) (a7 : Option Addr) (nb c7 : Nat) (ad10 ad11 : Addr) (n10 c10 n11 c11 : Nat) (a25 : Option Addr) (c25 : Nat) (a26 : Option Addr) (sl c26 : Nat) (a28 : Option Addr) (nc c28 : Nat) (SP : List (Int × Int)) (hcl : (cutL m k ts).length = nc) (hnc : m - 1 = nc) (hsp : (nb = 0 ∧ sl = 0) ∨ (nb ≠ 0 ∧ sl = 1 ∧ SP = [(0, (nb : Int))])) (wr : World) (ht : TabAt w) (u0 u1 u2 u3 u4 u6 u8 u9 u14 u15 u16 u17 u18 u19 u20 u21 u22 u23 u24 u29 u31 u32 u33 u34 u35 u36 u37 u38 u39 u40 u41 u42 u43 u44 u45 u46 u47 u48 u49 u50 u51 u52 u53 u54 u55 u56 u57 u58 u59 u60 u61 u62 u63 u64 u65 u66 u67 u68 u69 u70 u71 u72 u73 u74 u75 u76 u77 u78 u79 u80 u81 u82 u83 u84 u85 u86 u87 u88 u89 u90 u91 u92 u93 u94 u95 u96 u97 u98 u99 u100 u101 u102 u103 u104 u105 u106 u107 u108 u109 u110 u111 u112 u113 u114 u115 u116 u117 u118 u119 u120 u121 u122 u123 u124 u125 u126 u127 u128 u129 u130 u131 u132 u133 u134 u135 u136 u137 u138 u139 u140 u141 u142 u143 u144 u145 u146 u147 u148 u149 u150 u151 u152 u153 u154 u155 u156 u157 u158 u159 u160 u161 u162 u163 u164 u165 u166 u167 u168 u169 u170 u171 u172 u173 u174 u175 u176 u177 u178 u179 u180 u181 u182 u183 u184 u185 u186 u187 u188 u189 u190 u191 u192 u193 u194 u195 u196 u197 u198 u199 u200 u201 u202 u203 u204 u205 u206 u207 u208 u209 u210 u211 u212 u213 u214 u215 u216 u217 u218 u219 u220 u221 u222 u223 u224 u225 u226 u227 u228 u229 u230 u231 u232 u233 u234 u235 u236 u237 u238 u239 u240 u241 u242 u243 u244 u245 u246 u247 u248 u249 u250 u251 u252 u253 u254 u255 u256 u257 u258 u259 u260 u261 u262 u263 u264 u265 u266 u267 u268 u269 u270 : Value)
    (hKp : Kp w wr [(Bn, (.cells #[.int .u8 n0, .int .u8 n1, .int .u8 n2, .int .u8 n3] 161 (0, 0)))]) (hT : AnyTels wr (some ⟨g13, 0, none⟩) m ts) (hT25 : AnyTels wr a25 m ts) (hT28 : AnyTels wr a28 nc (cutL m k ts)) (hN28 : a28 = none → nc = 0 ∧ c28 = 0) (hQ26 : AnySpans wr a26 sl SP) :
    Code.wp Tryz.prog (cutF 35) (bodyPost Tryz.prog Tryz.f16 (TruePost w)) ⟨#[u0, u1, u2, u3, u4, .pointer (some ⟨Bn, 0, none⟩), u6, .slice a7 nb c7, u8, u9, .slice (some ad10) n10 c10, .slice (some ad11) n11 c11, .int .i64 (k : Nat), .slice (some ⟨g13, 0, none⟩) m c13, u14, u15, u16, u17, u18, u19, u20, u21, u22, u23, u24, .slice a25 m c25, .slice a26 sl c26, .int .i64 0, .slice a28 nc c28, u29, .int .i64 0, u31, u32, u33, u34, u35, u36, u37, u38, u39, u40, u41, u42, u43, u44, u45, u46, u47, u48, u49, u50, u51, u52, u53, u54, u55, u56, u57, u58, u59, u60, u61, u62, u63, u64, u65, u66, u67, u68, u69, u70, u71, u72, u73, u74, u75, u76, u77, u78, u79, u80, u81, u82, u83, u84, u85, u86, u87, u88, u89, u90, u91, u92, u93, u94, u95, u96, u97, u98, u99, u100, u101, u102, u103, u104, u105, u106, u107, u108, u109, u110, u111, u112, u113, u114, u115, u116, u117, u118, u119, u120, u121, u122, u123, u124, u125, u126, u127, u128, u129, u130, u131, u132, u133, u134, u135, u136, u137, u138, u139, u140, u141, u142, u143, u144, u145, u146, u147, u148, u149, u150, u151, u152, u153, u154, u155, u156, u157, u158, u159, u160, u161, u162, u163, u164, u165, u166, u167, u168, u169, u170, u171, u172, u173, u174, u175, u176, u177, u178, u179, u180, u181, u182, u183, u184, u185, u186, u187, u188, u189, u190, u191, u192, u193, u194, u195, u196, u197, u198, u199, u200, u201, u202, u203, u204, u205, u206, u207, u208, u209, u210, u211, u212, u213, u214, u215, u216, u217, u218, u219, u220, u221, u222, u223, u224, u225, u226, u227, u228, u229, u230, u231, u232, u233, u234, u235, u236, u237, u238, u239, u240, u241, u242, u243, u244, u245, u246, u247, u248, u249, u250, u251, u252, u253, u254, u255, u256, u257, u258, u259, u260, u261, u262, u263, u264, u265, u266, u267, u268, u269, u270], []⟩ wr := by
  conv => arg 2; whnf
  dsimp only
  have wm : IntKind.i64.wrap ((m : Int) - 1) = (nc : Int) := by rw [show (m : Int) - 1 = (nc : Int) by omega]; exact IntWalk.i64_in _ ⟨by omega, by omega⟩
  have hsz0 := hKp.1.size
  have KD := Lib.hid hKp
  have TD := Lib.hid hT
  have T25D := Lib.hid hT25
  have T28D := Lib.hid hT28
  have N28 := Lib.hid hN28
  have Q26D := Lib.hid hQ26
  have HS := Lib.hid hS
  have HCL := Lib.hid hcl
  have HTB := Lib.hid ht
  have HN := Lib.hid hn
  clear hKp hT hT25 hT28 hN28 hQ26 hS hcl ht hn
  rcases hsp with ⟨rfl, rfl⟩ | ⟨hb0, rfl, rfl⟩
  · go_upto_if 219 with fail
    go_cut [] from 177 to 219 (fun we => Below wr.heap.size wr we)
    case first =>
      go_wp2_with fail
      go_meet
      exact Below.refl _ _
    case rest =>
      rename_i hK
      have HB := Lib.hid hcut
      clear hcut
      refine hK _ _ ?_
      clear hK
      exact found38 w m k hm hk n0 n1 n2 n3 HN.out Bn ts HS.out g13 c13 a25 c25 a28 nc c28 HCL.out _ HTB.out _ _ _ _ _ _ _ _ _ _ _ _ _ _ _ _ _ _ _ _ _ _ _ _ _ _ _ _ _ _ _ _ _ _ _ _ _ _ _ _ _ _ _ _ _ _ _ _ _ _ _ _ _ _ _ _ _ _ _ _ _ _ _ _ _ _ _ _ _ _ _ _ _ _ _ _ _ _ _ _ _ _ _ _ _ _ _ _ _ _ _ _ _ _ _ _ _ _ _ _ _ _ _ _ _ _ _ _ _ _ _ _ _ _ _ _ _ _ _ _ _ _ _ _ _ _ _ _ _ _ _ _ _ _ _ _ _ _ _ _ _ _ _ _ _ _ _ _ _ _ _ _ _ _ _ _ _ _ _ _ _ _ _ _ _ _ _ _ _ _ _ _ _ _ _ _ _ _ _ _ _ _ _ _ _ _ _ _ _ _ _ _ _ _ _ _ _ _ _ _ _ _ _ _ _ _ _ _ _ _ _ _ _ _ _ _ _ _ _ _ _ _ _ _ _ _ _ _ _ _ _ _ _ _ _ _ _ _ _ _ _ _ _ _ _ _ _ _ _ _ _ _ _ _ _ _ _ _ _ _ _ _ _ _ _ _ (KD.out.call HB.out) (TD.out.kept HB.out) (T25D.out.kept HB.out) (T28D.out.kept HB.out) N28.out
  · have hbz : ¬ ((nb : Int) = 0) := by omega
    have hbp : (0 : Int) < (nb : Int) := by omega
    have hB1 : Below wr.heap.size wr (wr.alloc (.cells #[.int .i64 0, .int .i64 (nb : Nat)] 70)) := (Below.refl _ _).alloc (Nat.le_refl _) _
    have hq1 : AnySpans (wr.alloc (.cells #[.int .i64 0, .int .i64 (nb : Nat)] 70)) (some ⟨wr.heap.size, 0, none⟩) 1 [(0, (nb : Int))] := ⟨rfl, fun j hj => ⟨_, 0, rfl, by simp, fun q hq => by
      obtain rfl : q = 0 := by omega
      simp [go_sem]⟩⟩
    have hq2 := Q26D.out.kept hB1
    go_upto_if 219 with (first
      | (go_at_call 82; refine (sameSpans_any [(0, (nb : Int))] a26 (some ⟨wr.heap.size, 0, none⟩) 1 c26 1 _ (by decide) hq2 hq1).mono ?_; rintro e w4 ⟨rfl, hb4⟩))
    go_cut [] from 177 to 219 (fun we => Below wr.heap.size wr we)
    case first =>
      go_wp2_with fail
      go_meet
      exact hB1.trans (hb4.mono hB1.size)
    case rest =>
      have HB := Lib.hid hcut
      clear hcut
      first
        | (rename_i hK; refine hK _ _ ?_; clear hK)
        | (rename_i hK h1; refine hK _ _ ?_; clear hK)
        | (rename_i hK h1 h2; refine hK _ _ ?_; clear hK)
        | (rename_i hK h1 h2 h3; refine hK _ _ ?_; clear hK)
        | (rename_i hK h1 h2 h3 h4; refine hK _ _ ?_; clear hK)
      exact found38 w m k hm hk n0 n1 n2 n3 HN.out Bn ts HS.out g13 c13 a25 c25 a28 nc c28 HCL.out _ HTB.out _ _ _ _ _ _ _ _ _ _ _ _ _ _ _ _ _ _ _ _ _ _ _ _ _ _ _ _ _ _ _ _ _ _ _ _ _ _ _ _ _ _ _ _ _ _ _ _ _ _ _ _ _ _ _ _ _ _ _ _ _ _ _ _ _ _ _ _ _ _ _ _ _ _ _ _ _ _ _ _ _ _ _ _ _ _ _ _ _ _ _ _ _ _ _ _ _ _ _ _ _ _ _ _ _ _ _ _ _ _ _ _ _ _ _ _ _ _ _ _ _ _ _ _ _ _ _ _ _ _ _ _ _ _ _ _ _ _ _ _ _ _ _ _ _ _ _ _ _ _ _ _ _ _ _ _ _ _ _ _ _ _ _ _ _ _ _ _ _ _ _ _ _ _ _ _ _ _ _ _ _ _ _ _ _ _ _ _ _ _ _ _ _ _ _ _ _ _ _ _ _ _ _ _ _ _ _ _ _ _ _ _ _ _ _ _ _ _ _ _ _ _ _ _ _ _ _ _ _ _ _ _ _ _ _ _ _ _ _ _ _ _ _ _ _ _ _ _ _ _ _ _ _ _ _ _ _ _ _ _ _ _ _ _ _ _ (KD.out.call HB.out) (TD.out.kept HB.out) (T25D.out.kept HB.out) (T28D.out.kept HB.out) N28.out

set_option maxRecDepth 1000000 in
set_option maxHeartbeats 25600000 in
theorem found33 (w : World) (m k : Nat) (hm : m < 9) (hk : k < m) (n0 n1 n2 n3 : Int) (hn : 0 ≤ n1 ∧ n1 ≤ 255) (Bn : Nat) (Bs : List Int) (hB : ∀ v ∈ Bs, v ≠ 77) (hB20 : Bs.length ≤ 20) (ts : List Tel) (hS : SentL m n1 ts) (g13 c13 : Nat) (a7 : Option Addr) (nb c7 : Nat) (hnb : Bs.length = nb) (ad10 ad11 : Addr) (n10 c10 n11 c11 : Nat) (hc10 : n10 ≤ c10) (hc11 : n11 ≤ c11) (wr : World) (ht : TabAt w) (u0 u1 u2 u3 u4 u6 u8 u9 u14 u15 u16 u17 u18 u19 u20 u21 u22 u23 u24 u25 u26 u27 u28 u29 u30 u31 u32 u33 u34 u35 u36 u37 u38 u39 u40 u41 u42 u43 u44 u45 u46 u47 u48 u49 u50 u51 u52 u53 u54 u55 u56 u57 u58 u59 u60 u61 u62 u63 u64 u65 u66 u67 u68 u69 u70 u71 u72 u73 u74 u75 u76 u77 u78 u79 u80 u81 u82 u83 u84 u85 u86 u87 u88 u89 u90 u91 u92 u93 u94 u95 u96 u97 u98 u99 u100 u101 u102 u103 u104 u105 u106 u107 u108 u109 u110 u111 u112 u113 u114 u115 u116 u117 u118 u119 u120 u121 u122 u123 u124 u125 u126 u127 u128 u129 u130 u131 u132 u133 u134 u135 u136 u137 u138 u139 u140 u141 u142 u143 u144 u145 u146 u147 u148 u149 u150 u151 u152 u153 u154 u155 u156 u157 u158 u159 u160 u161 u162 u163 u164 u165 u166 u167 u168 u169 u170 u171 u172 u173 u174 u175 u176 u177 u178 u179 u180 u181 u182 u183 u184 u185 u186 u187 u188 u189 u190 u191 u192 u193 u194 u195 u196 u197 u198 u199 u200 u201 u202 u203 u204 u205 u206 u207 u208 u209 u210 u211 u212 u213 u214 u215 u216 u217 u218 u219 u220 u221 u222 u223 u224 u225 u226 u227 u228 u229 u230 u231 u232 u233 u234 u235 u236 u237 u238 u239 u240 u241 u242 u243 u244 u245 u246 u247 u248 u249 u250 u251 u252 u253 u254 u255 u256 u257 u258 u259 u260 u261 u262 u263 u264 u265 u266 u267 u268 u269 u270 : Value)
    (hKp : Kp w wr [(Bn, (.cells #[.int .u8 n0, .int .u8 n1, .int .u8 n2, .int .u8 n3] 161 (0, 0)))]) (hT : AnyTels wr (some ⟨g13, 0, none⟩) m ts) (h10 : AnyBytes wr (some ad10) n10 (Bs ++ joined ts)) (h11 : AnyBytes wr (some ad11) n11 (Bs ++ joined (cutL m k ts))) :
    Code.wp Tryz.prog (cutF 33) (bodyPost Tryz.prog Tryz.f16 (TruePost w)) ⟨#[u0, u1, u2, u3, u4, .pointer (some ⟨Bn, 0, none⟩), u6, .slice a7 nb c7, u8, u9, .slice (some ad10) n10 c10, .slice (some ad11) n11 c11, .int .i64 (k : Nat), .slice (some ⟨g13, 0, none⟩) m c13, u14, u15, u16, u17, u18, u19, u20, u21, u22, u23, u24, u25, u26, u27, u28, u29, u30, u31, u32, u33, u34, u35, u36, u37, u38, u39, u40, u41, u42, u43, u44, u45, u46, u47, u48, u49, u50, u51, u52, u53, u54, u55, u56, u57, u58, u59, u60, u61, u62, u63, u64, u65, u66, u67, u68, u69, u70, u71, u72, u73, u74, u75, u76, u77, u78, u79, u80, u81, u82, u83, u84, u85, u86, u87, u88, u89, u90, u91, u92, u93, u94, u95, u96, u97, u98, u99, u100, u101, u102, u103, u104, u105, u106, u107, u108, u109, u110, u111, u112, u113, u114, u115, u116, u117, u118, u119, u120, u121, u122, u123, u124, u125, u126, u127, u128, u129, u130, u131, u132, u133, u134, u135, u136, u137, u138, u139, u140, u141, u142, u143, u144, u145, u146, u147, u148, u149, u150, u151, u152, u153, u154, u155, u156, u157, u158, u159, u160, u161, u162, u163, u164, u165, u166, u167, u168, u169, u170, u171, u172, u173, u174, u175, u176, u177, u178, u179, u180, u181, u182, u183, u184, u185, u186, u187, u188, u189, u190, u191, u192, u193, u194, u195, u196, u197, u198, u199, u200, u201, u202, u203, u204, u205, u206, u207, u208, u209, u210, u211, u212, u213, u214, u215, u216, u217, u218, u219, u220, u221, u222, u223, u224, u225, u226, u227, u228, u229, u230, u231, u232, u233, u234, u235, u236, u237, u238, u239, u240, u241, u242, u243, u244, u245, u246, u247, u248, u249, u250, u251, u252, u253, u254, u255, u256, u257, u258, u259, u260, u261, u262, u263, u264, u265, u266, u267, u268, u269, u270], []⟩ wr := by
  conv => arg 2; whnf
  dsimp only
  obtain ⟨i2, hk2, hx0, hx1, hx2⟩ := info_parts Tryz.infoByteX
  have hcl : (cutL m k ts).length = m - 1 := (hS.lost hm hk hn).2.2.2
  obtain ⟨cs, hcs⟩ : ∃ cs, cutL m k ts = cs := ⟨_, rfl⟩
  have hgc : ∀ t ∈ cs, t.Good := fun t ht' => by rw [← hcs] at ht'; exact hS.good t (hS.cut_mem t ht')
  rw [hcs] at hcl h11
  have l10 : n10 ≤ 212 := by rw [← h10.1.1, List.length_append, joined_len, hS.len]; omega
  have l11 : n11 ≤ 212 := by rw [← h11.1.1, List.length_append, joined_len]; omega
  obtain ⟨sl, hsl⟩ : ∃ sl, (ahead1 Bs.length).length = sl := ⟨_, rfl⟩
  obtain ⟨SP, hSP⟩ : ∃ SP, ahead1 Bs.length = SP := ⟨_, rfl⟩
  have KR : Hid (∀ (a : Option Addr) (cp : Nat) (w1 : World), n10 ≤ cp → cp ≤ 9223372036854775807 → AnyBytes w1 a n10 (Bs ++ joined ts) → Calls Tryz.prog 76 #[.slice a n10 cp] w1 fun e w' => ∃ a1 c1 a2 c2, e = .returned (.tuple #[.slice a1 m c1, .slice a2 sl c2, .int .i64 0]) ∧ AnyTels w' a1 m ts ∧ (a1 = none → m = 0 ∧ c1 = 0) ∧ AnySpans w' a2 sl SP ∧ Below w1.heap.size w1 w') := Lib.hid fun a cp w1 q1 q2 q3 => by
    subst hSP
    exact received_found Bs ts hB hS.good n10 h10.1.1 (by omega) m sl hS.len hsl a cp w1 q1 q2 q3
  obtain ⟨nc, hnc⟩ : ∃ nc, m - 1 = nc := ⟨_, rfl⟩
  rw [hnc] at hcl
  have KR2 : Hid (∀ (a : Option Addr) (cp : Nat) (w1 : World), n11 ≤ cp → cp ≤ 9223372036854775807 → AnyBytes w1 a n11 (Bs ++ joined cs) → Calls Tryz.prog 76 #[.slice a n11 cp] w1 fun e w' => ∃ a1 c1 a2 c2, e = .returned (.tuple #[.slice a1 nc c1, .slice a2 sl c2, .int .i64 0]) ∧ AnyTels w' a1 nc cs ∧ (a1 = none → nc = 0 ∧ c1 = 0) ∧ AnySpans w' a2 sl SP ∧ Below w1.heap.size w1 w') := Lib.hid fun a cp w1 q1 q2 q3 => by
    subst hSP
    exact received_found Bs cs hB hgc n11 h11.1.1 (by omega) nc sl hcl hsl a cp w1 q1 q2 q3
  have hSP2 : (nb = 0 → sl = 0) ∧ (nb ≠ 0 → sl = 1 ∧ SP = [(0, (nb : Int))]) := by
    rw [← hsl, ← hSP, ← hnb]
    unfold ahead1
    constructor
    · intro h; rw [if_pos h]; rfl
    · intro h; rw [if_neg h]; exact ⟨rfl, rfl⟩
  have HK := Lib.hid hKp
  have HT := Lib.hid hT
  have H10 := Lib.hid h10
  have H11 := Lib.hid h11
  have HS := Lib.hid hS
  have HCS := Lib.hid hcs
  have HN := Lib.hid hn
  have HTB := Lib.hid ht
  have HSPX := Lib.hid hSP2
  have HNC := Lib.hid (And.intro hnc hcl)
  clear hKp hT h10 h11 hS hcs hn ht hSP2 hB hgc hsl hSP hnb hB20 hnc hcl
  go_upto_region 33 with fail
  go_cut [25, 26, 27] (fun s25 s26 s27 wc => ∃ a1 c1 a2 c2, s25 = .slice a1 m c1 ∧ s26 = .slice a2 sl c2 ∧ s27 = .int .i64 0 ∧ AnyTels wc a1 m ts ∧ AnySpans wc a2 sl SP ∧ Below wr.heap.size wr wc)
  case first =>
    have hC0 : (wr.alloc (.cells #[] 5)).ownsRow wr.heap.size 5 1 (.slice (some ⟨wr.heap.size, 0, none⟩) 0 0) 0 [] := by
      have h := World.ownsRow_made (base := wr.heap.size) (e := 5) (size := 1) wr #[] 0 (by simp) (by unfold maxLen; omega) rfl
      simpa using h
    have HC0 := Lib.hid hC0
    have HB6 : Hid (Below wr.heap.size wr (wr.alloc (.cells #[] 5))) := Lib.hid ((Below.refl _ _).alloc (Nat.le_refl _) _)
    have HLN : Hid (((Bs ++ joined ts).map (Value.int .u8)).length = n10 * 1) := Lib.hid (by rw [List.length_map, H10.out.1.1, Nat.mul_one])
    have HNW := Lib.hid (AnyBytes.news H10.out HB6.out)
    have HBV := Lib.hid H10.out.1
    clear hC0
    go_wp2_with (first
        | (at_builtin; (refine wpList_append_own _ rfl (.tmp 162) (.tmp 163) 109 rfl wr.heap.size 5 i2 (.int .u8 0) 1 1 Tryz.underlying109 hk2 hx0 hx1 hx2 rfl (by decide) (.slice (some ⟨wr.heap.size, 0, none⟩) 0 0) 0 [] rfl HC0.out ad10 n10 c10 ((Bs ++ joined ts).map (Value.int .u8)) rfl HLN.out HNW.out (one_byts _) (by unfold maxLen; omega) (by omega) (by simp) ?_); intro v6 w6 hO6 hG6 _;
           have hb6 : Below wr.heap.size wr w6 := Below.grown HB6.out hG6 (by simp) (fun q hq => by cases hq; exact Nat.le_refl _);
           rw [Nat.zero_add, List.nil_append] at hO6;
           obtain ⟨a6, c6, rfl, h6a, h6b, hA6⟩ := AnyBytes.of_row HBV.out hO6)
        | (go_at_call 76; (refine (KR.out _ _ _ h6a h6b hA6).mono ?_); rintro e w7 ⟨a1, c1, a2, c2, rfl, hT7, hN7, hQ7, hb7⟩))
    go_meet
    exact ⟨a1, c1, a2, c2, rfl, rfl, rfl, hT7, hQ7, hb6.trans (hb7.mono hb6.size)⟩
  case rest =>
    rename_i hK
    obtain ⟨a25, c25, a26, c26, rfl, rfl, rfl, hT25, hQ26, hb⟩ := hcut
    refine hK _ _ ?_
    clear hK
    obtain ⟨wx, hwx⟩ : ∃ wx, wc = wx := ⟨_, rfl⟩
    subst hwx
    have K1 := Lib.hid (HK.out.call hb)
    have T1 := Lib.hid (HT.out.kept hb)
    have X11 := Lib.hid (H11.out.kept hb)
    have T25 := Lib.hid hT25
    have Q26 := Lib.hid hQ26
    clear hb hT25 hQ26 HK HT H10 H11 KR
    go_upto_region 34 with fail
    go_cut [28, 29, 30] (fun s28 s29 s30 wd => ∃ a1 c1, s28 = .slice a1 nc c1 ∧ s30 = .int .i64 0 ∧ AnyTels wd a1 nc cs ∧ (a1 = none → nc = 0 ∧ c1 = 0) ∧ Below wc.heap.size wc wd)
    case first =>
      have hC0 : (wc.alloc (.cells #[] 5)).ownsRow wc.heap.size 5 1 (.slice (some ⟨wc.heap.size, 0, none⟩) 0 0) 0 [] := by
        have h := World.ownsRow_made (base := wc.heap.size) (e := 5) (size := 1) wc #[] 0 (by simp) (by unfold maxLen; omega) rfl
        simpa using h
      have HC0 := Lib.hid hC0
      have HB6 : Hid (Below wc.heap.size wc (wc.alloc (.cells #[] 5))) := Lib.hid ((Below.refl _ _).alloc (Nat.le_refl _) _)
      have HLN : Hid (((Bs ++ joined cs).map (Value.int .u8)).length = n11 * 1) := Lib.hid (by rw [List.length_map, X11.out.1.1, Nat.mul_one])
      have HNW := Lib.hid (AnyBytes.news X11.out HB6.out)
      have HBV := Lib.hid X11.out.1
      clear hC0
      go_wp2_with (first
        | (at_builtin; (refine wpList_append_own _ rfl (.tmp 170) (.tmp 171) 109 rfl wc.heap.size 5 i2 (.int .u8 0) 1 1 Tryz.underlying109 hk2 hx0 hx1 hx2 rfl (by decide) (.slice (some ⟨wc.heap.size, 0, none⟩) 0 0) 0 [] rfl HC0.out ad11 n11 c11 ((Bs ++ joined cs).map (Value.int .u8)) rfl HLN.out HNW.out (one_byts _) (by unfold maxLen; omega) (by omega) (by simp) ?_); intro v6 w6 hO6 hG6 _;
           have hb6 : Below wc.heap.size wc w6 := Below.grown HB6.out hG6 (by simp) (fun q hq => by cases hq; exact Nat.le_refl _);
           rw [Nat.zero_add, List.nil_append] at hO6;
           obtain ⟨a6, c6, rfl, h6a, h6b, hA6⟩ := AnyBytes.of_row HBV.out hO6)
        | (go_at_call 76; (refine (KR2.out _ _ _ h6a h6b hA6).mono ?_); rintro e w7 ⟨a1, c1, a2, c2, rfl, hT7, hN7, hQ7, hb7⟩))
      go_meet
      exact ⟨a1, c1, rfl, rfl, hT7, hN7, hb6.trans (hb7.mono hb6.size)⟩
    case rest =>
      rename_i hK
      obtain ⟨a28, c28, rfl, rfl, hT28, hN28, hb⟩ := hcut
      refine hK _ _ ?_
      clear hK
      have KD := Lib.hid (K1.out.call hb)
      have TD := Lib.hid (T1.out.kept hb)
      have T25D := Lib.hid (T25.out.kept hb)
      have Q26D := Lib.hid (Q26.out.kept hb)
      have T28D := Lib.hid hT28
      have N28 := Lib.hid hN28
      clear hb hT28 hN28 K1 T1 T25 Q26 X11 KR2
      obtain ⟨hnc, hcl⟩ := HNC.out
      have wm : IntKind.i64.wrap ((m : Int) - 1) = (nc : Int) := by rw [show (m : Int) - 1 = (nc : Int) by omega]; exact IntWalk.i64_in _ ⟨by omega, by omega⟩
      have hsz0 := KD.out.1.size
      by_cases hb0 : nb = 0
      · obtain rfl : sl = 0 := HSPX.out.1 hb0
        subst hb0
        exact found37 w m k hm hk n0 n1 n2 n3 HN.out Bn ts HS.out g13 c13 a7 0 c7 ad10 ad11 n10 c10 n11 c11 a25 c25 a26 0 c26 a28 nc c28 SP (by rw [HCS.out]; exact hcl) hnc (.inl ⟨rfl, rfl⟩) _ HTB.out _ _ _ _ _ _ _ _ _ _ _ _ _ _ _ _ _ _ _ _ _ _ _ _ _ _ _ _ _ _ _ _ _ _ _ _ _ _ _ _ _ _ _ _ _ _ _ _ _ _ _ _ _ _ _ _ _ _ _ _ _ _ _ _ _ _ _ _ _ _ _ _ _ _ _ _ _ _ _ _ _ _ _ _ _ _ _ _ _ _ _ _ _ _ _ _ _ _ _ _ _ _ _ _ _ _ _ _ _ _ _ _ _ _ _ _ _ _ _ _ _ _ _ _ _ _ _ _ _ _ _ _ _ _ _ _ _ _ _ _ _ _ _ _ _ _ _ _ _ _ _ _ _ _ _ _ _ _ _ _ _ _ _ _ _ _ _ _ _ _ _ _ _ _ _ _ _ _ _ _ _ _ _ _ _ _ _ _ _ _ _ _ _ _ _ _ _ _ _ _ _ _ _ _ _ _ _ _ _ _ _ _ _ _ _ _ _ _ _ _ _ _ _ _ _ _ _ _ _ _ _ _ _ _ _ _ _ _ _ _ _ _ _ _ _ _ _ _ _ _ _ _ _ _ _ _ _ _ _ _ KD.out TD.out T25D.out (by rw [HCS.out]; exact T28D.out) N28.out Q26D.out
      · obtain ⟨rfl, hsp⟩ := HSPX.out.2 hb0
        exact found37 w m k hm hk n0 n1 n2 n3 HN.out Bn ts HS.out g13 c13 a7 nb c7 ad10 ad11 n10 c10 n11 c11 a25 c25 a26 1 c26 a28 nc c28 SP (by rw [HCS.out]; exact hcl) hnc (.inr ⟨hb0, rfl, hsp⟩) _ HTB.out _ _ _ _ _ _ _ _ _ _ _ _ _ _ _ _ _ _ _ _ _ _ _ _ _ _ _ _ _ _ _ _ _ _ _ _ _ _ _ _ _ _ _ _ _ _ _ _ _ _ _ _ _ _ _ _ _ _ _ _ _ _ _ _ _ _ _ _ _ _ _ _ _ _ _ _ _ _ _ _ _ _ _ _ _ _ _ _ _ _ _ _ _ _ _ _ _ _ _ _ _ _ _ _ _ _ _ _ _ _ _ _ _ _ _ _ _ _ _ _ _ _ _ _ _ _ _ _ _ _ _ _ _ _ _ _ _ _ _ _ _ _ _ _ _ _ _ _ _ _ _ _ _ _ _ _ _ _ _ _ _ _ _ _ _ _ _ _ _ _ _ _ _ _ _ _ _ _ _ _ _ _ _ _ _ _ _ _ _ _ _ _ _ _ _ _ _ _ _ _ _ _ _ _ _ _ _ _ _ _ _ _ _ _ _ _ _ _ _ _ _ _ _ _ _ _ _ _ _ _ _ _ _ _ _ _ _ _ _ _ _ _ _ _ _ _ _ _ _ _ _ _ _ _ _ _ _ _ _ _ KD.out TD.out T25D.out (by rw [HCS.out]; exact T28D.out) N28.out Q26D.out
end Go.Proofs.YtfdkmmllemkogaaGreatDoor

/-
  LightFound: its round over an order, from the streams on.
-/
namespace Go.Proofs.YtfdkmmllemkogaaGreatDoor
open Go.RowKit Go.Shelf
set_option linter.unusedVariables false
set_option linter.unusedSimpArgs false

theorem news_alloc (w : World) (vs : List Value) (T : TypeId) : ∀ j u, vs[j]? = some u → (w.alloc (.cells vs.toArray T)).cell? ((⟨w.heap.size, 0, none⟩ : Addr).add j) = some u := by
  intro j u hu
  rw [Addr.add_mid, Nat.zero_add, cell_of_row _ _ j _ _ (0, 0) (blk_alloc_new w _)]
  simpa using hu
theorem news_blk {w : World} {B : Nat} {vs : List Value} {T : TypeId} (h : w.heap[B]? = some (.cells vs.toArray T (0, 0))) : ∀ j u, vs[j]? = some u → w.cell? ((⟨B, 0, none⟩ : Addr).add j) = some u := by
  intro j u hu
  rw [Addr.add_mid, Nat.zero_add, cell_of_row _ _ j _ _ (0, 0) h]
  simpa using hu
theorem own_other {g b n c : Nat} (h : g ≠ b) : some b ≠ (Value.slice (some ⟨g, 0, none⟩) n c).ownBlock := fun e => h (Option.some.inj e).symm
/-- A row's block is no block of another type. -/
theorem row_ne_blk {w : World} {N e sz g n c B : Nat} {xs : List Value} {o : Array Value} {T : TypeId} (h : w.ownsRow N e sz (.slice (some ⟨g, 0, none⟩) n c) n xs) (hB : w.heap[B]? = some (.cells o T (0, 0))) (hne : e ≠ T) : g ≠ B := by
  rintro rfl
  rcases h.2 with ⟨e1, _⟩ | ⟨g', cap, cur, e1, _, h3, _⟩
  · cases e1
  · cases e1
    rw [hB] at h3
    cases h3
    exact hne rfl

set_option maxRecDepth 1000000 in
set_option maxHeartbeats 25600000 in
theorem found28 (W0 : World) (N0 : Nat) (hN0 : N0 = W0.heap.size) (k i : Nat) (hi8 : i < 9) (t : Tel) (L : List Tel) (hL : L.length = i) (S10 S11 : List Int) (g10 n10 c10 g11 n11 c11 : Nat) (hn10 : n10 ≤ 1000) (hn11 : n11 ≤ 1000) (hg : g10 ≠ g11) (v13 : Value) (B16 B17 : Nat) (wr : World) (Q : Exit → Act → World → Prop) (u0 u1 u2 u3 u4 u5 u6 u7 u8 u9 u15 u18 u19 u20 u21 u22 u23 u24 u25 u26 u27 u28 u29 u30 u31 u32 u33 u34 u35 u36 u37 u38 u39 u40 u41 u42 u43 u44 u45 u46 u47 u48 u49 u50 u51 u52 u53 u54 u55 u56 u57 u58 u59 u60 u61 u62 u63 u64 u65 u66 u67 u68 u69 u70 u71 u72 u73 u74 u75 u76 u78 u79 u80 u81 u82 u83 u84 u85 u86 u87 u88 u89 u90 u91 u92 u93 u94 u95 u96 u97 u98 u99 u100 u101 u102 u103 u104 u105 u106 u107 u108 u109 u110 u111 u112 u113 u114 u115 u116 u117 u118 u119 u120 u121 u122 u123 u124 u125 u126 u127 u128 u129 u130 u131 u132 u133 u134 u135 u136 u137 u138 u139 u140 u141 u142 u143 u144 u145 u146 u147 u148 u149 u150 u151 u152 u153 u154 u155 u156 u157 u158 u159 u160 u161 u162 u163 u164 u165 u166 u167 u168 u169 u170 u171 u172 u173 u174 u175 u176 u177 u178 u179 u180 u181 u182 u183 u184 u185 u186 u187 u188 u189 u190 u191 u192 u193 u194 u195 u196 u197 u198 u199 u200 u201 u202 u203 u204 u205 u206 u207 u208 u209 u210 u211 u212 u213 u214 u215 u216 u217 u218 u219 u220 u221 u222 u223 u224 u225 u226 u227 u228 u229 u230 u231 u232 u233 u234 u235 u236 u237 u238 u239 u240 u241 u242 u243 u244 u245 u246 u247 u248 u249 u250 u251 u252 u253 u254 u255 u256 u257 u258 u259 u260 u261 u262 u263 u264 u265 u266 u267 u268 u269 u270 : Value)
    (hBW : Below N0 W0 wr) (h10 : wr.ownsRow N0 5 1 (.slice (some ⟨g10, 0, none⟩) n10 c10) n10 (S10.map (Value.int .u8))) (h11 : wr.ownsRow N0 5 1 (.slice (some ⟨g11, 0, none⟩) n11 c11) n11 (S11.map (Value.int .u8))) (h13 : wr.ownsRow N0 112 6 v13 i (L.flatMap Tel.val))
    (hb17 : wr.heap[B17]? = some (.cells (t.frame.map (Value.int .u8)).toArray 108 (0, 0))) (hb16 : wr.heap[B16]? = some (.cells #[.int .i64 t.s, .int .i64 t.c, .int .i64 t.o, .int .i64 t.x, .int .i64 t.y, .int .i64 t.z] 112 (0, 0)))
    (hQ : ∀ (w' : World) (g10' c10' g11' c11' : Nat) (v13' : Value) (v147 v148 v149 v150 v151 v152 v153 v154 v155 v156 v157 v158 v159 : Value), Below N0 W0 w' → g10' ≠ g11' → w'.ownsRow N0 5 1 (.slice (some ⟨g10', 0, none⟩) (n10 + 24) c10') (n10 + 24) ((S10 ++ t.frame).map (Value.int .u8)) → w'.ownsRow N0 5 1 (.slice (some ⟨g11', 0, none⟩) (n11 + (if i = k then 0 else 24)) c11') (n11 + (if i = k then 0 else 24)) ((S11 ++ (if i = k then [] else t.frame)).map (Value.int .u8)) → w'.ownsRow N0 112 6 v13' (i + 1) ((L ++ [t]).flatMap Tel.val) → Q .normal ⟨#[u0, u1, u2, u3, u4, u5, u6, u7, u8, u9, .slice (some ⟨g10', 0, none⟩) (n10 + 24) c10', .slice (some ⟨g11', 0, none⟩) (n11 + (if i = k then 0 else 24)) c11', .int .i64 (k : Nat), v13', .int .i64 (i : Nat), u15, .pointer (some ⟨B16, 0, none⟩), .pointer (some ⟨B17, 0, none⟩), u18, u19, u20, u21, u22, u23, u24, u25, u26, u27, u28, u29, u30, u31, u32, u33, u34, u35, u36, u37, u38, u39, u40, u41, u42, u43, u44, u45, u46, u47, u48, u49, u50, u51, u52, u53, u54, u55, u56, u57, u58, u59, u60, u61, u62, u63, u64, u65, u66, u67, u68, u69, u70, u71, u72, u73, u74, u75, u76, .int .i64 (i : Nat), u78, u79, u80, u81, u82, u83, u84, u85, u86, u87, u88, u89, u90, u91, u92, u93, u94, u95, u96, u97, u98, u99, u100, u101, u102, u103, u104, u105, u106, u107, u108, u109, u110, u111, u112, u113, u114, u115, u116, u117, u118, u119, u120, u121, u122, u123, u124, u125, u126, u127, u128, u129, u130, u131, u132, u133, u134, u135, u136, u137, u138, u139, u140, u141, u142, u143, u144, u145, u146, v147, v148, v149, v150, v151, v152, v153, v154, v155, v156, v157, v158, v159, u160, u161, u162, u163, u164, u165, u166, u167, u168, u169, u170, u171, u172, u173, u174, u175, u176, u177, u178, u179, u180, u181, u182, u183, u184, u185, u186, u187, u188, u189, u190, u191, u192, u193, u194, u195, u196, u197, u198, u199, u200, u201, u202, u203, u204, u205, u206, u207, u208, u209, u210, u211, u212, u213, u214, u215, u216, u217, u218, u219, u220, u221, u222, u223, u224, u225, u226, u227, u228, u229, u230, u231, u232, u233, u234, u235, u236, u237, u238, u239, u240, u241, u242, u243, u244, u245, u246, u247, u248, u249, u250, u251, u252, u253, u254, u255, u256, u257, u258, u259, u260, u261, u262, u263, u264, u265, u266, u267, u268, u269, u270], []⟩ w') :
    Code.wp Tryz.prog (cutF 28) Q ⟨#[u0, u1, u2, u3, u4, u5, u6, u7, u8, u9, .slice (some ⟨g10, 0, none⟩) n10 c10, .slice (some ⟨g11, 0, none⟩) n11 c11, .int .i64 (k : Nat), v13, .int .i64 (i : Nat), u15, .pointer (some ⟨B16, 0, none⟩), .pointer (some ⟨B17, 0, none⟩), u18, u19, u20, u21, u22, u23, u24, u25, u26, u27, u28, u29, u30, u31, u32, u33, u34, u35, u36, u37, u38, u39, u40, u41, u42, u43, u44, u45, u46, u47, u48, u49, u50, u51, u52, u53, u54, u55, u56, u57, u58, u59, u60, u61, u62, u63, u64, u65, u66, u67, u68, u69, u70, u71, u72, u73, u74, u75, u76, .int .i64 (i : Nat), u78, u79, u80, u81, u82, u83, u84, u85, u86, u87, u88, u89, u90, u91, u92, u93, u94, u95, u96, u97, u98, u99, u100, u101, u102, u103, u104, u105, u106, u107, u108, u109, u110, u111, u112, u113, u114, u115, u116, u117, u118, u119, u120, u121, u122, u123, u124, u125, u126, u127, u128, u129, u130, u131, u132, u133, u134, u135, u136, u137, u138, u139, u140, u141, u142, u143, u144, u145, u146, u147, u148, u149, u150, u151, u152, u153, u154, u155, u156, u157, u158, u159, u160, u161, u162, u163, u164, u165, u166, u167, u168, u169, u170, u171, u172, u173, u174, u175, u176, u177, u178, u179, u180, u181, u182, u183, u184, u185, u186, u187, u188, u189, u190, u191, u192, u193, u194, u195, u196, u197, u198, u199, u200, u201, u202, u203, u204, u205, u206, u207, u208, u209, u210, u211, u212, u213, u214, u215, u216, u217, u218, u219, u220, u221, u222, u223, u224, u225, u226, u227, u228, u229, u230, u231, u232, u233, u234, u235, u236, u237, u238, u239, u240, u241, u242, u243, u244, u245, u246, u247, u248, u249, u250, u251, u252, u253, u254, u255, u256, u257, u258, u259, u260, u261, u262, u263, u264, u265, u266, u267, u268, u269, u270], []⟩ wr := by
  conv => arg 2; whnf
  dsimp only
  obtain ⟨i2, hk2, hxa, hxb, hxc⟩ := info_parts Tryz.infoByteX
  obtain ⟨i0, hi, hz0, hz1, hz2⟩ := info_parts Tryz.infoTel
  have l17 := lt_of_blk hb17
  have l16 := lt_of_blk hb16
  have l11 := (h11.lt g11 rfl).2
  have l10 := (h10.lt g10 rfl).2
  have b10 := (h10.lt g10 rfl).1
  have b11 := (h11.lt g11 rfl).1
  have q17 : g11 ≠ B17 := row_ne_blk h11 hb17 (by decide)
  have q16 : g11 ≠ B16 := row_ne_blk h11 hb16 (by decide)
  have p16 : g10 ≠ B16 := row_ne_blk h10 hb16 (by decide)
  have p17 : g10 ≠ B17 := row_ne_blk h10 hb17 (by decide)
  have hN : N0 ≤ wr.heap.size := by rw [hN0]; exact hBW.size
  have HQ := Lib.hid hQ
  have H10 := Lib.hid h10
  have H11 := Lib.hid h11
  have H13 := Lib.hid h13
  have B16H := Lib.hid hb16
  have B17H := Lib.hid hb17
  have HBW := Lib.hid hBW
  have HL := Lib.hid hL
  have hfl : (t.frame.map (Value.int .u8)).length = 24 * 1 := rfl
  clear hQ h10 h11 h13 hb16 hb17 hBW hL
  have hwi : IntKind.i64.wrap ((i : Int) + 1) = ((i + 1 : Nat) : Int) := by rw [show (i : Int) + 1 = ((i + 1 : Nat) : Int) by omega]; exact IntWalk.i64_in _ ⟨by omega, by omega⟩
  go_upto_region 29 with (at_builtin; refine wpList_append_own_at _ rfl (.tmp 147) (.tmp 148) 109 rfl N0 5 i2 (.int .u8 0) 1 1 Tryz.underlying109 hk2 hxa hxb hxc rfl (by decide) _ n10 _ rfl H10.out ⟨B17, 0, none⟩ 24 24 (t.frame.map (Value.int .u8)) rfl hfl (news_blk B17H.out) (one_byts _) (by unfold maxLen; omega) (by omega) (by omega) ?_; intro v1 w1 hO1 hG1 _ hx1; obtain ⟨g1, c1, rfl, _, _⟩ := owns_some hO1 (by omega))
  have hw1 : wr.heap.size ≤ w1.heap.size := hG1.size
  have h16 : w1.heap[B16]? = _ := (hG1.block B16 l16 (own_other p16)).trans B16H.out
  have h17 : w1.heap[B17]? = _ := (hG1.block B17 l17 (own_other p17)).trans B17H.out
  have k11 := H11.out.kept hG1 (.inr (fun e => hg (Option.some.inj e).symm))
  have k13 := H13.out.kept hG1 (own_ne H13.out H10.out (by decide))
  have kB : Below N0 W0 w1 := HBW.out.grown hG1 hN (fun q hq => by cases hq; exact b10)
  have kg : g1 ≠ g11 := by
    rcases hx1 with e | e
    · have e' : g1 = g10 := Option.some.inj e
      omega
    · have e' : g1 = wr.heap.size := Option.some.inj e
      omega
  have O1 := Lib.hid hO1
  have K11 := Lib.hid k11
  have K13 := Lib.hid k13
  have KB := Lib.hid kB
  have H16 := Lib.hid h16
  have H17 := Lib.hid h17
  clear hO1 hG1 hx1 k11 k13 kB h16 h17 H10 H11 H13 B16H B17H HBW
  by_cases hik : i = k
  · rw [if_pos hik, if_pos hik, Nat.add_zero, List.append_nil] at HQ
    subst hik

    go_wp2_with (first
      | (refine wpList_load_row rfl 112 (.tmp 16) rfl B16 rfl 112 _ (0, 0) _ H16.out Tryz.underlying112 rfl (by kernel_rfl) ?_)
      | (at_builtin; refine wpList_append_own_at _ rfl (.tmp 156) (.tmp 158) 115 rfl N0 112 i0 (.agg #[.int .i64 0, .int .i64 0, .int .i64 0, .int .i64 0, .int .i64 0, .int .i64 0]) 6 48 Tryz.underlying115 hi hz0 hz1 hz2 rfl (by decide) _ i _ rfl (K13.out.alloc _) ⟨w1.heap.size, 0, none⟩ 1 1 t.val rfl rfl (news_alloc w1 t.val 112) (one_val t) (by unfold maxLen; omega) (by omega) (by have := KB.out.size; simp; omega) ?_; intro v3 w3 hO3 hG3 _ _))
    have hA3 : Below w1.heap.size w1 (w1.alloc (.cells t.val.toArray 112)) := (Below.refl _ _).alloc (Nat.le_refl _) _
    have hW3 : Below N0 W0 w3 := Below.grown (Below.alloc KB.out (by have := KB.out.size; omega) (.cells t.val.toArray 112)) hG3 (by have := KB.out.size; simp; omega) (fun q hq => (K13.out.lt q hq).1)
    have e3 : (L ++ [t]).flatMap Tel.val = L.flatMap Tel.val ++ t.val := by simp
    refine HQ.out _ _ _ _ _ _ _ _ _ _ _ _ _ _ _ _ _ _ _ hW3 kg ?_ ?_ (by rw [e3]; exact hO3)
    · have h := ((O1.out).alloc (.cells t.val.toArray 112)).kept hG3 (own_ne ((O1.out).alloc _) ((K13.out).alloc (.cells t.val.toArray 112)) (by decide))
      rw [List.map_append]
      exact h
    · have h := ((K11.out).alloc (.cells t.val.toArray 112)).kept hG3 (own_ne ((K11.out).alloc _) ((K13.out).alloc (.cells t.val.toArray 112)) (by decide))
      exact h
  · have hikI : ¬ ((i : Int) = (k : Int)) := by omega
    rw [if_neg hik, if_neg hik] at HQ
    have l11' := (K11.out.lt g11 rfl).2
    have l10' := (O1.out.lt g1 rfl).2
    have l16' := lt_of_blk H16.out
    go_upto_region 31 with (at_builtin; refine wpList_append_own_at _ rfl (.tmp 153) (.tmp 154) 109 rfl N0 5 i2 (.int .u8 0) 1 1 Tryz.underlying109 hk2 hxa hxb hxc rfl (by decide) _ n11 _ rfl K11.out ⟨B17, 0, none⟩ 24 24 (t.frame.map (Value.int .u8)) rfl hfl (news_blk H17.out) (one_byts _) (by unfold maxLen; omega) (by omega) (by have := KB.out.size; omega) ?_; intro v2 w2 hO2 hG2 _ hy2; obtain ⟨g2, c2, rfl, _, _⟩ := owns_some hO2 (by omega))
    have H16b : Hid (w2.heap[B16]? = _) := Lib.hid ((hG2.block B16 l16' (own_other q16)).trans H16.out)
    have K10b := Lib.hid (O1.out.kept hG2 (.inr (fun e => kg (Option.some.inj e))))
    have K13b := Lib.hid (K13.out.kept hG2 (own_ne K13.out K11.out (by decide)))
    have KBb : Hid (Below N0 W0 w2) := Lib.hid (KB.out.grown hG2 (by have := KB.out.size; omega) (fun q hq => by cases hq; exact b11))
    have kg2 : g1 ≠ g2 := by
      rcases hy2 with e | e
      · have e' : g2 = g11 := Option.some.inj e
        omega
      · have e' : g2 = w1.heap.size := Option.some.inj e
        omega
    have O2 := Lib.hid hO2
    clear hO2 hG2 hy2

    go_wp2_with (first
      | (refine wpList_load_row rfl 112 (.tmp 16) rfl B16 rfl 112 _ (0, 0) _ H16b.out Tryz.underlying112 rfl (by kernel_rfl) ?_)
      | (at_builtin; refine wpList_append_own_at _ rfl (.tmp 156) (.tmp 158) 115 rfl N0 112 i0 (.agg #[.int .i64 0, .int .i64 0, .int .i64 0, .int .i64 0, .int .i64 0, .int .i64 0]) 6 48 Tryz.underlying115 hi hz0 hz1 hz2 rfl (by decide) _ i _ rfl (K13b.out.alloc _) ⟨w2.heap.size, 0, none⟩ 1 1 t.val rfl rfl (news_alloc w2 t.val 112) (one_val t) (by unfold maxLen; omega) (by omega) (by have := KBb.out.size; simp; omega) ?_; intro v3 w3 hO3 hG3 _ _))
    have hA3 : Below w2.heap.size w2 (w2.alloc (.cells t.val.toArray 112)) := (Below.refl _ _).alloc (Nat.le_refl _) _
    have hW3 : Below N0 W0 w3 := Below.grown (Below.alloc KBb.out (by have := KBb.out.size; omega) (.cells t.val.toArray 112)) hG3 (by have := KBb.out.size; simp; omega) (fun q hq => (K13b.out.lt q hq).1)
    have e3 : (L ++ [t]).flatMap Tel.val = L.flatMap Tel.val ++ t.val := by simp
    refine HQ.out _ _ _ _ _ _ _ _ _ _ _ _ _ _ _ _ _ _ _ hW3 kg2 ?_ ?_ (by rw [e3]; exact hO3)
    · have h := ((K10b.out).alloc (.cells t.val.toArray 112)).kept hG3 (own_ne ((K10b.out).alloc _) ((K13b.out).alloc (.cells t.val.toArray 112)) (by decide))
      rw [List.map_append]
      exact h
    · have h := ((O2.out).alloc (.cells t.val.toArray 112)).kept hG3 (own_ne ((O2.out).alloc _) ((K13b.out).alloc (.cells t.val.toArray 112)) (by decide))
      rw [List.map_append]
      exact h
end Go.Proofs.YtfdkmmllemkogaaGreatDoor

/-
  LightFound: its round over an order, from the frame that is broken on.
-/
namespace Go.Proofs.YtfdkmmllemkogaaGreatDoor
open Go.RowKit Go.Shelf
set_option linter.unusedVariables false
set_option linter.unusedSimpArgs false

theorem hif24 (F : List Int) (h : F.length = 24) : (Tryz.prog.info? 108).map (·.size) = some (F.map (Value.int .u8)).toArray.size := by rw [size24]; simp [h]
theorem size24Z (F : List Int) (h : F.length = 24) : (List.replicate 24 (Value.int .u8 0)).toArray.size = (F.map (Value.int .u8)).toArray.size := by simp [h]

set_option maxRecDepth 1000000 in
set_option maxHeartbeats 25600000 in
theorem found22 (W0 : World) (N0 : Nat) (hN0 : N0 = W0.heap.size) (k i : Nat) (hi8 : i < 9) (t : Tel) (L : List Tel) (hL : L.length = i) (S10 S11 : List Int) (g10 n10 c10 g11 n11 c11 : Nat) (hn10 : n10 ≤ 1000) (hn11 : n11 ≤ 1000) (hg : g10 ≠ g11) (v13 : Value) (hgd : t.Good) (hft : FitT t.s t.c t.o t.x t.y t.z) (n0 n1 n2 n3 : Int) (hn2 : 0 ≤ n2 ∧ n2 ≤ 255) (hn3 : 0 ≤ n3 ∧ n3 ≤ 255) (Bn : Nat) (hbn : W0.heap[Bn]? = some (.cells #[.int .u8 n0, .int .u8 n1, .int .u8 n2, .int .u8 n3] 161 (0, 0))) (B16 B17 : Nat) (wr : World) (Q : Exit → Act → World → Prop) (u0 u1 u2 u3 u4 u6 u7 u8 u9 u15 u18 u19 u20 u21 u22 u23 u24 u25 u26 u27 u28 u29 u30 u31 u32 u33 u34 u35 u36 u37 u38 u39 u40 u41 u42 u43 u44 u45 u46 u47 u48 u49 u50 u51 u52 u53 u54 u55 u56 u57 u58 u59 u60 u61 u62 u63 u64 u65 u66 u67 u68 u69 u70 u71 u72 u73 u74 u75 u76 u78 u79 u80 u81 u82 u83 u84 u85 u86 u87 u88 u89 u90 u91 u92 u93 u94 u95 u96 u97 u98 u99 u100 u101 u102 u103 u104 u105 u106 u107 u108 u109 u110 u111 u112 u113 u114 u115 u116 u117 u118 u119 u120 u121 u122 u123 u124 u125 u126 u127 u128 u129 u130 u131 u132 u133 u134 u135 u136 u137 u138 u139 u140 u141 u142 u143 u144 u145 u146 u147 u148 u149 u150 u151 u152 u153 u154 u155 u156 u157 u158 u159 u160 u161 u162 u163 u164 u165 u166 u167 u168 u169 u170 u171 u172 u173 u174 u175 u176 u177 u178 u179 u180 u181 u182 u183 u184 u185 u186 u187 u188 u189 u190 u191 u192 u193 u194 u195 u196 u197 u198 u199 u200 u201 u202 u203 u204 u205 u206 u207 u208 u209 u210 u211 u212 u213 u214 u215 u216 u217 u218 u219 u220 u221 u222 u223 u224 u225 u226 u227 u228 u229 u230 u231 u232 u233 u234 u235 u236 u237 u238 u239 u240 u241 u242 u243 u244 u245 u246 u247 u248 u249 u250 u251 u252 u253 u254 u255 u256 u257 u258 u259 u260 u261 u262 u263 u264 u265 u266 u267 u268 u269 u270 : Value)
    (hBW : Below N0 W0 wr) (h10 : wr.ownsRow N0 5 1 (.slice (some ⟨g10, 0, none⟩) n10 c10) n10 (S10.map (Value.int .u8))) (h11 : wr.ownsRow N0 5 1 (.slice (some ⟨g11, 0, none⟩) n11 c11) n11 (S11.map (Value.int .u8))) (h13 : wr.ownsRow N0 112 6 v13 i (L.flatMap Tel.val))
    (hb17 : wr.heap[B17]? = some (.cells (t.frame.map (Value.int .u8)).toArray 108 (0, 0))) (hb16 : wr.heap[B16]? = some (.cells #[.int .i64 t.s, .int .i64 t.c, .int .i64 t.o, .int .i64 t.x, .int .i64 t.y, .int .i64 t.z] 112 (0, 0)))
    (hQ : ∀ (w' : World) (g10' c10' g11' c11' : Nat) (v13' : Value) (v6 v21 v22 v23 v24 v121 v122 v123 v124 v125 v126 v127 v128 v129 v130 v131 v132 v133 v134 v135 v136 v137 v138 v139 v140 v141 v142 v143 v144 v145 v146 v147 v148 v149 v150 v151 v152 v153 v154 v155 v156 v157 v158 v159 : Value), Below N0 W0 w' → g10' ≠ g11' → w'.ownsRow N0 5 1 (.slice (some ⟨g10', 0, none⟩) (n10 + 24) c10') (n10 + 24) ((S10 ++ t.frame).map (Value.int .u8)) → w'.ownsRow N0 5 1 (.slice (some ⟨g11', 0, none⟩) (n11 + (if i = k then 0 else 24)) c11') (n11 + (if i = k then 0 else 24)) ((S11 ++ (if i = k then [] else t.frame)).map (Value.int .u8)) → w'.ownsRow N0 112 6 v13' (i + 1) ((L ++ [t]).flatMap Tel.val) → Q .normal ⟨#[u0, u1, u2, u3, u4, .pointer (some ⟨Bn, 0, none⟩), v6, u7, u8, u9, .slice (some ⟨g10', 0, none⟩) (n10 + 24) c10', .slice (some ⟨g11', 0, none⟩) (n11 + (if i = k then 0 else 24)) c11', .int .i64 (k : Nat), v13', .int .i64 (i : Nat), u15, .pointer (some ⟨B16, 0, none⟩), .pointer (some ⟨B17, 0, none⟩), u18, u19, u20, v21, v22, v23, v24, u25, u26, u27, u28, u29, u30, u31, u32, u33, u34, u35, u36, u37, u38, u39, u40, u41, u42, u43, u44, u45, u46, u47, u48, u49, u50, u51, u52, u53, u54, u55, u56, u57, u58, u59, u60, u61, u62, u63, u64, u65, u66, u67, u68, u69, u70, u71, u72, u73, u74, u75, u76, .int .i64 (i : Nat), u78, u79, u80, u81, u82, u83, u84, u85, u86, u87, u88, u89, u90, u91, u92, u93, u94, u95, u96, u97, u98, u99, u100, u101, u102, u103, u104, u105, u106, u107, u108, u109, u110, u111, u112, u113, u114, u115, u116, u117, u118, u119, u120, v121, v122, v123, v124, v125, v126, v127, v128, v129, v130, v131, v132, v133, v134, v135, v136, v137, v138, v139, v140, v141, v142, v143, v144, v145, v146, v147, v148, v149, v150, v151, v152, v153, v154, v155, v156, v157, v158, v159, u160, u161, u162, u163, u164, u165, u166, u167, u168, u169, u170, u171, u172, u173, u174, u175, u176, u177, u178, u179, u180, u181, u182, u183, u184, u185, u186, u187, u188, u189, u190, u191, u192, u193, u194, u195, u196, u197, u198, u199, u200, u201, u202, u203, u204, u205, u206, u207, u208, u209, u210, u211, u212, u213, u214, u215, u216, u217, u218, u219, u220, u221, u222, u223, u224, u225, u226, u227, u228, u229, u230, u231, u232, u233, u234, u235, u236, u237, u238, u239, u240, u241, u242, u243, u244, u245, u246, u247, u248, u249, u250, u251, u252, u253, u254, u255, u256, u257, u258, u259, u260, u261, u262, u263, u264, u265, u266, u267, u268, u269, u270], []⟩ w') :
    Code.wp Tryz.prog (cutF 22) Q ⟨#[u0, u1, u2, u3, u4, .pointer (some ⟨Bn, 0, none⟩), u6, u7, u8, u9, .slice (some ⟨g10, 0, none⟩) n10 c10, .slice (some ⟨g11, 0, none⟩) n11 c11, .int .i64 (k : Nat), v13, .int .i64 (i : Nat), u15, .pointer (some ⟨B16, 0, none⟩), .pointer (some ⟨B17, 0, none⟩), u18, u19, u20, u21, u22, u23, u24, u25, u26, u27, u28, u29, u30, u31, u32, u33, u34, u35, u36, u37, u38, u39, u40, u41, u42, u43, u44, u45, u46, u47, u48, u49, u50, u51, u52, u53, u54, u55, u56, u57, u58, u59, u60, u61, u62, u63, u64, u65, u66, u67, u68, u69, u70, u71, u72, u73, u74, u75, u76, .int .i64 (i : Nat), u78, u79, u80, u81, u82, u83, u84, u85, u86, u87, u88, u89, u90, u91, u92, u93, u94, u95, u96, u97, u98, u99, u100, u101, u102, u103, u104, u105, u106, u107, u108, u109, u110, u111, u112, u113, u114, u115, u116, u117, u118, u119, u120, u121, u122, u123, u124, u125, u126, u127, u128, u129, u130, u131, u132, u133, u134, u135, u136, u137, u138, u139, u140, u141, u142, u143, u144, u145, u146, u147, u148, u149, u150, u151, u152, u153, u154, u155, u156, u157, u158, u159, u160, u161, u162, u163, u164, u165, u166, u167, u168, u169, u170, u171, u172, u173, u174, u175, u176, u177, u178, u179, u180, u181, u182, u183, u184, u185, u186, u187, u188, u189, u190, u191, u192, u193, u194, u195, u196, u197, u198, u199, u200, u201, u202, u203, u204, u205, u206, u207, u208, u209, u210, u211, u212, u213, u214, u215, u216, u217, u218, u219, u220, u221, u222, u223, u224, u225, u226, u227, u228, u229, u230, u231, u232, u233, u234, u235, u236, u237, u238, u239, u240, u241, u242, u243, u244, u245, u246, u247, u248, u249, u250, u251, u252, u253, u254, u255, u256, u257, u258, u259, u260, u261, u262, u263, u264, u265, u266, u267, u268, u269, u270], []⟩ wr := by
  conv => arg 2; whnf
  dsimp only
  have lBn : Bn < N0 := by rw [hN0]; exact lt_of_blk hbn
  have hNz : N0 ≤ wr.heap.size := by rw [hN0]; exact hBW.size
  have hbn' := (hBW.block Bn lBn).trans hbn
  obtain ⟨at', hat⟩ : ∃ a : Nat, n2.toNat % 24 = a := ⟨_, rfl⟩
  have ha24 : at' < 24 := by rw [← hat]; exact Nat.mod_lt _ (by omega)
  have ea : n2.tmod 24 = (at' : Int) := by rw [Int.tmod_eq_emod_of_nonneg hn2.1, ← hat]; omega
  have wn2 : IntKind.i64.wrap n2 = n2 := IntWalk.i64_in _ ⟨by omega, by omega⟩
  have wn3 : IntKind.i64.wrap n3 = n3 := IntWalk.i64_in _ ⟨by omega, by omega⟩
  have wat : IntKind.i64.wrap (at' : Int) = (at' : Int) := IntWalk.i64_in _ ⟨by omega, by omega⟩
  obtain ⟨fb, hfb⟩ : ∃ fb, t.frame[at']?.getD 0 = fb := ⟨_, rfl⟩
  have hfg : t.frame[at']? = some fb := by
    rw [← hfb, List.getElem?_eq_getElem (by show at' < 24; exact ha24)]; rfl
  have bfb : 0 ≤ fb ∧ fb ≤ 255 := (frame24 t hgd).2 fb (List.mem_of_getElem? hfg)
  obtain ⟨nv, hnv⟩ : ∃ nv, (fb + 1 + n3.tmod 255).tmod 256 = nv := ⟨_, rfl⟩
  have e3 : n3.tmod 255 = n3 % 255 := Int.tmod_eq_emod_of_nonneg hn3.1
  have hnv' : nv = (fb + 1 + n3 % 255) % 256 := by rw [← hnv, e3, Int.tmod_eq_emod_of_nonneg (by omega)]
  have bnv : 0 ≤ nv ∧ nv ≤ 255 := by omega
  have hne : nv ≠ fb := by omega
  have wfb : IntKind.i64.wrap fb = fb := IntWalk.i64_in _ ⟨by omega, by omega⟩
  have wf1 : IntKind.i64.wrap (fb + 1) = fb + 1 := IntWalk.i64_in _ ⟨by omega, by omega⟩
  have wm3 : IntKind.i64.wrap (n3.tmod 255) = n3.tmod 255 := IntWalk.i64_in _ ⟨by omega, by omega⟩
  have ws3 : IntKind.i64.wrap (fb + 1 + n3 % 255) = fb + 1 + n3 % 255 := IntWalk.i64_in _ ⟨by omega, by omega⟩
  have wm4 : IntKind.i64.wrap (n3 % 255) = n3 % 255 := IntWalk.i64_in _ ⟨by omega, by omega⟩
  have hnv2 : (fb + 1 + n3 % 255).tmod 256 = nv := by rw [← e3]; exact hnv
  have hnv3 : (fb + 1 + n3 % 255) % 256 = nv := hnv'.symm
  have wnv : IntKind.i64.wrap nv = nv := IntWalk.i64_in _ ⟨by omega, by omega⟩
  have unv : IntKind.u8.wrap nv = nv := IntWalk.u8_in _ ⟨by omega, by omega⟩
  obtain ⟨F', hF'⟩ : ∃ F', t.frame.set at' nv = F' := ⟨_, rfl⟩
  have hF24 : Bytes24 F' := by
    rw [← hF']
    exact ⟨by rw [List.length_set]; rfl, fun u hu => by
      rcases List.mem_or_eq_of_mem_set hu with h1 | h1
      · exact (frame24 t hgd).2 u h1
      · rw [h1]; exact bnv⟩
  have hr : decErr F' ≠ 0 := by rw [← hF']; exact decErr_broken t hgd hft at' nv bnv ha24 (by rw [hfb]; exact hne)
  obtain ⟨r, hre⟩ : ∃ r, decErr F' = r := ⟨_, rfl⟩
  rw [hre] at hr
  obtain ⟨t', ht'⟩ : ∃ t', decTel F' = t' := ⟨_, rfl⟩
  have KD : Hid (∀ w1 : World, Calls Tryz.prog 75 #[.agg (F'.map (Value.int .u8)).toArray] w1 fun e w' => e = .returned (.tuple #[.agg #[.int .i64 t'.s, .int .i64 t'.c, .int .i64 t'.o, .int .i64 t'.x, .int .i64 t'.y, .int .i64 t'.z], .int .i64 r]) ∧ Below w1.heap.size w1 w') := Lib.hid fun w1 => by
    have k := decode_all F' hF24 w1
    rw [hre, ht'] at k
    exact k
  have hrne : (r == 0) = false := by simp [hr]
  have hi17 := hif24 t.frame rfl
  have hiF := hif24 F' hF24.1
  have HQ := Lib.hid hQ
  have H10 := Lib.hid h10
  have H11 := Lib.hid h11
  have H13 := Lib.hid h13
  have B16H := Lib.hid hb16
  have B17H := Lib.hid hb17
  have HBW := Lib.hid hBW
  have BNH := Lib.hid hbn'
  have HF := Lib.hid hF'
  have HFG := Lib.hid hfg
  have l16 := lt_of_blk hb16
  have l17 := lt_of_blk hb17
  have lbn := lt_of_blk hbn'
  clear hQ h10 h11 h13 hb16 hb17 hBW hbn hbn' hF' hfg hfb hF24 hre ht' hgd hft hnv'
  have K0 : Hid (Kp wr (wr.alloc (.cells (List.replicate 24 (Value.int .u8 0)).toArray 108)) [(wr.heap.size, .cells (List.replicate 24 (Value.int .u8 0)).toArray 108 (0, 0))]) := Lib.hid ((Kp.none wr).alloc _)
  have K1 : Hid (Kp wr ((wr.alloc (.cells (List.replicate 24 (Value.int .u8 0)).toArray 108)).setRow wr.heap.size (t.frame.map (Value.int .u8)).toArray) [(wr.heap.size, .cells (t.frame.map (Value.int .u8)).toArray 108 (0, 0))]) := Lib.hid ((Kp.none wr).stored _ _ 108)
  obtain ⟨n0', n1', n2', n3'⟩ := cells4 BNH.out
  go_upto_region 23 with (first
    | (refine wpList_load_row rfl 108 (.tmp 17) rfl B17 rfl 108 _ (0, 0) _ B17H.out Tryz.underlying108 rfl hi17 ?_)
    | (refine wpList_store_row rfl 108 (.tmp 21) (.tmp 121) rfl wr.heap.size rfl (t.frame.map (Value.int .u8)).toArray rfl 108 (List.replicate 24 (Value.int .u8 0)).toArray (K0.out.2 _ (.head _)) (size24Z t.frame rfl) hi17 (fun v hv => one_byts t.frame v (by simpa using hv)) ?_))
  obtain ⟨W1, hW1⟩ : ∃ W1, (wr.alloc (.cells (List.replicate 24 (Value.int .u8 0)).toArray 108)).setRow wr.heap.size (t.frame.map (Value.int .u8)).toArray = W1 := ⟨_, rfl⟩
  have k1 := K1.out
  rw [hW1] at k1
  simp only [List.replicate] at hW1
  rw [hW1]
  have KA := Lib.hid k1
  clear K0 K1 k1 hW1 n0' n1' n2' n3'
  have hb1 : Below wr.heap.size wr W1 := KA.out.1
  have bn1 := (hb1.block Bn lbn).trans BNH.out
  obtain ⟨n0', n1', n2', n3'⟩ := cells4 bn1
  have c21 : W1.cell? ⟨wr.heap.size, at', none⟩ = some (.int .u8 fb) := by
    rw [cell_of_row _ _ at' _ _ (0, 0) (KA.out.2 _ (.head _))]
    simp [HFG.out]
  have z21 : W1.frozen? ⟨wr.heap.size, at', none⟩ = false := by simp [World.frozen?, KA.out.2 _ (.head _)]
  have hal : (at' : Int) < 24 := by omega
  have hBk : (W1.setCell ⟨wr.heap.size, at', none⟩ (.int .u8 nv)).heap[wr.heap.size]? = some (.cells (F'.map (Value.int .u8)).toArray 108 (0, 0)) := by
    rw [blk_setL (KA.out.2 _ (.head _)) (.int .u8 nv) (by rw [List.length_map]; exact ha24), ← HF.out, List.map_set]
  have HBK := Lib.hid hBk
  have HW2 : Hid (Below wr.heap.size wr (W1.setCell ⟨wr.heap.size, at', none⟩ (.int .u8 nv))) := Lib.hid (hb1.setCell (p := ⟨wr.heap.size, at', none⟩) (Nat.le_refl _) _)
  clear bn1 hBk hb1
  go_upto_region 24 with fail
  go_cut [] from 126 to 139 (fun wc => wc.heap[wr.heap.size]? = some (.cells (F'.map (Value.int .u8)).toArray 108 (0, 0)) ∧ Below wr.heap.size wr wc)
  case first =>
    have d21 : W1.drew.cell? ⟨wr.heap.size, at', none⟩ = some (.int .u8 fb) := c21
    have y21 : W1.drew.frozen? ⟨wr.heap.size, at', none⟩ = false := z21
    have m3 : W1.drew.cell? ⟨Bn, 3, none⟩ = some (.int .u8 n3) := n3'
    refine wp_region_noPanic ?_
    go_region_with fail
    all_goals
      dsimp only [NoPanic]
      try simp only [ws3, hnv2, hnv3, unv, wnv]
      go_wp2_with fail
      go_meet
      exact ⟨HBK.out, HW2.out.drew⟩
  case rest =>
    rename_i hK
    obtain ⟨hb21, hbw⟩ := hcut
    refine hK _ _ ?_
    clear hK
    have B21H := Lib.hid hb21
    have HWC := Lib.hid hbw
    have lbw := hbw.size
    clear hb21 hbw HBK HW2 KA c21 z21 n0' n1' n2' n3'
    have J0 : Hid (∀ w1 : World, Kp w1 (w1.alloc (.cells #[.int .i64 0, .int .i64 0, .int .i64 0, .int .i64 0, .int .i64 0, .int .i64 0] 112)) [(w1.heap.size, .cells #[.int .i64 0, .int .i64 0, .int .i64 0, .int .i64 0, .int .i64 0, .int .i64 0] 112 (0, 0))]) := Lib.hid fun w1 => (Kp.none w1).alloc _
    have J1 : Hid (∀ w1 : World, Kp w1 ((w1.alloc (.cells #[.int .i64 0, .int .i64 0, .int .i64 0, .int .i64 0, .int .i64 0, .int .i64 0] 112)).setRow w1.heap.size #[.int .i64 t'.s, .int .i64 t'.c, .int .i64 t'.o, .int .i64 t'.x, .int .i64 t'.y, .int .i64 t'.z]) [(w1.heap.size, .cells #[.int .i64 t'.s, .int .i64 t'.c, .int .i64 t'.o, .int .i64 t'.x, .int .i64 t'.y, .int .i64 t'.z] 112 (0, 0))]) := Lib.hid fun w1 => (Kp.none w1).stored _ _ 112
    go_upto_if 146 with (first
      | (refine wpList_load_row rfl 108 (.tmp 21) rfl wr.heap.size rfl 108 _ (0, 0) _ B21H.out Tryz.underlying108 rfl hiF ?_)
      | (go_at_call 75; refine (KD.out _).mono ?_; rintro e w5 ⟨rfl, hb5⟩)
      | (refine wpList_store_row rfl 112 (.tmp 23) (.tmp 143) rfl w5.heap.size rfl #[.int .i64 t'.s, .int .i64 t'.c, .int .i64 t'.o, .int .i64 t'.x, .int .i64 t'.y, .int .i64 t'.z] rfl 112 #[.int .i64 0, .int .i64 0, .int .i64 0, .int .i64 0, .int .i64 0, .int .i64 0] ((J0.out w5).2 _ (.head _)) (by rfl) (by kernel_rfl) (by simp [Value.oneCell']) ?_))
    have HWE : Hid (Below wr.heap.size wr ((w5.alloc (.cells #[.int .i64 0, .int .i64 0, .int .i64 0, .int .i64 0, .int .i64 0, .int .i64 0] 112)).setRow w5.heap.size #[.int .i64 t'.s, .int .i64 t'.c, .int .i64 t'.o, .int .i64 t'.x, .int .i64 t'.y, .int .i64 t'.z])) := Lib.hid ((HWC.out.trans (hb5.mono lbw)).trans ((J1.out w5).1.mono (by have := hb5.size; omega)))
    go_cut [] from 121 to 146 (fun wc => Below wr.heap.size wr wc)
    case first =>
      go_wp2_with fail
      go_meet
      exact HWE.out
    case rest =>
      rename_i hK
      have HE := Lib.hid hcut
      clear hcut HWE HWC
      refine hK _ _ ?_
      clear hK
      refine found28 W0 N0 hN0 k i hi8 t L hL S10 S11 g10 n10 c10 g11 n11 c11 hn10 hn11 hg v13 B16 B17 _ Q _ _ _ _ _ _ _ _ _ _ _ _ _ _ _ _ _ _ _ _ _ _ _ _ _ _ _ _ _ _ _ _ _ _ _ _ _ _ _ _ _ _ _ _ _ _ _ _ _ _ _ _ _ _ _ _ _ _ _ _ _ _ _ _ _ _ _ _ _ _ _ _ _ _ _ _ _ _ _ _ _ _ _ _ _ _ _ _ _ _ _ _ _ _ _ _ _ _ _ _ _ _ _ _ _ _ _ _ _ _ _ _ _ _ _ _ _ _ _ _ _ _ _ _ _ _ _ _ _ _ _ _ _ _ _ _ _ _ _ _ _ _ _ _ _ _ _ _ _ _ _ _ _ _ _ _ _ _ _ _ _ _ _ _ _ _ _ _ _ _ _ _ _ _ _ _ _ _ _ _ _ _ _ _ _ _ _ _ _ _ _ _ _ _ _ _ _ _ _ _ _ _ _ _ _ _ _ _ _ _ _ _ _ _ _ _ _ _ _ _ _ _ _ _ _ _ _ _ _ _ _ _ _ _ _ _ _ _ _ _ _ _ _ _ _ _ _ _ _ _ _ _ _ _ _ _ _ _ _ _ _ _ _ (HBW.out.trans (HE.out.mono hNz)) (owns_kept H10.out HE.out (Nat.le_refl _)) (owns_kept H11.out HE.out (Nat.le_refl _)) (owns_kept H13.out HE.out (Nat.le_refl _)) ((HE.out.block B17 l17).trans B17H.out) ((HE.out.block B16 l16).trans B16H.out) ?_
      intro w' g10' c10' g11' c11' v13' v147 v148 v149 v150 v151 v152 v153 v154 v155 v156 v157 v158 v159 q1 q2 q3 q4 q5
      exact HQ.out _ _ _ _ _ _ _ _ _ _ _ _ _ _ _ _ _ _ _ _ _ _ _ _ _ _ _ _ _ _ _ _ _ _ _ _ _ _ _ _ _ _ _ _ _ _ _ _ _ _ q1 q2 q3 q4 q5
end Go.Proofs.YtfdkmmllemkogaaGreatDoor

/-
  LightFound: its round over an order.
-/
namespace Go.Proofs.YtfdkmmllemkogaaGreatDoor
open Go.RowKit Go.Shelf
set_option linter.unusedVariables false
set_option linter.unusedSimpArgs false

set_option maxRecDepth 1000000 in
set_option maxHeartbeats 25600000 in
theorem found16 (W0 : World) (N0 : Nat) (hN0 : N0 = W0.heap.size) (k i : Nat) (hi8 : i < 9) (L : List Tel) (hL : L.length = i) (S10 S11 : List Int) (g10 n10 c10 g11 n11 c11 : Nat) (hn10 : n10 ≤ 1000) (hn11 : n11 ≤ 1000) (hg : g10 ≠ g11) (v13 : Value) (x y z c : Int) (hx : -32768 ≤ x ∧ x ≤ 32767) (hy : -32768 ≤ y ∧ y ≤ 32767) (hz : -32768 ≤ z ∧ z ≤ 32767) (hc : ctr i = c) (n0 n1 n2 n3 : Int) (hn1 : 0 ≤ n1 ∧ n1 ≤ 255) (hn2 : 0 ≤ n2 ∧ n2 ≤ 255) (hn3 : 0 ≤ n3 ∧ n3 ≤ 255) (t : Tel) (ht : t = ⟨n1, c, (i : Nat), x, y, z⟩) (Bn : Nat) (hbn : W0.heap[Bn]? = some (.cells #[.int .u8 n0, .int .u8 n1, .int .u8 n2, .int .u8 n3] 161 (0, 0)))
    (ob oo om oc : Nat) (him : i < om) (hob : ob < N0) (ho0 : W0.cell? ⟨ob, oo + i * 3, none⟩ = some (.int .i16 x)) (ho1 : W0.cell? ⟨ob, oo + i * 3 + 1, none⟩ = some (.int .i16 y)) (ho2 : W0.cell? ⟨ob, oo + i * 3 + 2, none⟩ = some (.int .i16 z)) (wr : World) (Q : Exit → Act → World → Prop) (u0 u1 u2 u3 u4 u6 u7 u8 u9 u14 u15 u16 u17 u18 u19 u20 u21 u22 u23 u24 u25 u26 u27 u28 u29 u30 u31 u32 u33 u34 u35 u36 u37 u38 u39 u40 u41 u42 u43 u44 u45 u46 u47 u48 u49 u50 u51 u52 u53 u54 u55 u56 u57 u58 u59 u60 u61 u62 u63 u64 u65 u66 u67 u68 u69 u70 u71 u72 u73 u74 u76 u78 u79 u80 u81 u82 u83 u84 u85 u86 u87 u88 u89 u90 u91 u92 u93 u94 u95 u96 u97 u98 u99 u100 u101 u102 u103 u104 u105 u106 u107 u108 u109 u110 u111 u112 u113 u114 u115 u116 u117 u118 u119 u120 u121 u122 u123 u124 u125 u126 u127 u128 u129 u130 u131 u132 u133 u134 u135 u136 u137 u138 u139 u140 u141 u142 u143 u144 u145 u146 u147 u148 u149 u150 u151 u152 u153 u154 u155 u156 u157 u158 u159 u160 u161 u162 u163 u164 u165 u166 u167 u168 u169 u170 u171 u172 u173 u174 u175 u176 u177 u178 u179 u180 u181 u182 u183 u184 u185 u186 u187 u188 u189 u190 u191 u192 u193 u194 u195 u196 u197 u198 u199 u200 u201 u202 u203 u204 u205 u206 u207 u208 u209 u210 u211 u212 u213 u214 u215 u216 u217 u218 u219 u220 u221 u222 u223 u224 u225 u226 u227 u228 u229 u230 u231 u232 u233 u234 u235 u236 u237 u238 u239 u240 u241 u242 u243 u244 u245 u246 u247 u248 u249 u250 u251 u252 u253 u254 u255 u256 u257 u258 u259 u260 u261 u262 u263 u264 u265 u266 u267 u268 u269 u270 : Value)
    (hBW : Below N0 W0 wr) (h10 : wr.ownsRow N0 5 1 (.slice (some ⟨g10, 0, none⟩) n10 c10) n10 (S10.map (Value.int .u8))) (h11 : wr.ownsRow N0 5 1 (.slice (some ⟨g11, 0, none⟩) n11 c11) n11 (S11.map (Value.int .u8))) (h13 : wr.ownsRow N0 112 6 v13 i (L.flatMap Tel.val))
    (hQ : ∀ (w' : World) (g10' c10' g11' c11' : Nat) (v13' : Value) (v6 v14 v15 v16 v17 v18 v19 v20 v21 v22 v23 v24 v79 v80 v81 v82 v83 v84 v85 v86 v87 v88 v89 v90 v91 v92 v93 v94 v95 v96 v97 v98 v99 v100 v101 v102 v103 v104 v105 v106 v107 v108 v109 v110 v111 v112 v113 v114 v115 v116 v117 v118 v119 v120 v121 v122 v123 v124 v125 v126 v127 v128 v129 v130 v131 v132 v133 v134 v135 v136 v137 v138 v139 v140 v141 v142 v143 v144 v145 v146 v147 v148 v149 v150 v151 v152 v153 v154 v155 v156 v157 v158 v159 : Value), Below N0 W0 w' → g10' ≠ g11' → w'.ownsRow N0 5 1 (.slice (some ⟨g10', 0, none⟩) (n10 + 24) c10') (n10 + 24) ((S10 ++ t.frame).map (Value.int .u8)) → w'.ownsRow N0 5 1 (.slice (some ⟨g11', 0, none⟩) (n11 + (if i = k then 0 else 24)) c11') (n11 + (if i = k then 0 else 24)) ((S11 ++ (if i = k then [] else t.frame)).map (Value.int .u8)) → w'.ownsRow N0 112 6 v13' (i + 1) ((L ++ [t]).flatMap Tel.val) → Q .normal ⟨#[u0, u1, u2, u3, u4, .pointer (some ⟨Bn, 0, none⟩), v6, u7, u8, u9, .slice (some ⟨g10', 0, none⟩) (n10 + 24) c10', .slice (some ⟨g11', 0, none⟩) (n11 + (if i = k then 0 else 24)) c11', .int .i64 (k : Nat), v13', v14, v15, v16, v17, v18, v19, v20, v21, v22, v23, v24, u25, u26, u27, u28, u29, u30, u31, u32, u33, u34, u35, u36, u37, u38, u39, u40, u41, u42, u43, u44, u45, u46, u47, u48, u49, u50, u51, u52, u53, u54, u55, u56, u57, u58, u59, u60, u61, u62, u63, u64, u65, u66, u67, u68, u69, u70, u71, u72, u73, u74, .slice (some ⟨ob, oo, none⟩) om oc, u76, .int .i64 (i : Nat), u78, v79, v80, v81, v82, v83, v84, v85, v86, v87, v88, v89, v90, v91, v92, v93, v94, v95, v96, v97, v98, v99, v100, v101, v102, v103, v104, v105, v106, v107, v108, v109, v110, v111, v112, v113, v114, v115, v116, v117, v118, v119, v120, v121, v122, v123, v124, v125, v126, v127, v128, v129, v130, v131, v132, v133, v134, v135, v136, v137, v138, v139, v140, v141, v142, v143, v144, v145, v146, v147, v148, v149, v150, v151, v152, v153, v154, v155, v156, v157, v158, v159, u160, u161, u162, u163, u164, u165, u166, u167, u168, u169, u170, u171, u172, u173, u174, u175, u176, u177, u178, u179, u180, u181, u182, u183, u184, u185, u186, u187, u188, u189, u190, u191, u192, u193, u194, u195, u196, u197, u198, u199, u200, u201, u202, u203, u204, u205, u206, u207, u208, u209, u210, u211, u212, u213, u214, u215, u216, u217, u218, u219, u220, u221, u222, u223, u224, u225, u226, u227, u228, u229, u230, u231, u232, u233, u234, u235, u236, u237, u238, u239, u240, u241, u242, u243, u244, u245, u246, u247, u248, u249, u250, u251, u252, u253, u254, u255, u256, u257, u258, u259, u260, u261, u262, u263, u264, u265, u266, u267, u268, u269, u270], []⟩ w') :
    Code.wp Tryz.prog (cutF 16) Q ⟨#[u0, u1, u2, u3, u4, .pointer (some ⟨Bn, 0, none⟩), u6, u7, u8, u9, .slice (some ⟨g10, 0, none⟩) n10 c10, .slice (some ⟨g11, 0, none⟩) n11 c11, .int .i64 (k : Nat), v13, u14, u15, u16, u17, u18, u19, u20, u21, u22, u23, u24, u25, u26, u27, u28, u29, u30, u31, u32, u33, u34, u35, u36, u37, u38, u39, u40, u41, u42, u43, u44, u45, u46, u47, u48, u49, u50, u51, u52, u53, u54, u55, u56, u57, u58, u59, u60, u61, u62, u63, u64, u65, u66, u67, u68, u69, u70, u71, u72, u73, u74, .slice (some ⟨ob, oo, none⟩) om oc, u76, .int .i64 (i : Nat), u78, u79, u80, u81, u82, u83, u84, u85, u86, u87, u88, u89, u90, u91, u92, u93, u94, u95, u96, u97, u98, u99, u100, u101, u102, u103, u104, u105, u106, u107, u108, u109, u110, u111, u112, u113, u114, u115, u116, u117, u118, u119, u120, u121, u122, u123, u124, u125, u126, u127, u128, u129, u130, u131, u132, u133, u134, u135, u136, u137, u138, u139, u140, u141, u142, u143, u144, u145, u146, u147, u148, u149, u150, u151, u152, u153, u154, u155, u156, u157, u158, u159, u160, u161, u162, u163, u164, u165, u166, u167, u168, u169, u170, u171, u172, u173, u174, u175, u176, u177, u178, u179, u180, u181, u182, u183, u184, u185, u186, u187, u188, u189, u190, u191, u192, u193, u194, u195, u196, u197, u198, u199, u200, u201, u202, u203, u204, u205, u206, u207, u208, u209, u210, u211, u212, u213, u214, u215, u216, u217, u218, u219, u220, u221, u222, u223, u224, u225, u226, u227, u228, u229, u230, u231, u232, u233, u234, u235, u236, u237, u238, u239, u240, u241, u242, u243, u244, u245, u246, u247, u248, u249, u250, u251, u252, u253, u254, u255, u256, u257, u258, u259, u260, u261, u262, u263, u264, u265, u266, u267, u268, u269, u270], []⟩ wr := by
  conv => arg 2; whnf
  dsimp only
  have lBn : Bn < N0 := by rw [hN0]; exact lt_of_blk hbn
  have hNz : N0 ≤ wr.heap.size := by rw [hN0]; exact hBW.size
  have hbn' := (hBW.block Bn lBn).trans hbn
  have o0 : wr.cell? ⟨ob, oo + i * 3, none⟩ = some (.int .i16 x) := (hBW.cell (p := ⟨ob, oo + i * 3, none⟩) hob).trans ho0
  have o1 : wr.cell? ⟨ob, oo + i * 3 + 1, none⟩ = some (.int .i16 y) := (hBW.cell (p := ⟨ob, oo + i * 3 + 1, none⟩) hob).trans ho1
  have o2 : wr.cell? ⟨ob, oo + i * 3 + 2, none⟩ = some (.int .i16 z) := (hBW.cell (p := ⟨ob, oo + i * 3 + 2, none⟩) hob).trans ho2
  have hcb : 0 ≤ c ∧ c ≤ 65535 := by rw [← hc]; unfold ctr; omega
  have hcv : c = ((65530 : Int) + (i : Int)) % 65536 := by rw [← hc]; rfl
  have wi0 : IntKind.i64.wrap (65530 + (i : Int)) = 65530 + (i : Int) := IntWalk.i64_in _ ⟨by omega, by omega⟩
  have hc1 : ((65530 : Int) + (i : Int)).tmod 65536 = c := by rw [Int.tmod_eq_emod_of_nonneg (by omega), hcv]
  have hc2 : ((65530 : Int) + (i : Int)) % 65536 = c := hcv.symm
  have wc' : IntKind.i64.wrap c = c := IntWalk.i64_in _ ⟨by omega, by omega⟩
  have wn1 : IntKind.i64.wrap n1 = n1 := IntWalk.i64_in _ ⟨by omega, by omega⟩
  have wx' : IntKind.i64.wrap x = x := IntWalk.i64_in _ ⟨by omega, by omega⟩
  have wy' : IntKind.i64.wrap y = y := IntWalk.i64_in _ ⟨by omega, by omega⟩
  have wz' : IntKind.i64.wrap z = z := IntWalk.i64_in _ ⟨by omega, by omega⟩
  have hgd : GoodT n1 c (i : Nat) x y z := by constructor <;> (try omega)
  have hft : FitT n1 c (i : Nat) x y z := by constructor <;> (try omega)
  have himI : (i : Int) < (om : Int) := by omega
  have KE : Hid (∀ w1 : World, Calls Tryz.prog 74 #[.agg #[.int .i64 n1, .int .i64 c, .int .i64 (i : Nat), .int .i64 x, .int .i64 y, .int .i64 z]] w1 fun e w' => e = .returned (.tuple #[.agg ((frame n1 c (i : Nat) x y z).map (Value.int .u8)).toArray, .int .i64 0]) ∧ Below w1.heap.size w1 w') := Lib.hid fun w1 => encode_any n1 c (i : Nat) x y z hgd w1
  have KD : Hid (∀ w1 : World, Calls Tryz.prog 75 #[.agg ((frame n1 c (i : Nat) x y z).map (Value.int .u8)).toArray] w1 fun e w' => e = .returned (.tuple #[.agg #[.int .i64 n1, .int .i64 c, .int .i64 (i : Nat), .int .i64 x, .int .i64 y, .int .i64 z], .int .i64 0]) ∧ Below w1.heap.size w1 w') := Lib.hid fun w1 => decode_any n1 c (i : Nat) x y z hgd w1
  have HGD := Lib.hid hgd
  have HFT := Lib.hid hft
  have hiF : (Tryz.prog.info? 108).map (·.size) = some ((frame n1 c (i : Nat) x y z).map (Value.int .u8)).toArray.size := hif24 (frame n1 c (i : Nat) x y z) rfl
  have hzF : (List.replicate 24 (Value.int .u8 0)).toArray.size = ((frame n1 c (i : Nat) x y z).map (Value.int .u8)).toArray.size := size24Z (frame n1 c (i : Nat) x y z) rfl
  have hoF : ∀ v ∈ ((frame n1 c (i : Nat) x y z).map (Value.int .u8)).toArray.toList, v.oneCell' = true := fun v hv => one_byts (frame n1 c (i : Nat) x y z) v (by simpa using hv)
  have HOF := Lib.hid hoF
  obtain ⟨FA, hFA⟩ : ∃ FA, ((frame n1 c (i : Nat) x y z).map (Value.int .u8)).toArray = FA := ⟨_, rfl⟩
  rw [hFA] at KE KD hiF hzF HOF
  have HFA := Lib.hid hFA
  have HQ := Lib.hid hQ
  have H10 := Lib.hid h10
  have H11 := Lib.hid h11
  have H13 := Lib.hid h13
  have HBW := Lib.hid hBW
  have BNH := Lib.hid hbn'
  have HBN := Lib.hid hbn
  have HT := Lib.hid ht
  have HN := Lib.hid (And.intro hn2 hn3)
  have lbn := lt_of_blk hbn'
  clear hQ h10 h11 h13 hBW hbn hbn' ht hn2 hn3 hoF hFA hcv hc hgd hft ho0 ho1 ho2
  have K0 : Hid (Kp wr (wr.alloc (.cells #[.int .i16 0, .int .i16 0, .int .i16 0] 163)) [(wr.heap.size, .cells #[.int .i16 0, .int .i16 0, .int .i16 0] 163 (0, 0))]) := Lib.hid ((Kp.none wr).alloc _)
  have K1 : Hid (Kp wr ((wr.alloc (.cells #[.int .i16 0, .int .i16 0, .int .i16 0] 163)).setRow wr.heap.size #[.int .i16 x, .int .i16 y, .int .i16 z]) [(wr.heap.size, .cells #[.int .i16 x, .int .i16 y, .int .i16 z] 163 (0, 0))]) := Lib.hid ((Kp.none wr).stored _ _ 163)
  go_upto_region 17 with (refine wpList_store_row rfl 163 (.tmp 15) (.tmp 81) rfl wr.heap.size rfl #[.int .i16 x, .int .i16 y, .int .i16 z] rfl 163 #[.int .i16 0, .int .i16 0, .int .i16 0] (K0.out.2 _ (.head _)) (by rfl) (by kernel_rfl) (by simp [Value.oneCell']) ?_)
  obtain ⟨W1, hW1⟩ : ∃ W1, (wr.alloc (.cells #[.int .i16 0, .int .i16 0, .int .i16 0] 163)).setRow wr.heap.size #[.int .i16 x, .int .i16 y, .int .i16 z] = W1 := ⟨_, rfl⟩
  have k1 := K1.out
  rw [hW1] at k1 ⊢
  clear K0 K1 hW1 o0 o1 o2
  have bn1 := (k1.1.block Bn lbn).trans BNH.out
  obtain ⟨n0', n1', n2', n3'⟩ := cells4 bn1
  obtain ⟨x0, x1, x2⟩ := cells3 (k1.2 _ (.head _))
  have KA := Lib.hid k1
  have K0 : Hid (Kp wr (W1.alloc (.cells #[.int .i64 0, .int .i64 0, .int .i64 0, .int .i64 0, .int .i64 0, .int .i64 0] 112)) ((W1.heap.size, .cells #[.int .i64 0, .int .i64 0, .int .i64 0, .int .i64 0, .int .i64 0, .int .i64 0] 112 (0, 0)) :: [(wr.heap.size, .cells #[.int .i16 x, .int .i16 y, .int .i16 z] 163 (0, 0))])) := Lib.hid (k1.alloc _)
  have K1 : Hid (Kp wr ((W1.alloc (.cells #[.int .i64 0, .int .i64 0, .int .i64 0, .int .i64 0, .int .i64 0, .int .i64 0] 112)).setRow W1.heap.size #[.int .i64 n1, .int .i64 c, .int .i64 (i : Nat), .int .i64 x, .int .i64 y, .int .i64 z]) ((W1.heap.size, .cells #[.int .i64 n1, .int .i64 c, .int .i64 (i : Nat), .int .i64 x, .int .i64 y, .int .i64 z] 112 (0, 0)) :: [(wr.heap.size, .cells #[.int .i16 x, .int .i16 y, .int .i16 z] 163 (0, 0))])) := Lib.hid (k1.stored _ _ 112)
  clear k1 bn1
  go_upto_region 18 with (refine wpList_store_row rfl 112 (.tmp 16) (.tmp 99) rfl W1.heap.size rfl #[.int .i64 n1, .int .i64 c, .int .i64 (i : Nat), .int .i64 x, .int .i64 y, .int .i64 z] rfl 112 #[.int .i64 0, .int .i64 0, .int .i64 0, .int .i64 0, .int .i64 0, .int .i64 0] (K0.out.2 _ (.head _)) (by rfl) (by kernel_rfl) (by simp [Value.oneCell']) ?_)
  obtain ⟨W2, hW2⟩ : ∃ W2, (W1.alloc (.cells #[.int .i64 0, .int .i64 0, .int .i64 0, .int .i64 0, .int .i64 0, .int .i64 0] 112)).setRow W1.heap.size #[.int .i64 n1, .int .i64 c, .int .i64 (i : Nat), .int .i64 x, .int .i64 y, .int .i64 z] = W2 := ⟨_, rfl⟩
  have k2 := K1.out
  rw [hW2] at k2 ⊢
  obtain ⟨B16, hB16⟩ : ∃ B, W1.heap.size = B := ⟨_, rfl⟩
  rw [hB16] at k2 ⊢
  have K2 := Lib.hid (k2.subs (m := [(B16, .cells #[.int .i64 n1, .int .i64 c, .int .i64 (i : Nat), .int .i64 x, .int .i64 y, .int .i64 z] 112 (0, 0))]) fun p hp => by
    rcases List.mem_cons.1 hp with rfl | hp
    · exact .head _
    · nomatch hp)
  clear K0 K1 KA k2 hW2 hB16 n0' n1' n2' n3' x0 x1 x2
  go_upto_region 19 with (first
    | (refine wpList_load_row rfl 112 (.tmp 16) rfl B16 rfl 112 _ (0, 0) _ (K2.out.2 _ (.head _)) Tryz.underlying112 rfl (by kernel_rfl) ?_)
    | (go_at_call 74; refine (KE.out _).mono ?_; rintro e w3 ⟨rfl, hb3⟩;
       have K3 := Lib.hid ((K2.out.call hb3).alloc (.cells (List.replicate 24 (Value.int .u8 0)).toArray 108));
       have K4 := Lib.hid ((K2.out.call hb3).stored (List.replicate 24 (Value.int .u8 0)).toArray FA 108); clear hb3)
    | (refine wpList_store_row rfl 108 (.tmp 17) (.tmp 103) rfl w3.heap.size rfl FA rfl 108 (List.replicate 24 (Value.int .u8 0)).toArray (K3.out.2 _ (.head _)) hzF hiF (fun v hv => HOF.out v hv) ?_))
  obtain ⟨W4, hW4⟩ : ∃ W4, (w3.alloc (.cells (List.replicate 24 (Value.int .u8 0)).toArray 108)).setRow w3.heap.size FA = W4 := ⟨_, rfl⟩
  have k4 := K4.out
  rw [hW4] at k4
  simp only [List.replicate] at hW4
  rw [hW4]
  obtain ⟨B17, hB17⟩ : ∃ B, w3.heap.size = B := ⟨_, rfl⟩
  rw [hB17] at k4 ⊢
  have KX := Lib.hid k4
  clear K2 K3 K4 k4 hW4 hB17
  go_upto_region 20 with (first
    | (refine wpList_load_row rfl 108 (.tmp 17) rfl B17 rfl 108 _ (0, 0) _ (KX.out.2 _ (.head _)) Tryz.underlying108 rfl hiF ?_)
    | (go_at_call 75; refine (KD.out _).mono ?_; rintro e w5 ⟨rfl, hb5⟩;
       have K5 := Lib.hid ((KX.out.call hb5).alloc (.cells #[.int .i64 0, .int .i64 0, .int .i64 0, .int .i64 0, .int .i64 0, .int .i64 0] 112));
       have K6 := Lib.hid ((KX.out.call hb5).stored #[.int .i64 0, .int .i64 0, .int .i64 0, .int .i64 0, .int .i64 0, .int .i64 0] #[.int .i64 n1, .int .i64 c, .int .i64 (i : Nat), .int .i64 x, .int .i64 y, .int .i64 z] 112); clear hb5)
    | (refine wpList_store_row rfl 112 (.tmp 19) (.tmp 108) rfl w5.heap.size rfl #[.int .i64 n1, .int .i64 c, .int .i64 (i : Nat), .int .i64 x, .int .i64 y, .int .i64 z] rfl 112 #[.int .i64 0, .int .i64 0, .int .i64 0, .int .i64 0, .int .i64 0, .int .i64 0] (K5.out.2 _ (.head _)) (by rfl) (by kernel_rfl) (by simp [Value.oneCell']) ?_))
  obtain ⟨W6, hW6⟩ : ∃ W6, (w5.alloc (.cells #[.int .i64 0, .int .i64 0, .int .i64 0, .int .i64 0, .int .i64 0, .int .i64 0] 112)).setRow w5.heap.size #[.int .i64 n1, .int .i64 c, .int .i64 (i : Nat), .int .i64 x, .int .i64 y, .int .i64 z] = W6 := ⟨_, rfl⟩
  have k6 := K6.out
  rw [hW6] at k6 ⊢
  obtain ⟨B19, hB19⟩ : ∃ B, w5.heap.size = B := ⟨_, rfl⟩
  rw [hB19] at k6 ⊢
  have K7 := Lib.hid k6
  clear K5 K6 KX hW6 hB19 k6
  have e0 : W6.cell? ⟨B19, 0, none⟩ = some (.int .i64 n1) := by rw [cell_of_row _ _ 0 _ _ (0, 0) (K7.out.2 _ (.head _))]; rfl
  have e1 : W6.cell? ⟨B19, 1, none⟩ = some (.int .i64 c) := by rw [cell_of_row _ _ 1 _ _ (0, 0) (K7.out.2 _ (.head _))]; rfl
  have e2 : W6.cell? ⟨B19, 2, none⟩ = some (.int .i64 (i : Nat)) := by rw [cell_of_row _ _ 2 _ _ (0, 0) (K7.out.2 _ (.head _))]; rfl
  have e3 : W6.cell? ⟨B19, 3, none⟩ = some (.int .i64 x) := by rw [cell_of_row _ _ 3 _ _ (0, 0) (K7.out.2 _ (.head _))]; rfl
  have e4 : W6.cell? ⟨B19, 4, none⟩ = some (.int .i64 y) := by rw [cell_of_row _ _ 4 _ _ (0, 0) (K7.out.2 _ (.head _))]; rfl
  have e5 : W6.cell? ⟨B19, 5, none⟩ = some (.int .i64 z) := by rw [cell_of_row _ _ 5 _ _ (0, 0) (K7.out.2 _ (.head _))]; rfl
  have f0 : W6.cell? ⟨B16, 0, none⟩ = some (.int .i64 n1) := by rw [cell_of_row _ _ 0 _ _ (0, 0) (K7.out.2 _ (.tail _ (.tail _ (.head _))))]; rfl
  have f1 : W6.cell? ⟨B16, 1, none⟩ = some (.int .i64 c) := by rw [cell_of_row _ _ 1 _ _ (0, 0) (K7.out.2 _ (.tail _ (.tail _ (.head _))))]; rfl
  have f2 : W6.cell? ⟨B16, 2, none⟩ = some (.int .i64 (i : Nat)) := by rw [cell_of_row _ _ 2 _ _ (0, 0) (K7.out.2 _ (.tail _ (.tail _ (.head _))))]; rfl
  have f3 : W6.cell? ⟨B16, 3, none⟩ = some (.int .i64 x) := by rw [cell_of_row _ _ 3 _ _ (0, 0) (K7.out.2 _ (.tail _ (.tail _ (.head _))))]; rfl
  have f4 : W6.cell? ⟨B16, 4, none⟩ = some (.int .i64 y) := by rw [cell_of_row _ _ 4 _ _ (0, 0) (K7.out.2 _ (.tail _ (.tail _ (.head _))))]; rfl
  have f5 : W6.cell? ⟨B16, 5, none⟩ = some (.int .i64 z) := by rw [cell_of_row _ _ 5 _ _ (0, 0) (K7.out.2 _ (.tail _ (.tail _ (.head _))))]; rfl
  go_upto_if 120 with fail
  clear e0 e1 e2 e3 e4 e5 f0 f1 f2 f3 f4 f5
  go_cut [] from 79 to 120 (fun wc => Kp wr wc [(B19, .cells #[.int .i64 n1, .int .i64 c, .int .i64 (i : Nat), .int .i64 x, .int .i64 y, .int .i64 z] 112 (0, 0)), (B17, .cells FA 108 (0, 0)), (B16, .cells #[.int .i64 n1, .int .i64 c, .int .i64 (i : Nat), .int .i64 x, .int .i64 y, .int .i64 z] 112 (0, 0))])
  case first =>
    go_wp2_with fail
    go_meet
    exact K7.out
  case rest =>
    rename_i hK
    have K8 := Lib.hid hcut
    clear hcut K7 KE KD
    refine hK _ _ ?_
    clear hK
    have hE := K8.out.1
    have e17 := K8.out.2 _ (.tail _ (.head _))
    have e16 := K8.out.2 _ (.tail _ (.tail _ (.head _)))
    dsimp only at e17 e16
    rw [← HFA.out] at e17
    refine found22 W0 N0 hN0 k i hi8 ⟨n1, c, (i : Nat), x, y, z⟩ L hL S10 S11 g10 n10 c10 g11 n11 c11 hn10 hn11 hg v13 HGD.out HFT.out n0 n1 n2 n3 HN.out.1 HN.out.2 Bn HBN.out B16 B17 _ Q _ _ _ _ _ _ _ _ _ _ _ _ _ _ _ _ _ _ _ _ _ _ _ _ _ _ _ _ _ _ _ _ _ _ _ _ _ _ _ _ _ _ _ _ _ _ _ _ _ _ _ _ _ _ _ _ _ _ _ _ _ _ _ _ _ _ _ _ _ _ _ _ _ _ _ _ _ _ _ _ _ _ _ _ _ _ _ _ _ _ _ _ _ _ _ _ _ _ _ _ _ _ _ _ _ _ _ _ _ _ _ _ _ _ _ _ _ _ _ _ _ _ _ _ _ _ _ _ _ _ _ _ _ _ _ _ _ _ _ _ _ _ _ _ _ _ _ _ _ _ _ _ _ _ _ _ _ _ _ _ _ _ _ _ _ _ _ _ _ _ _ _ _ _ _ _ _ _ _ _ _ _ _ _ _ _ _ _ _ _ _ _ _ _ _ _ _ _ _ _ _ _ _ _ _ _ _ _ _ _ _ _ _ _ _ _ _ _ _ _ _ _ _ _ _ _ _ _ _ _ _ _ _ _ _ _ _ _ _ _ _ _ _ _ _ _ _ _ _ _ _ _ _ _ _ _ _ _ _ _ _ _ (HBW.out.trans (hE.mono hNz)) (owns_kept H10.out hE (Nat.le_refl _)) (owns_kept H11.out hE (Nat.le_refl _)) (owns_kept H13.out hE (Nat.le_refl _)) e17 e16 ?_
    intro w' g10' c10' g11' c11' v13' v6 v21 v22 v23 v24 v121 v122 v123 v124 v125 v126 v127 v128 v129 v130 v131 v132 v133 v134 v135 v136 v137 v138 v139 v140 v141 v142 v143 v144 v145 v146 v147 v148 v149 v150 v151 v152 v153 v154 v155 v156 v157 v158 v159 q1 q2 q3 q4 q5
    have hh := HT.out
    rw [← hh] at q3 q4 q5
    exact HQ.out _ _ _ _ _ _ _ _ _ _ _ _ _ _ _ _ _ _ _ _ _ _ _ _ _ _ _ _ _ _ _ _ _ _ _ _ _ _ _ _ _ _ _ _ _ _ _ _ _ _ _ _ _ _ _ _ _ _ _ _ _ _ _ _ _ _ _ _ _ _ _ _ _ _ _ _ _ _ _ _ _ _ _ _ _ _ _ _ _ _ _ _ _ _ _ _ _ _ _ q1 q2 q3 q4 q5
end Go.Proofs.YtfdkmmllemkogaaGreatDoor

/-
  LightFound: its loop over the orders, and what lies ahead of it.
-/
namespace Go.Proofs.YtfdkmmllemkogaaGreatDoor
open Go.RowKit Go.Shelf
set_option linter.unusedVariables false
set_option linter.unusedSimpArgs false

/-- The telegrams of the orders. -/
def ordT (n1 : Int) (ox oy oz : Nat → Int) (i : Nat) : Tel := ⟨n1, ctr i, (i : Nat), ox i, oy i, oz i⟩
def ordL (n1 : Int) (ox oy oz : Nat → Int) (m : Nat) : List Tel := (List.range m).map (ordT n1 ox oy oz)
theorem ordL_get {n1 : Int} {ox oy oz : Nat → Int} {m i : Nat} (h : i < m) : (ordL n1 ox oy oz m)[i]?.getD tel0 = ordT n1 ox oy oz i := by
  unfold ordL; rw [List.getElem?_map, List.getElem?_range h]; rfl
theorem ordL_sent {n1 : Int} {ox oy oz : Nat → Int} {m : Nat} (hm : m < 9) (hn1 : 0 ≤ n1 ∧ n1 ≤ 255) (hor : ∀ i, i < m → (-32768 ≤ ox i ∧ ox i ≤ 32767) ∧ (-32768 ≤ oy i ∧ oy i ≤ 32767) ∧ (-32768 ≤ oz i ∧ oz i ≤ 32767)) : SentL m n1 (ordL n1 ox oy oz m) := by
  refine ⟨by simp [ordL], fun t ht => ?_, fun t ht => ?_, fun i hi => by rw [ordL_get hi]; rfl⟩
  · obtain ⟨i, hi, rfl⟩ := List.mem_map.1 ht
    have him := List.mem_range.1 hi
    have h := hor i him
    have hc : 0 ≤ ctr i ∧ ctr i ≤ 65535 := by unfold ctr; omega
    unfold Tel.Good ordT
    constructor <;> dsimp only <;> omega
  · obtain ⟨i, _, rfl⟩ := List.mem_map.1 ht
    rfl
theorem ordL_take {n1 : Int} {ox oy oz : Nat → Int} {m i : Nat} (h : i < m) : (ordL n1 ox oy oz m).take (i + 1) = (ordL n1 ox oy oz m).take i ++ [ordT n1 ox oy oz i] := by
  rw [List.take_add_one]
  congr 1
  unfold ordL
  rw [List.getElem?_map, List.getElem?_range h]; rfl
theorem cutL_succ {n1 : Int} {ox oy oz : Nat → Int} {m k i : Nat} (h : i < m) : cutL (i + 1) k (ordL n1 ox oy oz m) = cutL i k (ordL n1 ox oy oz m) ++ (if i = k then [] else [ordT n1 ox oy oz i]) := by
  unfold cutL
  rw [keptI_succ, List.map_append]
  congr 1
  by_cases e : i = k
  · rw [if_neg (by simpa using e), if_pos e]; rfl
  · rw [if_pos e, if_neg e, List.map_cons, List.map_nil, ordL_get h]
theorem joined_app (a b : List Tel) : joined (a ++ b) = joined a ++ joined b := by unfold joined; rw [List.flatMap_append]
theorem joined_one (t : Tel) : joined [t] = t.frame := by simp [joined]
theorem joined_in {ts : List Tel} (hg : ∀ t ∈ ts, t.Good) : ∀ v ∈ joined ts, 0 ≤ v ∧ v ≤ 255 := by
  intro v hv
  obtain ⟨t, ht, h⟩ := List.mem_flatMap.1 hv
  exact (frame24 t (hg t ht)).2 v h

set_option maxRecDepth 1000000 in
set_option maxHeartbeats 25600000 in
theorem found14 (w W0 : World) (N0 : Nat) (hN0 : N0 = W0.heap.size) (hwW : Below w.heap.size w W0) (ht : TabAt w) (m : Nat) (hm1 : 1 ≤ m) (hm : m < 9) (ox oy oz : Nat → Int) (ob oo oc : Nat) (hob : ob < N0) (hor : ∀ i, i < m → ((-32768 ≤ ox i ∧ ox i ≤ 32767) ∧ (-32768 ≤ oy i ∧ oy i ≤ 32767) ∧ (-32768 ≤ oz i ∧ oz i ≤ 32767)) ∧ W0.cell? ⟨ob, oo + i * 3, none⟩ = some (.int .i16 (ox i)) ∧ W0.cell? ⟨ob, oo + i * 3 + 1, none⟩ = some (.int .i16 (oy i)) ∧ W0.cell? ⟨ob, oo + i * 3 + 2, none⟩ = some (.int .i16 (oz i)))
    (n0 n1 n2 n3 : Int) (hn0 : 0 ≤ n0 ∧ n0 ≤ 255) (hn1 : 0 ≤ n1 ∧ n1 ≤ 255) (hn2 : 0 ≤ n2 ∧ n2 ≤ 255) (hn3 : 0 ≤ n3 ∧ n3 ≤ 255) (Bn : Nat) (hwn : w.heap.size ≤ Bn) (hbn : W0.heap[Bn]? = some (.cells #[.int .u8 n0, .int .u8 n1, .int .u8 n2, .int .u8 n3] 161 (0, 0))) (Bs : List Int) (hB : ∀ v ∈ Bs, v ≠ 77 ∧ 0 ≤ v ∧ v ≤ 255) (nb : Nat) (hnb : Bs.length = nb) (hB20 : nb ≤ 20) (a7 : Option Addr) (c7 : Nat) (k : Nat) (hk : k < m) (g10 c10 g11 c11 : Nat) (hg : g10 ≠ g11) (wr : World) (u1 u2 u3 u4 u6 u8 u9 u14 u15 u16 u17 u18 u19 u20 u21 u22 u23 u24 u25 u26 u27 u28 u29 u30 u31 u32 u33 u34 u35 u36 u37 u38 u39 u40 u41 u42 u43 u44 u45 u46 u47 u48 u49 u50 u51 u52 u53 u54 u55 u56 u57 u58 u59 u60 u61 u62 u63 u64 u65 u66 u67 u68 u69 u70 u71 u72 u73 u74 u75 u76 u77 u78 u79 u80 u81 u82 u83 u84 u85 u86 u87 u88 u89 u90 u91 u92 u93 u94 u95 u96 u97 u98 u99 u100 u101 u102 u103 u104 u105 u106 u107 u108 u109 u110 u111 u112 u113 u114 u115 u116 u117 u118 u119 u120 u121 u122 u123 u124 u125 u126 u127 u128 u129 u130 u131 u132 u133 u134 u135 u136 u137 u138 u139 u140 u141 u142 u143 u144 u145 u146 u147 u148 u149 u150 u151 u152 u153 u154 u155 u156 u157 u158 u159 u160 u161 u162 u163 u164 u165 u166 u167 u168 u169 u170 u171 u172 u173 u174 u175 u176 u177 u178 u179 u180 u181 u182 u183 u184 u185 u186 u187 u188 u189 u190 u191 u192 u193 u194 u195 u196 u197 u198 u199 u200 u201 u202 u203 u204 u205 u206 u207 u208 u209 u210 u211 u212 u213 u214 u215 u216 u217 u218 u219 u220 u221 u222 u223 u224 u225 u226 u227 u228 u229 u230 u231 u232 u233 u234 u235 u236 u237 u238 u239 u240 u241 u242 u243 u244 u245 u246 u247 u248 u249 u250 u251 u252 u253 u254 u255 u256 u257 u258 u259 u260 u261 u262 u263 u264 u265 u266 u267 u268 u269 u270 : Value)
    (hBW : Below N0 W0 wr) (h10 : wr.ownsRow N0 5 1 (.slice (some ⟨g10, 0, none⟩) nb c10) nb ((Bs).map (Value.int .u8))) (h11 : wr.ownsRow N0 5 1 (.slice (some ⟨g11, 0, none⟩) nb c11) nb ((Bs).map (Value.int .u8))) :
    Code.wp Tryz.prog (cutF 14) (bodyPost Tryz.prog Tryz.f16 (TruePost w)) ⟨#[.slice (some ⟨ob, oo, none⟩) m oc, u1, u2, u3, u4, .pointer (some ⟨Bn, 0, none⟩), u6, .slice a7 nb c7, u8, u9, .slice (some ⟨g10, 0, none⟩) nb c10, .slice (some ⟨g11, 0, none⟩) nb c11, .int .i64 (k : Nat), .slice none 0 0, u14, u15, u16, u17, u18, u19, u20, u21, u22, u23, u24, u25, u26, u27, u28, u29, u30, u31, u32, u33, u34, u35, u36, u37, u38, u39, u40, u41, u42, u43, u44, u45, u46, u47, u48, u49, u50, u51, u52, u53, u54, u55, u56, u57, u58, u59, u60, u61, u62, u63, u64, u65, u66, u67, u68, u69, u70, u71, u72, u73, u74, u75, u76, u77, u78, u79, u80, u81, u82, u83, u84, u85, u86, u87, u88, u89, u90, u91, u92, u93, u94, u95, u96, u97, u98, u99, u100, u101, u102, u103, u104, u105, u106, u107, u108, u109, u110, u111, u112, u113, u114, u115, u116, u117, u118, u119, u120, u121, u122, u123, u124, u125, u126, u127, u128, u129, u130, u131, u132, u133, u134, u135, u136, u137, u138, u139, u140, u141, u142, u143, u144, u145, u146, u147, u148, u149, u150, u151, u152, u153, u154, u155, u156, u157, u158, u159, u160, u161, u162, u163, u164, u165, u166, u167, u168, u169, u170, u171, u172, u173, u174, u175, u176, u177, u178, u179, u180, u181, u182, u183, u184, u185, u186, u187, u188, u189, u190, u191, u192, u193, u194, u195, u196, u197, u198, u199, u200, u201, u202, u203, u204, u205, u206, u207, u208, u209, u210, u211, u212, u213, u214, u215, u216, u217, u218, u219, u220, u221, u222, u223, u224, u225, u226, u227, u228, u229, u230, u231, u232, u233, u234, u235, u236, u237, u238, u239, u240, u241, u242, u243, u244, u245, u246, u247, u248, u249, u250, u251, u252, u253, u254, u255, u256, u257, u258, u259, u260, u261, u262, u263, u264, u265, u266, u267, u268, u269, u270], []⟩ wr := by
  conv => arg 2; whnf
  dsimp only
  obtain ⟨ts, hts⟩ : ∃ ts, ordL n1 ox oy oz m = ts := ⟨_, rfl⟩
  have hS : SentL m n1 ts := by rw [← hts]; exact ordL_sent hm hn1 (fun i hi => (hor i hi).1)
  have HBW := Lib.hid hBW
  have H10 := Lib.hid h10
  have H11 := Lib.hid h11
  have HS := Lib.hid hS
  have HOR := Lib.hid hor
  have HTS := Lib.hid hts
  clear hBW h10 h11 hS hor hts
  go_upto_block 2 with fail
  go_cut [10, 11, 13] from 14 to 160 (fun s10 s11 s13 wc => ∃ (g10 n10 c10 g11 n11 c11 g13 c13 : Nat), s10 = .slice (some ⟨g10, 0, none⟩) n10 c10 ∧ s11 = .slice (some ⟨g11, 0, none⟩) n11 c11 ∧ s13 = .slice (some ⟨g13, 0, none⟩) m c13 ∧ wc.ownsRow N0 5 1 (.slice (some ⟨g10, 0, none⟩) n10 c10) n10 ((Bs ++ joined ts).map (Value.int .u8)) ∧ wc.ownsRow N0 5 1 (.slice (some ⟨g11, 0, none⟩) n11 c11) n11 ((Bs ++ joined (cutL m k ts)).map (Value.int .u8)) ∧ wc.ownsRow N0 112 6 (.slice (some ⟨g13, 0, none⟩) m c13) m (ts.flatMap Tel.val) ∧ Below N0 W0 wc)
  case first =>
    go_wp2_with fail
    go_loopw [10, 11, 13, 77] (fun s10 s11 s13 s77 wy => ∃ (i g10 n10 c10 g11 n11 c11 : Nat), i ≤ m ∧ s77 = .int .i64 i ∧ s10 = .slice (some ⟨g10, 0, none⟩) n10 c10 ∧ s11 = .slice (some ⟨g11, 0, none⟩) n11 c11 ∧ g10 ≠ g11 ∧ wy.ownsRow N0 5 1 (.slice (some ⟨g10, 0, none⟩) n10 c10) n10 ((Bs ++ joined (ts.take i)).map (Value.int .u8)) ∧ wy.ownsRow N0 5 1 (.slice (some ⟨g11, 0, none⟩) n11 c11) n11 ((Bs ++ joined (cutL i k ts)).map (Value.int .u8)) ∧ wy.ownsRow N0 112 6 s13 i ((ts.take i).flatMap Tel.val) ∧ Below N0 W0 wy) (fun _ _ _ iv _ => m - (intOf iv).toNat)
    case atStart => exact ⟨0, g10, nb, c10, g11, nb, c11, by omega, rfl, rfl, rfl, hg, by simpa [joined] using H10.out, by simpa [joined, cutL, keptI] using H11.out, ⟨rfl, .inl ⟨rfl, rfl⟩⟩, HBW.out⟩
    case round =>
      obtain ⟨i, g10', n10', c10', g11', n11', c11', him, rfl, rfl, rfl, hgi, r10, r11, r13, hbi⟩ := hrel
      have R10 := Lib.hid r10
      have R11 := Lib.hid r11
      have R13 := Lib.hid r13
      have RB := Lib.hid hbi
      have hl10 := r10.1
      have hl11 := r11.1
      rw [List.length_map, List.length_append, joined_len, List.length_take, HS.out.len, Nat.mul_one] at hl10
      rw [List.length_map, List.length_append, joined_len, Nat.mul_one] at hl11
      have hcl : (cutL i k ts).length ≤ i := by
        unfold cutL keptI
        rw [List.length_map]
        exact Nat.le_trans (List.length_filter_le _ _) (by simp)
      clear r10 r11 r13 hbi H10 H11
      by_cases hlt : i < m
      · have hltI : (i : Int) < (m : Int) := by omega
        obtain ⟨⟨b1, b2, b3⟩, c1, c2, c3⟩ := HOR.out i hlt
        have e1 := ordL_take (n1 := n1) (ox := ox) (oy := oy) (oz := oz) hlt
        have e2 := cutL_succ (n1 := n1) (ox := ox) (oy := oy) (oz := oz) (k := k) hlt
        rw [HTS.out] at e1 e2
        have E1 := Lib.hid e1
        have E2 := Lib.hid e2
        have n10b : n10' ≤ 1000 := by omega
        have n11b : n11' ≤ 1000 := by omega
        have hlt13 : (ts.take i).length = i := by rw [List.length_take, HS.out.len]; omega
        clear e1 e2 hl10 hl11 hcl
        go_upto_block 3 with fail
        refine wp_block ?_
        refine found16 W0 N0 hN0 k i (by omega) (ts.take i) hlt13 (Bs ++ joined (ts.take i)) (Bs ++ joined (cutL i k ts)) g10' n10' c10' g11' n11' c11' n10b n11b hgi _ (ox i) (oy i) (oz i) (ctr i) b1 b2 b3 rfl n0 n1 n2 n3 hn1 hn2 hn3 (ordT n1 ox oy oz i) rfl Bn hbn ob oo m oc hlt hob c1 c2 c3 _ _ _ _ _ _ _ _ _ _ _ _ _ _ _ _ _ _ _ _ _ _ _ _ _ _ _ _ _ _ _ _ _ _ _ _ _ _ _ _ _ _ _ _ _ _ _ _ _ _ _ _ _ _ _ _ _ _ _ _ _ _ _ _ _ _ _ _ _ _ _ _ _ _ _ _ _ _ _ _ _ _ _ _ _ _ _ _ _ _ _ _ _ _ _ _ _ _ _ _ _ _ _ _ _ _ _ _ _ _ _ _ _ _ _ _ _ _ _ _ _ _ _ _ _ _ _ _ _ _ _ _ _ _ _ _ _ _ _ _ _ _ _ _ _ _ _ _ _ _ _ _ _ _ _ _ _ _ _ _ _ _ _ _ _ _ _ _ _ _ _ _ _ _ _ _ _ _ _ _ _ _ _ _ _ _ _ _ _ _ _ _ _ _ _ _ _ _ _ _ _ _ _ _ _ _ _ _ _ _ _ _ _ _ _ _ _ _ _ _ _ _ _ _ _ _ _ _ _ _ _ _ _ _ _ _ _ _ _ _ _ _ _ _ _ _ _ _ _ _ _ _ _ _ _ _ _ _ _ _ _ _ _ _ _ _ RB.out R10.out R11.out R13.out ?_
        intro w' g10q c10q g11q c11q v13q v6 v14 v15 v16 v17 v18 v19 v20 v21 v22 v23 v24 v79 v80 v81 v82 v83 v84 v85 v86 v87 v88 v89 v90 v91 v92 v93 v94 v95 v96 v97 v98 v99 v100 v101 v102 v103 v104 v105 v106 v107 v108 v109 v110 v111 v112 v113 v114 v115 v116 v117 v118 v119 v120 v121 v122 v123 v124 v125 v126 v127 v128 v129 v130 v131 v132 v133 v134 v135 v136 v137 v138 v139 v140 v141 v142 v143 v144 v145 v146 v147 v148 v149 v150 v151 v152 v153 v154 v155 v156 v157 v158 v159 q1 q2 q3 q4 q5
        have Q1 := Lib.hid q1
        have Q2 := Lib.hid q2
        have q3' : w'.ownsRow N0 5 1 (.slice (some ⟨g10q, 0, none⟩) (n10' + 24) c10q) (n10' + 24) ((Bs ++ joined (ts.take (i + 1))).map (Value.int .u8)) := by
          rw [E1.out, joined_app, joined_one, ← List.append_assoc]; exact q3
        have q4' : w'.ownsRow N0 5 1 (.slice (some ⟨g11q, 0, none⟩) (n11' + (if i = k then 0 else 24)) c11q) (n11' + (if i = k then 0 else 24)) ((Bs ++ joined (cutL (i + 1) k ts)).map (Value.int .u8)) := by
          rw [E2.out, joined_app, ← List.append_assoc]
          have e : joined (if i = k then [] else [ordT n1 ox oy oz i]) = if i = k then [] else (ordT n1 ox oy oz i).frame := by
            split
            · rfl
            · exact joined_one _
          rw [e]; exact q4
        have q5' : w'.ownsRow N0 112 6 v13q (i + 1) ((ts.take (i + 1)).flatMap Tel.val) := by rw [E1.out]; exact q5
        have Q3 := Lib.hid q3'
        have Q4 := Lib.hid q4'
        have Q5 := Lib.hid q5'
        clear q1 q2 q3 q4 q5 q3' q4' q5'
        go_wp2_with fail
        go_roundw
        case rel => exact ⟨i + 1, _, _, _, _, _, _, by omega, by go_num, rfl, rfl, Q2.out, Q3.out, Q4.out, Q5.out, Q1.out⟩
        case measure => simp [intOf]; omega
      · obtain rfl : i = m := by omega
        have r13 := R13.out
        have r10 := R10.out
        have htk : ts.take i = ts := List.take_of_length_le (by rw [HS.out.len]; omega)
        rw [htk] at r13 r10
        obtain ⟨g13, c13, rfl, _, _⟩ := owns_some r13 hm1
        go_wp2_with fail
        go_meet
        exact ⟨_, _, _, _, _, _, g13, c13, rfl, rfl, rfl, r10, R11.out, r13, RB.out⟩
  case rest =>
    rename_i hK
    obtain ⟨g10, n10, c10, g11, n11, c11, g13, c13, rfl, rfl, rfl, r10, r11, r13, hb⟩ := hcut
    refine hK _ _ ?_
    clear hK
    have hgood := HS.out.good
    have hgc : ∀ t ∈ cutL m k ts, t.Good := fun t ht' => hgood t (HS.out.cut_mem t ht')
    have v10 : BytesV (Bs ++ joined ts) n10 := ⟨by have h := r10.1; rwa [List.length_map, Nat.mul_one] at h, fun v hv => by
      rcases List.mem_append.1 hv with h | h
      · exact (hB v h).2
      · exact joined_in hgood v h⟩
    have v11 : BytesV (Bs ++ joined (cutL m k ts)) n11 := ⟨by have h := r11.1; rwa [List.length_map, Nat.mul_one] at h, fun v hv => by
      rcases List.mem_append.1 hv with h | h
      · exact (hB v h).2
      · exact joined_in hgc v h⟩
    obtain ⟨a1, cc1, e1, q1, _, A1⟩ := AnyBytes.of_row v10 r10
    obtain ⟨a2, cc2, e2, q2, _, A2⟩ := AnyBytes.of_row v11 r11
    obtain ⟨a3, cc3, e3, A3⟩ := AnyTels.of_row HS.out.len r13
    cases e1
    cases e2
    cases e3
    have hsW := hb.size
    have kn : Kp w wc [(Bn, (.cells #[.int .u8 n0, .int .u8 n1, .int .u8 n2, .int .u8 n3] 161 (0, 0)))] := ⟨hwW.trans (hb.mono (by rw [hN0]; exact hwW.size)), fun p hp => by
      rcases List.mem_cons.1 hp with rfl | hp
      · exact (hb.block Bn (by rw [hN0]; exact lt_of_blk hbn)).trans hbn
      · nomatch hp⟩
    exact found33 w m k hm hk n0 n1 n2 n3 hn1 Bn Bs (fun v hv => (hB v hv).1) (by omega) ts HS.out g13 c13 a7 nb c7 hnb ⟨g10, 0, none⟩ ⟨g11, 0, none⟩ n10 c10 n11 c11 q1 q2 _ ht _ _ _ _ _ _ _ _ _ _ _ _ _ _ _ _ _ _ _ _ _ _ _ _ _ _ _ _ _ _ _ _ _ _ _ _ _ _ _ _ _ _ _ _ _ _ _ _ _ _ _ _ _ _ _ _ _ _ _ _ _ _ _ _ _ _ _ _ _ _ _ _ _ _ _ _ _ _ _ _ _ _ _ _ _ _ _ _ _ _ _ _ _ _ _ _ _ _ _ _ _ _ _ _ _ _ _ _ _ _ _ _ _ _ _ _ _ _ _ _ _ _ _ _ _ _ _ _ _ _ _ _ _ _ _ _ _ _ _ _ _ _ _ _ _ _ _ _ _ _ _ _ _ _ _ _ _ _ _ _ _ _ _ _ _ _ _ _ _ _ _ _ _ _ _ _ _ _ _ _ _ _ _ _ _ _ _ _ _ _ _ _ _ _ _ _ _ _ _ _ _ _ _ _ _ _ _ _ _ _ _ _ _ _ _ _ _ _ _ _ _ _ _ _ _ _ _ _ _ _ _ _ _ _ _ _ _ _ _ _ _ _ _ _ _ _ _ _ _ _ _ _ _ _ _ _ _ _ _ _ _ _ _ _ _ kn A3 A1 A2
end Go.Proofs.YtfdkmmllemkogaaGreatDoor

/-
  LightFound: its walk from the noise on.
-/
namespace Go.Proofs.YtfdkmmllemkogaaGreatDoor
open Go.RowKit Go.Shelf
set_option linter.unusedVariables false
set_option linter.unusedSimpArgs false

theorem owns_mono {w : World} {B B' e sz n : Nat} {v : Value} {xs : List Value} (h : w.ownsRow B e sz v n xs) (hb : B' ≤ B) : w.ownsRow B' e sz v n xs :=
  ⟨h.1, h.2.imp id fun ⟨g, cap, cur, h1, h2, h3⟩ => ⟨g, cap, cur, h1, Nat.le_trans hb h2, h3⟩⟩

set_option maxRecDepth 1000000 in
set_option maxHeartbeats 25600000 in
theorem found10 (w W0 : World) (N0 : Nat) (hN0 : N0 = W0.heap.size) (hwW : Below w.heap.size w W0) (ht : TabAt w) (m : Nat) (hm1 : 1 ≤ m) (hm : m < 9) (ox oy oz : Nat → Int) (ob oo oc : Nat) (hob : ob < N0) (hor : ∀ i, i < m → ((-32768 ≤ ox i ∧ ox i ≤ 32767) ∧ (-32768 ≤ oy i ∧ oy i ≤ 32767) ∧ (-32768 ≤ oz i ∧ oz i ≤ 32767)) ∧ W0.cell? ⟨ob, oo + i * 3, none⟩ = some (.int .i16 (ox i)) ∧ W0.cell? ⟨ob, oo + i * 3 + 1, none⟩ = some (.int .i16 (oy i)) ∧ W0.cell? ⟨ob, oo + i * 3 + 2, none⟩ = some (.int .i16 (oz i)))
    (n0 n1 n2 n3 : Int) (hn0 : 0 ≤ n0 ∧ n0 ≤ 255) (hn1 : 0 ≤ n1 ∧ n1 ≤ 255) (hn2 : 0 ≤ n2 ∧ n2 ≤ 255) (hn3 : 0 ≤ n3 ∧ n3 ≤ 255) (Bn : Nat) (hwn : w.heap.size ≤ Bn) (hbn : W0.heap[Bn]? = some (.cells #[.int .u8 n0, .int .u8 n1, .int .u8 n2, .int .u8 n3] 161 (0, 0))) (Bs : List Int) (hB : ∀ v ∈ Bs, v ≠ 77 ∧ 0 ≤ v ∧ v ≤ 255) (nb : Nat) (hnb : Bs.length = nb) (hB20 : nb ≤ 20) (a7 : Option Addr) (c7 : Nat) (wr : World) (u1 u2 u3 u4 u6 u8 u9 u10 u11 u12 u13 u14 u15 u16 u17 u18 u19 u20 u21 u22 u23 u24 u25 u26 u27 u28 u29 u30 u31 u32 u33 u34 u35 u36 u37 u38 u39 u40 u41 u42 u43 u44 u45 u46 u47 u48 u49 u50 u51 u52 u53 u54 u55 u56 u57 u58 u59 u60 u61 u62 u63 u64 u65 u66 u67 u68 u69 u70 u71 u72 u73 u74 u75 u76 u77 u78 u79 u80 u81 u82 u83 u84 u85 u86 u87 u88 u89 u90 u91 u92 u93 u94 u95 u96 u97 u98 u99 u100 u101 u102 u103 u104 u105 u106 u107 u108 u109 u110 u111 u112 u113 u114 u115 u116 u117 u118 u119 u120 u121 u122 u123 u124 u125 u126 u127 u128 u129 u130 u131 u132 u133 u134 u135 u136 u137 u138 u139 u140 u141 u142 u143 u144 u145 u146 u147 u148 u149 u150 u151 u152 u153 u154 u155 u156 u157 u158 u159 u160 u161 u162 u163 u164 u165 u166 u167 u168 u169 u170 u171 u172 u173 u174 u175 u176 u177 u178 u179 u180 u181 u182 u183 u184 u185 u186 u187 u188 u189 u190 u191 u192 u193 u194 u195 u196 u197 u198 u199 u200 u201 u202 u203 u204 u205 u206 u207 u208 u209 u210 u211 u212 u213 u214 u215 u216 u217 u218 u219 u220 u221 u222 u223 u224 u225 u226 u227 u228 u229 u230 u231 u232 u233 u234 u235 u236 u237 u238 u239 u240 u241 u242 u243 u244 u245 u246 u247 u248 u249 u250 u251 u252 u253 u254 u255 u256 u257 u258 u259 u260 u261 u262 u263 u264 u265 u266 u267 u268 u269 u270 : Value)
    (hBW : Below N0 W0 wr) (h7 : wr.ownsRow N0 5 1 (.slice a7 nb c7) nb ((Bs).map (Value.int .u8))) :
    Code.wp Tryz.prog (cutF 10) (bodyPost Tryz.prog Tryz.f16 (TruePost w)) ⟨#[.slice (some ⟨ob, oo, none⟩) m oc, u1, u2, u3, u4, .pointer (some ⟨Bn, 0, none⟩), u6, .slice a7 nb c7, u8, u9, u10, u11, u12, u13, u14, u15, u16, u17, u18, u19, u20, u21, u22, u23, u24, u25, u26, u27, u28, u29, u30, u31, u32, u33, u34, u35, u36, u37, u38, u39, u40, u41, u42, u43, u44, u45, u46, u47, u48, u49, u50, u51, u52, u53, u54, u55, u56, u57, u58, u59, u60, u61, u62, u63, u64, u65, u66, u67, u68, u69, u70, u71, u72, u73, u74, u75, u76, u77, u78, u79, u80, u81, u82, u83, u84, u85, u86, u87, u88, u89, u90, u91, u92, u93, u94, u95, u96, u97, u98, u99, u100, u101, u102, u103, u104, u105, u106, u107, u108, u109, u110, u111, u112, u113, u114, u115, u116, u117, u118, u119, u120, u121, u122, u123, u124, u125, u126, u127, u128, u129, u130, u131, u132, u133, u134, u135, u136, u137, u138, u139, u140, u141, u142, u143, u144, u145, u146, u147, u148, u149, u150, u151, u152, u153, u154, u155, u156, u157, u158, u159, u160, u161, u162, u163, u164, u165, u166, u167, u168, u169, u170, u171, u172, u173, u174, u175, u176, u177, u178, u179, u180, u181, u182, u183, u184, u185, u186, u187, u188, u189, u190, u191, u192, u193, u194, u195, u196, u197, u198, u199, u200, u201, u202, u203, u204, u205, u206, u207, u208, u209, u210, u211, u212, u213, u214, u215, u216, u217, u218, u219, u220, u221, u222, u223, u224, u225, u226, u227, u228, u229, u230, u231, u232, u233, u234, u235, u236, u237, u238, u239, u240, u241, u242, u243, u244, u245, u246, u247, u248, u249, u250, u251, u252, u253, u254, u255, u256, u257, u258, u259, u260, u261, u262, u263, u264, u265, u266, u267, u268, u269, u270], []⟩ wr := by
  conv => arg 2; whnf
  dsimp only
  obtain ⟨i2, hk2, hxa, hxb, hxc⟩ := info_parts Tryz.infoByteX
  have hnil7 : a7 = none → nb = 0 ∧ c7 = 0 := fun e => by
    subst e
    rcases h7.2 with ⟨e1, _⟩ | ⟨g, cap, cur, e1, _⟩
    · cases e1; exact ⟨rfl, rfl⟩
    · cases e1
  have H7 := Lib.hid h7
  have HBW := Lib.hid hBW
  have HOR := Lib.hid hor
  clear h7 hBW hor
  go_upto_region 10 with fail
  go_cut [10] (fun s10 wc => ∃ g c, s10 = .slice (some ⟨g, 0, none⟩) nb c ∧ wc.ownsRow wr.heap.size 5 1 (.slice (some ⟨g, 0, none⟩) nb c) nb (Bs.map (Value.int .u8)) ∧ Below wr.heap.size wr wc)
  case first =>
      have hC0 : (wr.alloc (.cells #[] 5)).ownsRow wr.heap.size 5 1 (.slice (some ⟨wr.heap.size, 0, none⟩) 0 0) 0 [] := by
        have h := World.ownsRow_made (base := wr.heap.size) (e := 5) (size := 1) wr #[] 0 (by simp) (by unfold maxLen; omega) rfl
        simpa using h
      have HC0 := Lib.hid hC0
      have HB6 : Hid (Below wr.heap.size wr (wr.alloc (.cells #[] 5))) := Lib.hid ((Below.refl _ _).alloc (Nat.le_refl _) _)
      have HLN : Hid ((Bs.map (Value.int .u8)).length = nb * 1) := Lib.hid (by rw [List.length_map, hnb, Nat.mul_one])
      have HBZ : Hid (nb = 0 → Bs.map (Value.int .u8) = []) := Lib.hid fun e => by
        rw [List.eq_nil_of_length_eq_zero (by omega : Bs.length = 0)]; rfl
      have HNW : Hid (∀ ad, a7 = some ad → ∀ j u, (Bs.map (Value.int .u8))[j]? = some u → (wr.alloc (.cells #[] 5)).cell? (ad.add j) = some u) := Lib.hid fun ad e => by
        subst e
        obtain ⟨a', c', e', _, _, hA⟩ := AnyBytes.of_row (S := Bs) ⟨hnb, fun v hv => (hB v hv).2⟩ H7.out
        cases e'
        exact AnyBytes.news hA HB6.out
      clear hC0
      cases a7 with
      | none =>
        obtain ⟨hn0', hc0'⟩ := hnil7 rfl
        subst hn0' hc0'
        go_wp2_with (at_builtin; (refine wpList_append_own_none rfl (.tmp 63) (.tmp 64) 109 rfl wr.heap.size 5 i2 1 Tryz.underlying109 hk2 (.slice (some ⟨wr.heap.size, 0, none⟩) 0 0) 0 [] rfl HC0.out rfl ?_))
        go_meet
        exact ⟨wr.heap.size, 0, rfl, by rw [HBZ.out (by simp)]; exact HC0.out, HB6.out⟩
      | some ad =>
        go_wp2_with (first
          | (at_builtin; (refine wpList_append_own _ rfl (.tmp 63) (.tmp 64) 109 rfl wr.heap.size 5 i2 (.int .u8 0) 1 1 Tryz.underlying109 hk2 hxa hxb hxc rfl (by decide) (.slice (some ⟨wr.heap.size, 0, none⟩) 0 0) 0 [] rfl HC0.out ad nb c7 (Bs.map (Value.int .u8)) rfl HLN.out (HNW.out ad rfl) (one_byts _) (by unfold maxLen; omega) (by omega) (by simp) ?_); intro v6 w6 hO6 hG6 hnl6;
             have hb6 : Below wr.heap.size wr w6 := Below.grown HB6.out hG6 (by simp) (fun q hq => by cases hq; exact Nat.le_refl _);
             rw [Nat.zero_add, List.nil_append] at hO6))
        have hv6 : ∃ g cc, v6 = .slice (some ⟨g, 0, none⟩) nb cc := by
          rcases hO6.2 with ⟨e1, e2⟩ | ⟨g, cap, cur, e1, _⟩
          · exact absurd (hnl6.1 e1).1 (by simp)
          · exact ⟨g, cap, e1⟩
        obtain ⟨g6, cc6, rfl⟩ := hv6
        go_meet
        exact ⟨g6, cc6, rfl, hO6, hb6⟩
  case rest =>
    rename_i hK
    obtain ⟨g10, c10, rfl, hr10, hb10⟩ := hcut
    refine hK _ _ ?_
    clear hK
    have R10 := Lib.hid hr10
    have H7b := Lib.hid (owns_kept H7.out hb10 (Nat.le_refl _))
    have HBb : Hid (Below N0 W0 wc) := Lib.hid (HBW.out.trans (hb10.mono (by rw [hN0]; exact HBW.out.size)))
    have l10 := (hr10.lt g10 rfl)
    have hNr : N0 ≤ wr.heap.size := by rw [hN0]; exact HBW.out.size
    clear hr10 hb10 H7 HBW
    go_upto_region 11 with fail
    go_cut [11] (fun s11 wd => ∃ g c, s11 = .slice (some ⟨g, 0, none⟩) nb c ∧ wd.ownsRow wc.heap.size 5 1 (.slice (some ⟨g, 0, none⟩) nb c) nb (Bs.map (Value.int .u8)) ∧ Below wc.heap.size wc wd)
    case first =>
      have hC0 : (wc.alloc (.cells #[] 5)).ownsRow wc.heap.size 5 1 (.slice (some ⟨wc.heap.size, 0, none⟩) 0 0) 0 [] := by
        have h := World.ownsRow_made (base := wc.heap.size) (e := 5) (size := 1) wc #[] 0 (by simp) (by unfold maxLen; omega) rfl
        simpa using h
      have HC0 := Lib.hid hC0
      have HB6 : Hid (Below wc.heap.size wc (wc.alloc (.cells #[] 5))) := Lib.hid ((Below.refl _ _).alloc (Nat.le_refl _) _)
      have HLN : Hid ((Bs.map (Value.int .u8)).length = nb * 1) := Lib.hid (by rw [List.length_map, hnb, Nat.mul_one])
      have HBZ : Hid (nb = 0 → Bs.map (Value.int .u8) = []) := Lib.hid fun e => by
        rw [List.eq_nil_of_length_eq_zero (by omega : Bs.length = 0)]; rfl
      have HNW : Hid (∀ ad, a7 = some ad → ∀ j u, (Bs.map (Value.int .u8))[j]? = some u → (wc.alloc (.cells #[] 5)).cell? (ad.add j) = some u) := Lib.hid fun ad e => by
        subst e
        obtain ⟨a', c', e', _, _, hA⟩ := AnyBytes.of_row (S := Bs) ⟨hnb, fun v hv => (hB v hv).2⟩ H7b.out
        cases e'
        exact AnyBytes.news hA HB6.out
      clear hC0
      cases a7 with
      | none =>
        obtain ⟨hn0', hc0'⟩ := hnil7 rfl
        subst hn0' hc0'
        go_wp2_with (at_builtin; (refine wpList_append_own_none rfl (.tmp 66) (.tmp 67) 109 rfl wc.heap.size 5 i2 1 Tryz.underlying109 hk2 (.slice (some ⟨wc.heap.size, 0, none⟩) 0 0) 0 [] rfl HC0.out rfl ?_))
        go_meet
        exact ⟨wc.heap.size, 0, rfl, by rw [HBZ.out (by simp)]; exact HC0.out, HB6.out⟩
      | some ad =>
        go_wp2_with (first
          | (at_builtin; (refine wpList_append_own _ rfl (.tmp 66) (.tmp 67) 109 rfl wc.heap.size 5 i2 (.int .u8 0) 1 1 Tryz.underlying109 hk2 hxa hxb hxc rfl (by decide) (.slice (some ⟨wc.heap.size, 0, none⟩) 0 0) 0 [] rfl HC0.out ad nb c7 (Bs.map (Value.int .u8)) rfl HLN.out (HNW.out ad rfl) (one_byts _) (by unfold maxLen; omega) (by omega) (by simp) ?_); intro v6 w6 hO6 hG6 hnl6;
             have hb6 : Below wc.heap.size wc w6 := Below.grown HB6.out hG6 (by simp) (fun q hq => by cases hq; exact Nat.le_refl _);
             rw [Nat.zero_add, List.nil_append] at hO6))
        have hv6 : ∃ g cc, v6 = .slice (some ⟨g, 0, none⟩) nb cc := by
          rcases hO6.2 with ⟨e1, e2⟩ | ⟨g, cap, cur, e1, _⟩
          · exact absurd (hnl6.1 e1).1 (by simp)
          · exact ⟨g, cap, e1⟩
        obtain ⟨g6, cc6, rfl⟩ := hv6
        go_meet
        exact ⟨g6, cc6, rfl, hO6, hb6⟩
    case rest =>
      rename_i hK
      obtain ⟨g11, c11, rfl, hr11, hb11⟩ := hcut
      refine hK _ _ ?_
      clear hK
      have R10b := Lib.hid (owns_kept R10.out hb11 (Nat.le_refl _))
      have R11 := Lib.hid hr11
      have l11 := (hr11.lt g11 rfl)
      have hNc := HBb.out.size
      have HBc : Hid (Below N0 W0 wc) := Lib.hid (HBb.out.trans (hb11.mono (by rw [hN0]; exact hNc)))
      clear hr11 hb11 H7b
      have bn1 := (HBc.out.block Bn (by rw [hN0]; exact lt_of_blk hbn)).trans hbn
      obtain ⟨n0', n1', n2', n3'⟩ := cells4 bn1
      obtain ⟨k, hk⟩ : ∃ k, n0.toNat % m = k := ⟨_, rfl⟩
      have hkm : k < m := by rw [← hk]; exact Nat.mod_lt _ (by omega)
      have ek : n0.tmod (m : Int) = (k : Int) := by
        rw [Int.tmod_eq_emod_of_nonneg hn0.1, ← hk]; push_cast; rw [Int.toNat_of_nonneg hn0.1]
      have wn0 : IntKind.i64.wrap n0 = n0 := IntWalk.i64_in _ ⟨by omega, by omega⟩
      have wk : IntKind.i64.wrap (k : Int) = (k : Int) := IntWalk.i64_in _ ⟨by omega, by omega⟩
      have nm : ¬ ((m : Int) = 0) := by omega
      have nm' : ¬ (m = 0) := by omega
      go_upto_region 13 with fail
      clear n0' n1' n2' n3'
      go_cut [13] (fun s13 wd => s13 = .slice none 0 0 ∧ Below wc.heap.size wc wd)
      case first =>
        go_wp2_with fail
        go_meet
        exact ⟨rfl, Below.refl _ _⟩
      case rest =>
        rename_i hK
        obtain ⟨rfl, hbz⟩ := hcut
        refine hK _ _ ?_
        clear hK
        have hsc := HBc.out.size
        exact found14 w W0 N0 hN0 hwW ht m hm1 hm ox oy oz ob oo oc hob HOR.out n0 n1 n2 n3 hn0 hn1 hn2 hn3 Bn hwn hbn Bs hB nb hnb hB20 a7 c7 k hkm g10 c10 g11 c11 (by omega) _ _ _ _ _ _ _ _ _ _ _ _ _ _ _ _ _ _ _ _ _ _ _ _ _ _ _ _ _ _ _ _ _ _ _ _ _ _ _ _ _ _ _ _ _ _ _ _ _ _ _ _ _ _ _ _ _ _ _ _ _ _ _ _ _ _ _ _ _ _ _ _ _ _ _ _ _ _ _ _ _ _ _ _ _ _ _ _ _ _ _ _ _ _ _ _ _ _ _ _ _ _ _ _ _ _ _ _ _ _ _ _ _ _ _ _ _ _ _ _ _ _ _ _ _ _ _ _ _ _ _ _ _ _ _ _ _ _ _ _ _ _ _ _ _ _ _ _ _ _ _ _ _ _ _ _ _ _ _ _ _ _ _ _ _ _ _ _ _ _ _ _ _ _ _ _ _ _ _ _ _ _ _ _ _ _ _ _ _ _ _ _ _ _ _ _ _ _ _ _ _ _ _ _ _ _ _ _ _ _ _ _ _ _ _ _ _ _ _ _ _ _ _ _ _ _ _ _ _ _ _ _ _ _ _ _ _ _ _ _ _ _ _ _ _ _ _ _ _ _ _ _ _ _ _ _ _ _ _ _ _ _ _ _ _ (HBc.out.trans (hbz.mono (by rw [hN0]; exact hsc))) (owns_kept (owns_mono R10b.out hNr) hbz (Nat.le_refl _)) (owns_kept (owns_mono R11.out (by rw [hN0]; exact hNc)) hbz (Nat.le_refl _))
end Go.Proofs.YtfdkmmllemkogaaGreatDoor

/-
  LightFound returns true for all arguments.
-/
namespace Go.Proofs.YtfdkmmllemkogaaGreatDoor
open Go.RowKit Go.Shelf
set_option linter.unusedVariables false
set_option linter.unusedSimpArgs false

theorem filt_snoc (l : List Int) (b : Int) : (l ++ [b]).filter (fun v => decide (v ≠ 77)) = l.filter (fun v => decide (v ≠ 77)) ++ (if b = 77 then [] else [b]) := by
  rw [List.filter_append]
  congr 1
  by_cases h : b = 77
  · simp [h]
  · simp [h]

set_option maxRecDepth 1000000 in
set_option maxHeartbeats 25600000 in
theorem found3 (w W0 : World) (N0 : Nat) (hN0 : N0 = W0.heap.size) (hwW : Below w.heap.size w W0) (ht : TabAt w) (m : Nat) (hm1 : 1 ≤ m) (hm : m < 9) (ox oy oz : Nat → Int) (ob oo oc : Nat) (hob : ob < N0) (hor : ∀ i, i < m → ((-32768 ≤ ox i ∧ ox i ≤ 32767) ∧ (-32768 ≤ oy i ∧ oy i ≤ 32767) ∧ (-32768 ≤ oz i ∧ oz i ≤ 32767)) ∧ W0.cell? ⟨ob, oo + i * 3, none⟩ = some (.int .i16 (ox i)) ∧ W0.cell? ⟨ob, oo + i * 3 + 1, none⟩ = some (.int .i16 (oy i)) ∧ W0.cell? ⟨ob, oo + i * 3 + 2, none⟩ = some (.int .i16 (oz i)))
    (n0 n1 n2 n3 : Int) (hn0 : 0 ≤ n0 ∧ n0 ≤ 255) (hn1 : 0 ≤ n1 ∧ n1 ≤ 255) (hn2 : 0 ≤ n2 ∧ n2 ≤ 255) (hn3 : 0 ≤ n3 ∧ n3 ≤ 255) (Bn : Nat) (hwn : w.heap.size ≤ Bn) (hbn : W0.heap[Bn]? = some (.cells #[.int .u8 n0, .int .u8 n1, .int .u8 n2, .int .u8 n3] 161 (0, 0))) (na : Option Addr) (nn nc1 : Nat) (NS : List Int) (hnn : nn ≤ 20) (hNS : AnyBytes W0 na nn NS) (u2 u3 u4 u6 u7 u8 u9 u10 u11 u12 u13 u14 u15 u16 u17 u18 u19 u20 u21 u22 u23 u24 u25 u26 u27 u28 u29 u30 u31 u32 u33 u34 u35 u36 u37 u38 u39 u40 u41 u42 u43 u44 u45 u46 u47 u48 u49 u50 u51 u52 u53 u54 u55 u56 u57 u58 u59 u60 u61 u62 u63 u64 u65 u66 u67 u68 u69 u70 u71 u72 u73 u74 u75 u76 u77 u78 u79 u80 u81 u82 u83 u84 u85 u86 u87 u88 u89 u90 u91 u92 u93 u94 u95 u96 u97 u98 u99 u100 u101 u102 u103 u104 u105 u106 u107 u108 u109 u110 u111 u112 u113 u114 u115 u116 u117 u118 u119 u120 u121 u122 u123 u124 u125 u126 u127 u128 u129 u130 u131 u132 u133 u134 u135 u136 u137 u138 u139 u140 u141 u142 u143 u144 u145 u146 u147 u148 u149 u150 u151 u152 u153 u154 u155 u156 u157 u158 u159 u160 u161 u162 u163 u164 u165 u166 u167 u168 u169 u170 u171 u172 u173 u174 u175 u176 u177 u178 u179 u180 u181 u182 u183 u184 u185 u186 u187 u188 u189 u190 u191 u192 u193 u194 u195 u196 u197 u198 u199 u200 u201 u202 u203 u204 u205 u206 u207 u208 u209 u210 u211 u212 u213 u214 u215 u216 u217 u218 u219 u220 u221 u222 u223 u224 u225 u226 u227 u228 u229 u230 u231 u232 u233 u234 u235 u236 u237 u238 u239 u240 u241 u242 u243 u244 u245 u246 u247 u248 u249 u250 u251 u252 u253 u254 u255 u256 u257 u258 u259 u260 u261 u262 u263 u264 u265 u266 u267 u268 u269 u270 : Value) :
    Code.wp Tryz.prog (cutF 3) (bodyPost Tryz.prog Tryz.f16 (TruePost w)) ⟨#[.slice (some ⟨ob, oo, none⟩) m oc, .slice na nn nc1, u2, u3, u4, .pointer (some ⟨Bn, 0, none⟩), u6, u7, u8, u9, u10, u11, u12, u13, u14, u15, u16, u17, u18, u19, u20, u21, u22, u23, u24, u25, u26, u27, u28, u29, u30, u31, u32, u33, u34, u35, u36, u37, u38, u39, u40, u41, u42, u43, u44, u45, u46, u47, u48, u49, u50, u51, u52, u53, u54, u55, u56, u57, u58, u59, u60, u61, u62, u63, u64, u65, u66, u67, u68, u69, u70, u71, u72, u73, u74, u75, u76, u77, u78, u79, u80, u81, u82, u83, u84, u85, u86, u87, u88, u89, u90, u91, u92, u93, u94, u95, u96, u97, u98, u99, u100, u101, u102, u103, u104, u105, u106, u107, u108, u109, u110, u111, u112, u113, u114, u115, u116, u117, u118, u119, u120, u121, u122, u123, u124, u125, u126, u127, u128, u129, u130, u131, u132, u133, u134, u135, u136, u137, u138, u139, u140, u141, u142, u143, u144, u145, u146, u147, u148, u149, u150, u151, u152, u153, u154, u155, u156, u157, u158, u159, u160, u161, u162, u163, u164, u165, u166, u167, u168, u169, u170, u171, u172, u173, u174, u175, u176, u177, u178, u179, u180, u181, u182, u183, u184, u185, u186, u187, u188, u189, u190, u191, u192, u193, u194, u195, u196, u197, u198, u199, u200, u201, u202, u203, u204, u205, u206, u207, u208, u209, u210, u211, u212, u213, u214, u215, u216, u217, u218, u219, u220, u221, u222, u223, u224, u225, u226, u227, u228, u229, u230, u231, u232, u233, u234, u235, u236, u237, u238, u239, u240, u241, u242, u243, u244, u245, u246, u247, u248, u249, u250, u251, u252, u253, u254, u255, u256, u257, u258, u259, u260, u261, u262, u263, u264, u265, u266, u267, u268, u269, u270], []⟩ W0 := by
  conv => arg 2; whnf
  dsimp only
  obtain ⟨i2, hk2, hxa, hxb, hxc⟩ := info_parts Tryz.infoByteX
  have HOR := Lib.hid hor
  have HNS := Lib.hid hNS
  clear hor hNS
  go_upto_block 0 with fail
  go_cut [7] from 9 to 62 (fun s7 wc => ∃ (a7 : Option Addr) (nb c7 : Nat) (Bs : List Int), s7 = .slice a7 nb c7 ∧ Bs.length = nb ∧ nb ≤ 20 ∧ (∀ v ∈ Bs, v ≠ 77 ∧ 0 ≤ v ∧ v ≤ 255) ∧ wc.ownsRow N0 5 1 (.slice a7 nb c7) nb (Bs.map (Value.int .u8)) ∧ Below N0 W0 wc)
  case first =>
    go_wp2_with fail
    go_loopw [7, 52] (fun s7 s52 wy => ∃ j : Nat, j ≤ nn ∧ s52 = .int .i64 j ∧ wy.ownsRow N0 5 1 s7 ((NS.take j).filter (fun v => decide (v ≠ 77))).length (((NS.take j).filter (fun v => decide (v ≠ 77))).map (Value.int .u8)) ∧ Below N0 W0 wy) (fun _ jv _ => nn - (intOf jv).toNat)
    case atStart => exact ⟨0, by omega, rfl, ⟨rfl, .inl ⟨rfl, rfl⟩⟩, by rw [hN0]; exact Below.refl _ _⟩
    case round =>
      obtain ⟨j, hj, rfl, hr, hb⟩ := hrel
      have HB := Lib.hid hb
      have hNw : N0 ≤ wr.heap.size := by rw [hN0]; exact hb.size
      have hlen : ((NS.take j).filter (fun v => decide (v ≠ 77))).length ≤ 20 := Nat.le_trans (List.length_filter_le _ _) (by rw [List.length_take]; omega)
      obtain ⟨FL, hFL⟩ : ∃ FL, (NS.take j).filter (fun v => decide (v ≠ 77)) = FL := ⟨_, rfl⟩
      rw [hFL] at hr hlen
      have HR := Lib.hid hr
      have hlt0 := hr.lt
      by_cases hlt : j < nn
      · have hltI : (j : Int) < (nn : Int) := by omega
        obtain ⟨b', q', e', lt', hc⟩ := HNS.out.2 j hlt
        have hjl : j < NS.length := by rw [HNS.out.1.1]; exact hlt
        obtain ⟨b, hbv⟩ : ∃ b, NS[j]? = some b := ⟨_, List.getElem?_eq_getElem hjl⟩
        have hcell0 := hc j (.int .u8 b) (by rw [List.getElem?_map, hbv]; rfl)
        have hcell : wr.cell? ⟨b', q' + j, none⟩ = some (.int .u8 b) := (hb.cell (p := ⟨b', q' + j, none⟩) (by rw [hN0]; exact lt')).trans hcell0
        have etk : NS.take (j + 1) = NS.take j ++ [b] := by rw [List.take_add_one, hbv]; rfl
        have efl := filt_snoc (NS.take j) b
        rw [← etk, hFL] at efl
        have EFL := Lib.hid efl
        subst e'
        clear hc hcell0 etk efl hr hb hFL
        by_cases h77 : b = 77
        · subst h77
          go_wp2_with fail
          go_roundw
          case rel => exact ⟨j + 1, by omega, by go_num, by rw [EFL.out, if_pos rfl, List.append_nil]; exact HR.out, HB.out⟩
          case measure => simp [intOf]; omega
        · obtain ⟨ln, hln⟩ : ∃ ln, FL.length = ln := ⟨_, rfl⟩
          rw [hln] at HR hlen
          go_wp2_with (first
            | (at_builtin; (refine wpList_append_own _ rfl (.tmp 58) (.tmp 60) 109 rfl N0 5 i2 (.int .u8 0) 1 1 Tryz.underlying109 hk2 hxa hxb hxc rfl (by decide) _ ln _ rfl (HR.out.alloc _) ⟨wr.heap.size, 0, none⟩ 1 1 [.int .u8 b] rfl rfl (cell_one_new _ _ _) (by intro u hu; simp at hu; subst hu; rfl) (by unfold maxLen; omega) (by omega) (by simp; omega) ?_); intro v3 w3 hown3 hgrow3 _))
          have hB3 : Below N0 W0 w3 := Below.grown (Below.alloc HB.out (by omega) (.cells #[.int .u8 b] 5)) hgrow3 (by simp; omega) (fun q hq => (hlt0 q hq).1)
          have hO3 : w3.ownsRow N0 5 1 v3 ((NS.take (j + 1)).filter (fun v => decide (v ≠ 77))).length (((NS.take (j + 1)).filter (fun v => decide (v ≠ 77))).map (Value.int .u8)) := by
            rw [EFL.out, if_neg h77, List.length_append, List.map_append, hln]; exact hown3
          have HO3 := Lib.hid hO3
          have HB3 := Lib.hid hB3
          clear hO3 hB3 hown3 hgrow3
          go_roundw
          case rel => exact ⟨j + 1, by omega, by go_num, HO3.out, HB3.out⟩
          case measure => simp [intOf]; omega
      · obtain rfl : j = nn := by omega
        have hr' := HR.out
        obtain ⟨a7, c7, rfl⟩ := owns_slice hr'
        have hin : ∀ v ∈ FL, v ≠ 77 ∧ 0 ≤ v ∧ v ≤ 255 := fun v hv => by
          rw [← hFL] at hv
          obtain ⟨h1, h2⟩ := List.mem_filter.1 hv
          exact ⟨by simpa using h2, HNS.out.1.2 v (List.mem_of_mem_take h1)⟩
        go_wp2_with fail
        go_meet
        exact ⟨a7, _, c7, FL, rfl, rfl, hlen, hin, hr', HB.out⟩
  case rest =>
    rename_i hK
    obtain ⟨a7, nb, c7, Bs, rfl, hnb, hB20, hB, hr7, hb⟩ := hcut
    refine hK _ _ ?_
    clear hK
    exact found10 w W0 N0 hN0 hwW ht m hm1 hm ox oy oz ob oo oc hob HOR.out n0 n1 n2 n3 hn0 hn1 hn2 hn3 Bn hwn hbn Bs hB nb hnb hB20 a7 c7 _ _ _ _ _ _ _ _ _ _ _ _ _ _ _ _ _ _ _ _ _ _ _ _ _ _ _ _ _ _ _ _ _ _ _ _ _ _ _ _ _ _ _ _ _ _ _ _ _ _ _ _ _ _ _ _ _ _ _ _ _ _ _ _ _ _ _ _ _ _ _ _ _ _ _ _ _ _ _ _ _ _ _ _ _ _ _ _ _ _ _ _ _ _ _ _ _ _ _ _ _ _ _ _ _ _ _ _ _ _ _ _ _ _ _ _ _ _ _ _ _ _ _ _ _ _ _ _ _ _ _ _ _ _ _ _ _ _ _ _ _ _ _ _ _ _ _ _ _ _ _ _ _ _ _ _ _ _ _ _ _ _ _ _ _ _ _ _ _ _ _ _ _ _ _ _ _ _ _ _ _ _ _ _ _ _ _ _ _ _ _ _ _ _ _ _ _ _ _ _ _ _ _ _ _ _ _ _ _ _ _ _ _ _ _ _ _ _ _ _ _ _ _ _ _ _ _ _ _ _ _ _ _ _ _ _ _ _ _ _ _ _ _ _ _ _ _ _ _ _ _ _ _ _ _ _ _ _ _ _ _ _ _ _ _ _ _ _ _ hb hr7

set_option maxRecDepth 1000000 in
set_option maxHeartbeats 25600000 in
theorem found_all (w : World) (oa : Option Addr) (m oc : Nat) (na : Option Addr) (nn nc1 : Nat) (NS : List Int) (n0 n1 n2 n3 : Int) (hn0 : 0 ≤ n0 ∧ n0 ≤ 255) (hn1 : 0 ≤ n1 ∧ n1 ≤ 255) (hn2 : 0 ≤ n2 ∧ n2 ≤ 255) (hn3 : 0 ≤ n3 ∧ n3 ≤ 255) (ht : TabAt w) (ox oy oz : Nat → Int)
    (hO : ∀ i, i < m → ((-32768 ≤ ox i ∧ ox i ≤ 32767) ∧ (-32768 ≤ oy i ∧ oy i ≤ 32767) ∧ (-32768 ≤ oz i ∧ oz i ≤ 32767)) ∧ ∃ b q, oa = some ⟨b, q, none⟩ ∧ b < w.heap.size ∧ w.cell? ⟨b, q + i * 3, none⟩ = some (.int .i16 (ox i)) ∧ w.cell? ⟨b, q + i * 3 + 1, none⟩ = some (.int .i16 (oy i)) ∧ w.cell? ⟨b, q + i * 3 + 2, none⟩ = some (.int .i16 (oz i))) (hNS : AnyBytes w na nn NS) :
    Calls Tryz.prog 16 #[.slice oa m oc, .slice na nn nc1, .agg #[.int .u8 n0, .int .u8 n1, .int .u8 n2, .int .u8 n3]] w (TruePost w) := by
  obtain ⟨W0, hW0⟩ : ∃ W0, w.alloc (.cells #[.int .u8 n0, .int .u8 n1, .int .u8 n2, .int .u8 n3] 161) = W0 := ⟨_, rfl⟩
  have hB0 : Below w.heap.size w W0 := by rw [← hW0]; exact (Below.refl _ w).alloc (Nat.le_refl _) _
  by_cases hg : 1 ≤ m ∧ m ≤ 8 ∧ nn ≤ 20
  · obtain ⟨h1, h8, h20⟩ := hg
    obtain ⟨_, ob, oo, e, lt, _⟩ := hO 0 (by omega)
    subst e
    have hb : W0.heap[w.heap.size]? = some (.cells #[.int .u8 n0, .int .u8 n1, .int .u8 n2, .int .u8 n3] 161 (0, 0)) := by rw [← hW0]; exact blk_alloc_new _ _
    have hor : ∀ i, i < m → ((-32768 ≤ ox i ∧ ox i ≤ 32767) ∧ (-32768 ≤ oy i ∧ oy i ≤ 32767) ∧ (-32768 ≤ oz i ∧ oz i ≤ 32767)) ∧ W0.cell? ⟨ob, oo + i * 3, none⟩ = some (.int .i16 (ox i)) ∧ W0.cell? ⟨ob, oo + i * 3 + 1, none⟩ = some (.int .i16 (oy i)) ∧ W0.cell? ⟨ob, oo + i * 3 + 2, none⟩ = some (.int .i16 (oz i)) := fun i hi => by
      obtain ⟨hbd, b, q, e, lt', c0, c1, c2⟩ := hO i hi
      cases e
      exact ⟨hbd, (hB0.cell (p := ⟨ob, oo + i * 3, none⟩) lt').trans c0, (hB0.cell (p := ⟨ob, oo + i * 3 + 1, none⟩) lt').trans c1, (hB0.cell (p := ⟨ob, oo + i * 3 + 2, none⟩) lt').trans c2⟩
    have HOR := Lib.hid hor
    have HNS := Lib.hid (hNS.kept hB0)
    have HB := Lib.hid hb
    have HT := Lib.hid ht
    have HB0 := Lib.hid hB0
    have i1 : ¬ ((m : Int) < 1) := by omega
    have i2 : ¬ ((8 : Int) < (m : Int)) := by omega
    have i3 : ¬ ((20 : Int) < (nn : Int)) := by omega
    have hlt : ob < W0.heap.size := Nat.lt_of_lt_of_le lt hB0.size
    clear hO hNS hb ht hB0 hor
    go_enter Tryz.func16, Tryz.ntmps16
    go_upto_region 1 with fail
    try rw [hW0]
    clear hW0
    go_upto_if 48 with fail
    go_cut [] from 36 to 48 (fun wc => wc = W0)
    case first =>
      go_wp2_with fail
      go_meet
      rfl
    case rest =>
      rename_i hK
      subst hcut
      refine hK _ _ ?_
      clear hK
      exact found3 w _ _ rfl HB0.out HT.out m h1 (by omega) ox oy oz ob oo oc hlt HOR.out n0 n1 n2 n3 hn0 hn1 hn2 hn3 w.heap.size (Nat.le_refl _) HB.out na nn nc1 NS h20 HNS.out _ _ _ _ _ _ _ _ _ _ _ _ _ _ _ _ _ _ _ _ _ _ _ _ _ _ _ _ _ _ _ _ _ _ _ _ _ _ _ _ _ _ _ _ _ _ _ _ _ _ _ _ _ _ _ _ _ _ _ _ _ _ _ _ _ _ _ _ _ _ _ _ _ _ _ _ _ _ _ _ _ _ _ _ _ _ _ _ _ _ _ _ _ _ _ _ _ _ _ _ _ _ _ _ _ _ _ _ _ _ _ _ _ _ _ _ _ _ _ _ _ _ _ _ _ _ _ _ _ _ _ _ _ _ _ _ _ _ _ _ _ _ _ _ _ _ _ _ _ _ _ _ _ _ _ _ _ _ _ _ _ _ _ _ _ _ _ _ _ _ _ _ _ _ _ _ _ _ _ _ _ _ _ _ _ _ _ _ _ _ _ _ _ _ _ _ _ _ _ _ _ _ _ _ _ _ _ _ _ _ _ _ _ _ _ _ _ _ _ _ _ _ _ _ _ _ _ _ _ _ _ _ _ _ _ _ _ _ _ _ _ _ _ _ _ _ _ _ _ _ _ _ _ _ _ _ _ _ _ _ _ _ _ _ _ _ _ _
  · have KW : Hid (∀ w1 : World, Below w.heap.size w w1 → Calls Tryz.prog 19 #[] w1 fun e w' => e = .returned (.bool true) ∧ Below w.heap.size w w') :=
      Lib.hid fun w1 h => (awake_any w1 (ht.on h)).mono fun e w' ⟨he, hb⟩ => ⟨he, h.trans (hb.mono h.size)⟩
    have HB0 := Lib.hid hB0
    clear hO hNS ht hB0
    by_cases h1 : m < 1
    · have i1 : ((m : Int) < 1) := by omega
      go_enter Tryz.func16, Tryz.ntmps16
      go_upto_region 1 with fail
      try rw [hW0]
      clear hW0
      go_wp2_with (go_at_call 19; refine (KW.out _ HB0.out).mono ?_; rintro e w2 ⟨rfl, hb2⟩)
      go_ret
      exact ⟨rfl, hb2⟩
    · have i1 : ¬ ((m : Int) < 1) := by omega
      by_cases h8 : 8 < m
      · have i2 : ((8 : Int) < (m : Int)) := by omega
        go_enter Tryz.func16, Tryz.ntmps16
        go_upto_region 1 with fail
        try rw [hW0]
        clear hW0
        go_wp2_with (go_at_call 19; refine (KW.out _ HB0.out).mono ?_; rintro e w2 ⟨rfl, hb2⟩)
        go_ret
        exact ⟨rfl, hb2⟩
      · have i2 : ¬ ((8 : Int) < (m : Int)) := by omega
        have i3 : ((20 : Int) < (nn : Int)) := by omega
        go_enter Tryz.func16, Tryz.ntmps16
        go_upto_region 1 with fail
        try rw [hW0]
        clear hW0
        go_wp2_with (go_at_call 19; refine (KW.out _ HB0.out).mono ?_; rintro e w2 ⟨rfl, hb2⟩)
        go_ret
        exact ⟨rfl, hb2⟩
end Go.Proofs.YtfdkmmllemkogaaGreatDoor

/-
  LightFound: arguments that are orders, and bytes, opened.
-/
namespace Go.Proofs.YtfdkmmllemkogaaGreatDoor
open Go.ChangeShapes Go.WideShapes Go.ChangeAt Go.RowKit Go.Joins Go.Deep
set_option linter.unusedVariables false
set_option maxRecDepth 100000

theorem byteF_of {z : Int} (h : (Lit.int .u8 z).wf = true) : 0 ≤ z ∧ z ≤ 255 := by
  have e0 : IntKind.u8.min = 0 := by rfl
  have e1 : IntKind.u8.max = 255 := by rfl
  simp only [Lit.wf, Bool.and_eq_true, decide_eq_true_eq, e0, e1] at h
  exact h
theorem cellsByteF : Tryz.prog.cellsOf 5 = 1 := by kernel_rfl

theorem openBytesF {H : Type} {enc : TypeId × Value → H} {W : World} {b0 : Nat} {v : Value} {d : DataW H} {p : List MemPlace}
    (hv : Value.okWide Tryz.prog W .any b0 109 v) (h : DataW.Trod enc Tryz.prog W 0 (fun _ => true) true 109 v d p) :
    ∃ (a : Option Addr) (n c : Nat) (S : List Int), v = .slice a n c ∧ n ≤ c ∧ c ≤ maxLen ∧ AnyBytes W a n S := by
  obtain ⟨a, n, c, rfl⟩ := okWide_slice Tryz.underlying109 hv
  obtain ⟨fuel, hf⟩ := h
  rcases open_slice Tryz.underlying109 hf with ⟨hcs, _⟩ | ⟨a, n, c, m, k, D, Pl, hcs, _, hl, hm, hmm, _, hx⟩
  · simp [Value.cells] at hcs
    obtain ⟨rfl, rfl, rfl⟩ := hcs
    exact ⟨none, 0, 0, [], rfl, Nat.le_refl _, by unfold maxLen; omega, ⟨rfl, fun v hv => nomatch hv⟩, fun j hj => absurd hj (by omega)⟩
  · simp [Value.cells] at hcs
    obtain ⟨rfl, rfl, rfl⟩ := hcs
    have hnm : n ≤ m := by rw [hmm]; simp; exact hl
    rw [cellsByteF] at hx
    obtain ⟨T, hT⟩ := choose_lt (α := Int) (p := fun i t => (0 ≤ t ∧ t ≤ 255) ∧ W.cell? ((a.add (i * 1)).add 0) = some (.int .u8 t)) (n := n) (fun i hi => by
      obtain ⟨cs', h1, h2⟩ := hx i (by omega)
      obtain ⟨_, hlen, hc⟩ := World.cells?_some h1
      obtain ⟨X, e0, _, hw⟩ := DataW.trod_int Tryz.underlying5 h2
      exact ⟨X, byteF_of hw, (hc 0 (by omega)).trans (by rw [e0]; rfl)⟩)
    refine ⟨_, _, _, (List.range n).map T, rfl, hl, hm, ⟨by simp, ?_⟩, fun j hj => ?_⟩
    · intro v hv'
      obtain ⟨i, hi', rfl⟩ := List.mem_map.1 hv'
      exact (hT i (by simpa using hi')).1
    have h0 := (hT 0 (by omega)).2
    have hpl := plain_at (a := a) (by simpa [Addr.add] using h0)
    refine ⟨a.block, a.off, by rw [← hpl.1], hpl.2, fun i u hu => ?_⟩
    rw [List.map_map, List.getElem?_map] at hu
    by_cases hi2 : i < n
    · rw [List.getElem?_range hi2] at hu
      have h := (hT i hi2).2
      rw [hpl.1] at h
      simp only [Addr.add_mid, Nat.mul_one, Nat.add_zero] at h
      rw [h]
      simpa using hu
    · rw [List.getElem?_eq_none (by simp; omega)] at hu
      simp at hu



theorem openU4 {H : Type} {enc : TypeId × Value → H} {W : World} {b0 : Nat} {v : Value} {d : DataW H} {p : List MemPlace}
    (hv : Value.okWide Tryz.prog W .any b0 161 v) (h : DataW.Trod enc Tryz.prog W 0 (fun _ => true) true 161 v d p) :
    ∃ x y z u : Int, v = .agg #[.int .u8 x, .int .u8 y, .int .u8 z, .int .u8 u] ∧ (0 ≤ x ∧ x ≤ 255) ∧ (0 ≤ y ∧ y ≤ 255) ∧ (0 ≤ z ∧ z ≤ 255) ∧ (0 ≤ u ∧ u ≤ 255) := by
  obtain ⟨l, hl, hb, rfl⟩ := openByteArr Tryz.underlying161 Tryz.underlying5 (by kernel_rfl) (by kernel_rfl) hv h
  match l, hl with
  | [x, y, z, u], _ => exact ⟨x, y, z, u, rfl, hb x (by simp), hb y (by simp), hb z (by simp), hb u (by simp)⟩
theorem shortF_of {z : Int} (h : (Lit.int .i16 z).wf = true) : -32768 ≤ z ∧ z ≤ 32767 := by
  have e0 : IntKind.i16.min = -32768 := by rfl
  have e1 : IntKind.i16.max = 32767 := by rfl
  simp only [Lit.wf, Bool.and_eq_true, decide_eq_true_eq, e0, e1] at h
  exact h
theorem cellsOrd : Tryz.prog.cellsOf 163 = 3 := by kernel_rfl
theorem cellsShort : Tryz.prog.cellsOf 162 = 1 := by kernel_rfl
theorem list3F {α : Type} {l : List α} (h : l.length = 3) : ∃ a b c, l = [a, b, c] := by
  match l, h with
  | [a, b, c], _ => exact ⟨a, b, c, rfl⟩
theorem ord_form {H : Type} {enc : TypeId × Value → H} {W : World} {sp : Nat → Bool} {k : Nat} {cs : List Value} {x : DataW H × List MemPlace} (hl : cs.length = 3)
    (h : DataW.trod enc Tryz.prog W 0 sp true k 163 cs = some x) : ∃ t : Int × Int × Int, cs = [.int .i16 t.1, .int .i16 t.2.1, .int .i16 t.2.2] ∧ (-32768 ≤ t.1 ∧ t.1 ≤ 32767) ∧ (-32768 ≤ t.2.1 ∧ t.2.1 ≤ 32767) ∧ (-32768 ≤ t.2.2 ∧ t.2.2 ≤ 32767) := by
  obtain ⟨c0, c1, c2, rfl⟩ := list3F hl
  obtain ⟨xs, m, _, _, _, hlen, hi⟩ := DataW.trod_array Tryz.underlying163 h
  have get : ∀ (i : Nat) (c : Value), i < 3 → ([c0, c1, c2].drop i).take 1 = [c] → ∃ z : Int, c = .int .i16 z ∧ -32768 ≤ z ∧ z ≤ 32767 := fun i c hlt hc => by
    have h1 := hi i hlt
    rw [cellsShort, Nat.mul_one, hc] at h1
    obtain ⟨y, hy⟩ : ∃ y, xs[i]? = some y := ⟨_, List.getElem?_eq_getElem (by omega)⟩
    rw [hy] at h1
    obtain ⟨X, e0, _, hw⟩ := DataW.trod_int Tryz.underlying162 h1
    simp only [List.cons.injEq, and_true] at e0
    exact ⟨X, e0, shortF_of hw⟩
  obtain ⟨z0, rfl, q0⟩ := get 0 c0 (by omega) rfl
  obtain ⟨z1, rfl, q1⟩ := get 1 c1 (by omega) rfl
  obtain ⟨z2, rfl, q2⟩ := get 2 c2 (by omega) rfl
  exact ⟨(z0, z1, z2), rfl, q0, q1, q2⟩

theorem openOrders {H : Type} {enc : TypeId × Value → H} {W : World} {b0 : Nat} {v : Value} {d : DataW H} {p : List MemPlace}
    (hv : Value.okWide Tryz.prog W .any b0 160 v) (h : DataW.Trod enc Tryz.prog W 0 (fun _ => true) true 160 v d p) :
    ∃ (a : Option Addr) (n c : Nat) (ox oy oz : Nat → Int), v = .slice a n c ∧ ∀ i, i < n → ((-32768 ≤ ox i ∧ ox i ≤ 32767) ∧ (-32768 ≤ oy i ∧ oy i ≤ 32767) ∧ (-32768 ≤ oz i ∧ oz i ≤ 32767)) ∧ ∃ b q, a = some ⟨b, q, none⟩ ∧ b < W.heap.size ∧ W.cell? ⟨b, q + i * 3, none⟩ = some (.int .i16 (ox i)) ∧ W.cell? ⟨b, q + i * 3 + 1, none⟩ = some (.int .i16 (oy i)) ∧ W.cell? ⟨b, q + i * 3 + 2, none⟩ = some (.int .i16 (oz i)) := by
  obtain ⟨a, n, c, rfl⟩ := okWide_slice Tryz.underlying160 hv
  obtain ⟨fuel, hf⟩ := h
  rcases open_slice Tryz.underlying160 hf with ⟨hcs, _⟩ | ⟨a, n, c, m, k, D, Pl, hcs, _, hl, hm, hmm, _, hx⟩
  · simp [Value.cells] at hcs
    obtain ⟨rfl, rfl, rfl⟩ := hcs
    exact ⟨none, 0, 0, fun _ => 0, fun _ => 0, fun _ => 0, rfl, fun i hi => absurd hi (by omega)⟩
  · simp [Value.cells] at hcs
    obtain ⟨rfl, rfl, rfl⟩ := hcs
    have hnm : n ≤ m := by rw [hmm]; simp; exact hl
    rw [cellsOrd] at hx
    obtain ⟨T, hT⟩ := choose_lt (α := Int × Int × Int) (p := fun i t => ((-32768 ≤ t.1 ∧ t.1 ≤ 32767) ∧ (-32768 ≤ t.2.1 ∧ t.2.1 ≤ 32767) ∧ (-32768 ≤ t.2.2 ∧ t.2.2 ≤ 32767)) ∧ W.cell? ((a.add (i * 3)).add 0) = some (.int .i16 t.1) ∧ W.cell? ((a.add (i * 3)).add 1) = some (.int .i16 t.2.1) ∧ W.cell? ((a.add (i * 3)).add 2) = some (.int .i16 t.2.2)) (n := n) (fun i hi => by
      obtain ⟨cs', h1, h2⟩ := hx i (by omega)
      obtain ⟨_, hlen, hc⟩ := World.cells?_some h1
      obtain ⟨t, rfl, hb⟩ := ord_form hlen h2
      exact ⟨t, hb, hc 0 (by omega), hc 1 (by omega), hc 2 (by omega)⟩)
    refine ⟨some a, n, c, fun i => (T i).1, fun i => (T i).2.1, fun i => (T i).2.2, rfl, fun i hi => ?_⟩
    obtain ⟨hb, h0, h1, h2⟩ := hT i hi
    have h00 := (hT 0 (by omega)).2.1
    have hpl := plain_at (a := a) (by simpa [Addr.add] using h00)
    refine ⟨hb, a.block, a.off, by rw [← hpl.1], hpl.2, ?_, ?_, ?_⟩
    · rw [hpl.1] at h0; simpa only [Addr.add_mid, Nat.add_zero] using h0
    · rw [hpl.1] at h1; simpa only [Addr.add_mid] using h1
    · rw [hpl.1] at h2; simpa only [Addr.add_mid] using h2
end Go.Proofs.YtfdkmmllemkogaaGreatDoor
