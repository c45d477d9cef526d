/-
  Texts: Parse of every text of a map.
-/
import Derived.Test.YtpmjiifdnnhecaaGreatDoorOaaSv
import Derived.Test.YtpmjiifdnnhecaaGreatDoorOaaBo
namespace Go.Proofs.YtpmjiifdnnhecaaGreatDoor
open Go.RowKit
set_option linter.unusedVariables false
set_option linter.unusedSimpArgs false

/-- What Parse answers. -/
def ParseV (w : World) (L : List ByteArray) (e : Ending) (w' : World) : Prop :=
  ∃ X Y a n c idx err W H ls, e = .returned (.tuple #[.agg #[.int .i64 X, .int .i64 Y, .slice a n c], .int .i64 idx, .int .i64 err]) ∧ ParseR L idx err W H ls ∧ ResV w' err W H ls X Y a n c ∧ Below w.heap.size w w'
theorem parse_bad {w w' : World} {L : List ByteArray} {idx err : Int} (h : ParseR L idx err 0 0 []) (h0 : err ≠ 0) (hb : Below w.heap.size w w') : ParseV w L (.returned (.tuple #[.agg #[.int .i64 0, .int .i64 0, .slice none 0 0], .int .i64 idx, .int .i64 err])) w' :=
  ⟨0, 0, none, 0, 0, idx, err, 0, 0, [], rfl, h, ResV.none _ _ _ _ _ h0, hb⟩
/-- The error of the line with an index. -/
noncomputable def errL (L : List ByteArray) (i : Nat) : Int := lineErr i (L[i]?.getD ⟨#[]⟩)
theorem results_row_tmp2 {P : Program} {fn : Func} {p u v : Tmp} {ty : TypeId} (h : fn.results = #[.cell p ty, .tmp u, .tmp v]) (tmps : Array Value) (w : World) (g : Nat) (t : TypeId) (cs : Array Value) (fr : Nat × Nat) (d : TypeDesc)
    (hp : tmps.getD p undef = .pointer (some ⟨g, 0, none⟩)) (hg : w.heap[g]? = some (.cells cs t fr))
    (hu : P.underlying ty = some d) (hd : (match d with | .struct _ | .array _ _ => true | _ => false) = true) (hi : (P.info? ty).map (·.size) = some cs.size) :
    (results fn tmps).run P w = .ok (.tuple #[.agg cs, tmps.getD u undef, tmps.getD v undef]) w := by
  have hp' : tmps[p]?.getD undef = .pointer (some ⟨g, 0, none⟩) := by simpa using hp
  simp [results, h, hp', asAddr, Sem.run_bind, Result.andThen, run_loadVar_row w g t ty cs fr d hg hu hd hi]
theorem mem_sum {α : Type} (f : α → Nat) {x : α} : ∀ {L : List α}, x ∈ L → f x ≤ (L.map f).sum
  | [], h => by cases h
  | y :: r, h => by
    simp only [List.map_cons, List.sum_cons]
    rcases List.mem_cons.1 h with h | h
    · subst h; omega
    · have := mem_sum f h; omega
theorem first_two (x y : Int) (w : World) (T : TypeId) :
    Calls Tryz.prog 77 #[.slice (some ⟨w.heap.size, 0, none⟩) 2 2] (w.alloc (.cells #[.int .i64 x, .int .i64 y] T)) fun e w' => e = .returned (.int .i64 (firstNZ [x, y])) ∧ w.alloc (.cells #[.int .i64 x, .int .i64 y] T) = w' := by
  refine first_any w.heap.size 0 2 2 [x, y] rfl (by omega) _ (fun j hj => ?_)
  match j, hj with
  | 0, _ => simp [go_sem]
  | 1, _ => simp [go_sem]
/-- The world of the places that Parse's function captures. -/
theorem parse_start (w w1 : World) (s : ByteArray) (hm : MaxAt w) (hb : Below w.heap.size w w1) (r : Nat) (hr : w1.heap[r]? = some (.map formsE 2)) (hrw : w.heap.size ≤ r) :
    ParseI w w.heap.size (w1.heap.size + 1 + 1) w1.heap.size (w1.heap.size + 1) r (linesL s) 0 (((w1.alloc (.cells #[.map (some r)] 254)).alloc (.cells #[.slice none 0 0] 256)).alloc (.cells #[.string mapW] 9)) := by
  have hB : Below w.heap.size w (((w1.alloc (.cells #[.map (some r)] 254)).alloc (.cells #[.slice none 0 0] 256)).alloc (.cells #[.string mapW] 9)) := ((hb.alloc hb.size _).alloc (by simp; have := hb.size; omega) _).alloc (by simp; have := hb.size; omega) _
  have hlr := (Array.getElem?_eq_some_iff.1 hr).1
  refine ⟨hm.on hB, hB, ?_, ?_, ?_, _, [], ?_, World.ownsRow_nil _ _ _ _, fun u hu => (by cases hu), fun _ j u x hu => (by cases hu)⟩
  · have h := Boxed.new ((w1.alloc (.cells #[.map (some r)] 254)).alloc (.cells #[.slice none 0 0] 256)) 9 (.string mapW)
    have e : kindW 0 = mapW := rfl
    rw [e]
    simpa using h
  · exact ((Boxed.new w1 _ _).alloc _).alloc _
  · rw [Below.heap_alloc _ _ _ (by simp; omega), Below.heap_alloc _ _ _ (by simp; omega), Below.heap_alloc _ _ _ hlr]; exact hr
  · have h := (Boxed.new (w1.alloc (.cells #[.map (some r)] 254)) 256 (.slice none 0 0)).alloc (.cells #[.string mapW] 9)
    simpa using h

theorem okL_fits {j : Nat} {x : ByteArray} (h : okL j x = true) : fitsB j (tailL x).length = true := by
  unfold okL at h
  simp only [Bool.and_eq_true] at h
  exact h.2.2
theorem fits_zero {n : Nat} (h : fitsB 0 n = true) : n = 2 := by unfold fitsB at h; simpa using h
theorem fits_pos {j n : Nat} (h : fitsB (j + 1) n = true) : 1 ≤ n := by unfold fitsB at h; rw [if_neg (by omega)] at h; exact of_decide_eq_true h
/-- The rows of a text whose lines all have their form, in memory. -/
theorem parse_rows {W : World} {B p3 n : Nat} {L : List ByteArray} (h : RowsSo W B p3 L n) (hto : okTo L n) (hn : L.length = n) (h1 : 1 ≤ n) :
    ∃ g c g0 c0 us, Boxed W p3 256 (.slice (some ⟨g, 0, none⟩) n c) ∧ n ≤ c ∧ c ≤ maxLen ∧ g < W.heap.size ∧ g0 < W.heap.size ∧ W.cell? ⟨g, 0, none⟩ = some (.slice (some ⟨g0, 0, none⟩) 2 c0) ∧ W.cell? ⟨g0, 0, none⟩ = some (.int .i64 (widR L)) ∧ W.cell? ⟨g0, 1, none⟩ = some (.int .i64 (heiR L)) ∧
      us.length = n - 1 ∧ (∀ (j : Nat) (u : Value), us[j]? = some u → W.cell? ⟨g, 1 + j, none⟩ = some u) ∧ RowsIn W us (rowsR L) ∧ (1 ≤ n - 1 → 1 ≤ (rowsR L).flatten.length) := by
  obtain ⟨v, us, hv, hown, hsh, hok⟩ := h
  have hus : us.length = n := by have := hown.1; simpa using this
  rcases hown.2 with ⟨_, h0⟩ | ⟨g, c, cur, rfl, hB, hblk, hnc, hcm, hcs, htake⟩
  · omega
  have hrow := hok hto
  obtain ⟨x0, hx0⟩ : ∃ x, L[0]? = some x := ⟨L[0]'(by omega), List.getElem?_eq_getElem _⟩
  obtain ⟨u0, hu0⟩ : ∃ u, us[0]? = some u := ⟨us[0]'(by omega), List.getElem?_eq_getElem _⟩
  have ho0 := hrow 0 u0 x0 hu0 hx0
  have hl0 := fits_zero (okL_fits (hto 0 x0 (by omega) hx0))
  rw [hl0] at ho0
  obtain ⟨g0, c0, rfl, hg0, -⟩ := owns_some ho0 (by omega)
  have hli : (intsV (tailL x0)).length = 2 := by unfold intsV; rw [List.length_map]; exact hl0
  have hw : widR L = (intsV (tailL x0))[0]?.getD 0 := by unfold widR; rw [hx0]; rfl
  have hh : heiR L = (intsV (tailL x0))[1]?.getD 0 := by unfold heiR; rw [hx0]; rfl
  have hcell : ∀ (j : Nat) (u : Value), us[j]? = some u → W.cell? ⟨g, j, none⟩ = some u := fun j u hu => owns_cell hown hu
  have hrl : (rowsR L).length = n - 1 := by unfold rowsR; rw [List.length_map, List.length_drop, hn]
  have hrg : ∀ (j : Nat) (r : List Int), (rowsR L)[j]? = some r → ∃ x, L[j + 1]? = some x ∧ r = intsV (tailL x) := fun j r hr => by
    unfold rowsR at hr
    rw [List.getElem?_map, List.getElem?_drop] at hr
    cases hx : L[1 + j]? with
    | none => rw [hx] at hr; cases hr
    | some x => rw [hx] at hr; exact ⟨x, by rw [Nat.add_comm]; exact hx, by simpa using hr.symm⟩
  refine ⟨g, c, g0, c0, us.drop 1, hv, hnc, hcm, (Array.getElem?_eq_some_iff.1 hblk).1, hg0, hcell 0 _ hu0, ?_, ?_, by rw [List.length_drop, hus], ?_, ⟨by rw [List.length_drop, hus, hrl], ?_⟩, ?_⟩
  · rw [hw]; exact owns_cell ho0 (by rw [List.getElem?_map, List.getElem?_eq_getElem (by omega)]; rfl)
  · rw [hh]; exact owns_cell ho0 (by rw [List.getElem?_map, List.getElem?_eq_getElem (by omega)]; rfl)
  · intro j u hu
    rw [List.getElem?_drop] at hu
    exact hcell _ u hu
  · intro j u r hu hr
    obtain ⟨x, hx, rfl⟩ := hrg j r hr
    rw [List.getElem?_drop, Nat.add_comm] at hu
    have ho := hrow (j + 1) u x hu hx
    have hp := fits_pos (okL_fits (hto (j + 1) x (by have := (List.getElem?_eq_some_iff.1 hx).1; omega) hx))
    obtain ⟨gg, cc, rfl, hgg, -⟩ := owns_some ho hp
    refine ⟨gg, cc, by unfold intsV; rw [List.length_map], hgg, fun k v hv => owns_cell ho ?_⟩
    rw [List.getElem?_map, hv]; rfl
  · intro h2
    obtain ⟨r, hr⟩ : ∃ r, (rowsR L)[0]? = some r := ⟨(rowsR L)[0]'(by omega), List.getElem?_eq_getElem _⟩
    obtain ⟨x, hx, rfl⟩ := hrg 0 r hr
    have hp := fits_pos (okL_fits (hto 1 x (by omega) hx))
    have hs := flat_le (rowsR L) 1
    have hf := flat_step (rs := rowsR L) (k := 0) hr
    rw [Nat.zero_add] at hf
    rw [hf] at hs
    have : (intsV (tailL x)).length = (tailL x).length := by unfold intsV; rw [List.length_map]
    rw [List.take_zero, List.flatten_nil, List.nil_append] at hs
    omega

set_option maxRecDepth 100000 in
set_option maxHeartbeats 12800000 in
theorem parse_any (s : ByteArray) (w : World) (hs : s.size ≤ 4096) (hm : MaxAt w) :
    Calls Tryz.prog 74 #[.string s] w (ParseV w (linesL s)) := by
  have KF : Hid (∀ W, Calls Tryz.prog 161 #[] W fun e w' => e = .returned (.map (some W.heap.size)) ∧ w'.heap[W.heap.size]? = some (.map formsE 2) ∧ Below W.heap.size W w') := Lib.hid fun W => lineForms_any W
  have hlen := linesL_len s
  obtain ⟨Wa, hWa⟩ : ∃ Wa, w.alloc (.cells #[.int .i64 0, .int .i64 0, .slice none 0 0] 121) = Wa := ⟨_, rfl⟩
  have hBa : Below w.heap.size w Wa := by rw [← hWa]; exact (Below.refl _ w).alloc (Nat.le_refl _) _
  have hsa : Wa.heap.size = w.heap.size + 1 := by rw [← hWa]; simp
  have hka : Wa.heap[w.heap.size]? = some (.cells #[.int .i64 0, .int .i64 0, .slice none 0 0] 121 (0, 0)) := by rw [← hWa]; exact heap_alloc_new w _
  have hma : MaxAt Wa := hm.on hBa
  have HM := Lib.hid hma
  have KL : Hid (∀ (W : World) (p1 p2 p3 r : Nat), Wa.heap.size ≤ W.heap.size → Wa.heap.size ≤ p1 → Wa.heap.size ≤ p3 → p1 ≠ p3 → p1 < W.heap.size → p2 < W.heap.size → p3 < W.heap.size → ParseI Wa Wa.heap.size p1 p2 p3 r (linesL s) 0 W →
      Calls Tryz.prog 102 #[.string s, .int .i64 1000000, .func (.func 162) #[] #[.pointer (some ⟨p1, 0, none⟩), .pointer (some ⟨p2, 0, none⟩), .pointer (some ⟨p3, 0, none⟩)]] W
        (ReadLinesV (linesL s).length (errL (linesL s)) (fun i W' => ParseI Wa Wa.heap.size p1 p2 p3 r (linesL s) i W' ∧ Wa.heap.size ≤ W'.heap.size))) :=
    Lib.hid fun W p1 p2 p3 r hW h1 h3 h13 l1 l2 l3 hI =>
      readLines_any 162 s 1000000 W (by omega) (by omega) (by omega) hI.max p1 p2 p3 _ _
        (fun i W1 W2 h hb => ⟨h.1.on hb h.2, Nat.le_trans h.2 hb.size⟩) ⟨hI, hW⟩
        (fun i x W1 hx h => by
          have hxs : x.size ≤ 1000001 := by
            have := lines_sum s
            have := mem_sum ByteArray.size (List.mem_of_getElem? hx)
            omega
          refine (parse1_any Wa Wa.heap.size p1 p2 p3 r (linesL s) i x W1 hx (by omega) hxs HM.out rfl h.2 h1 h3 h13 h.1).mono ?_
          rintro e W2 ⟨he, hI2, hk⟩
          refine ⟨by rw [he]; unfold errL; rw [hx]; rfl, ⟨hI2, ?_⟩, hk⟩
          have := hI2.below.size
          omega)
        l1 l2 l3 (enters_of Tryz.func162 (by kernel_rfl) rfl)
  have hbnd := rows_le s
  have HST := Lib.hid (fun w1 hb r hr hrw => parse_start Wa w1 s hma hb r hr hrw)
  obtain ⟨L, hL⟩ : ∃ L, linesL s = L := ⟨_, rfl⟩
  rw [hL] at KL hlen hbnd HST ⊢
  have HL := Lib.hid hL
  have HBA := Lib.hid hBa
  have HKA := Lib.hid hka
  have HSA := Lib.hid hsa
  clear hL hm hBa hka hma hsa
  go_enter Tryz.func74, Tryz.ntmps74
  go_wp2_with fail
  try rw [hWa]
  refine (KF.out _).mono ?_
  rintro e w1 ⟨rfl, hr, hb1⟩
  have hI0 := Lib.hid (HST.out w1 hb1 Wa.heap.size hr (Nat.le_refl _))
  have hs1 := hb1.size
  clear hr hb1 hWa
  go_wp2_with fail
  refine (KL.out _ _ _ _ Wa.heap.size (by simp; omega) (by omega) (by omega) (by omega) (by simp) (by simp; omega) (by simp) hI0.out).mono ?_
  rintro e w2 ⟨k, hk, hz, hor⟩
  have HZ := Lib.hid hz
  clear hz
  rcases hor with ⟨hlt, hne, rfl, hI2, hs2⟩ | ⟨rfl, rfl, hI2, hs2⟩
  · obtain ⟨x, hx⟩ : ∃ x, L[k]? = some x := ⟨L[k]'hlt, List.getElem?_eq_getElem _⟩
    have hgx : L[k]?.getD ⟨#[]⟩ = x := by rw [hx]; rfl
    have hokx : okL k x = false := by
      cases h : okL k x
      · rfl
      · exfalso; apply hne
        unfold errL
        rw [hgx]; unfold lineErr; rw [h]; rfl
    have hv : errL L k = 25 := by unfold errL; rw [hgx]; unfold lineErr; rw [hokx]; rfl
    have hto : okTo L k := fun j y hj hy => by
      have h := HZ.out j hj
      have h' : lineErr j (L[j]?.getD ⟨#[]⟩) = 0 := h
      rw [hy] at h'
      cases h2 : okL j y
      · exfalso
        have h3 : lineErr j y = 0 := h'
        unfold lineErr at h3; rw [h2] at h3; exact absurd h3 (by decide)
      · rfl
    have HP := Lib.hid (show ParseR L (k : Int) 25 0 0 [] from .inl ⟨k, x, hx, hto, hokx, rfl, rfl⟩)
    rw [hv]
    have hk2 : w2.heap[w.heap.size]? = some (.cells #[.int .i64 0, .int .i64 0, .slice none 0 0] 121 (0, 0)) := (hI2.below.block _ (by have := HSA.out; omega)).trans HKA.out
    have HB2 := Lib.hid (HBA.out.trans (hI2.below.mono (by have := HSA.out; omega)))
    obtain ⟨b, hb⟩ : ∃ b, ((k : Int) == 0) = b := ⟨_, rfl⟩
    have hs3 : w.heap.size < w2.heap.size := (Array.getElem?_eq_some_iff.1 hk2).1
    have t0 : w2.cell? ⟨w.heap.size, 0, none⟩ = some (.int .i64 0) := by rw [cell_of_row w2 _ 0 _ _ (0, 0) hk2]; rfl
    have t1 : w2.cell? ⟨w.heap.size, 1, none⟩ = some (.int .i64 0) := by rw [cell_of_row w2 _ 1 _ _ (0, 0) hk2]; rfl
    have t2 : w2.cell? ⟨w.heap.size, 2, none⟩ = some (.slice none 0 0) := by rw [cell_of_row w2 _ 2 _ _ (0, 0) hk2]; rfl
    have f0 : w2.frozen? ⟨w.heap.size, 0, none⟩ = false := frozen_of_row w2 _ 0 _ _ hk2
    have f1 : w2.frozen? ⟨w.heap.size, 1, none⟩ = false := frozen_of_row w2 _ 1 _ _ hk2
    have f2 : w2.frozen? ⟨w.heap.size, 2, none⟩ = false := frozen_of_row w2 _ 2 _ _ hk2
    have HK2 := Lib.hid hk2
    clear hx hgx hokx hv hto hne hI2 hk2
    go_wp2_with fail
    refine (cwhen_any b 25 _).mono ?_
    rintro e w3 ⟨rfl, rfl⟩
    obtain ⟨v, hv⟩ : ∃ v, (if b = true then (25 : Int) else 0) = v := ⟨_, rfl⟩
    rw [hv]
    clear hv hb
    go_wp2_with fail
    refine (first_two 25 v _ _).mono ?_
    rintro e w4 ⟨rfl, rfl⟩
    have e25 : firstNZ [25, v] = 25 := by unfold firstNZ; rw [if_pos (by decide)]
    rw [e25]
    clear e25
    go_wp2
    obtain ⟨rF, bF⟩ := asm_end (x' := .int .i64 0) (y' := .int .i64 0) (z' := .slice none 0 0) HK2.out HB2.out (.cells #[.int .i64 25, .int .i64 v] 26)
    obtain ⟨WF, hWF⟩ : ∃ WF, ((((w2.setCell ⟨w.heap.size, 0, none⟩ (.int .i64 0)).setCell ⟨w.heap.size, 1, none⟩ (.int .i64 0)).setCell ⟨w.heap.size, 2, none⟩ (.slice none 0 0)).alloc (.cells #[.int .i64 25, .int .i64 v] 26)) = WF := ⟨_, rfl⟩
    rw [hWF] at rF bF ⊢
    exact bodyPost_ret (v := .tuple #[.agg #[.int .i64 0, .int .i64 0, .slice none 0 0], .int .i64 k, .int .i64 25]) (results_row_tmp2 Tryz.results74 _ _ w.heap.size 121 _ (0, 0) _ rfl rF Tryz.underlying121 rfl (by kernel_rfl)) rfl (parse_bad HP.out (by decide) bF)
  · have hto : okTo L L.length := fun j y hj hy => by
      have h := HZ.out j hj
      unfold errL at h
      rw [hy] at h
      cases h2 : okL j y
      · exfalso
        have h3 : lineErr j y = 0 := h
        unfold lineErr at h3; rw [h2] at h3; exact absurd h3 (by decide)
      · rfl
    obtain ⟨n, hn⟩ : ∃ n, L.length = n := ⟨_, rfl⟩
    have HN := Lib.hid hn
    rw [hn] at hto hlen hI2 ⊢
    by_cases h0 : n = 0
    · have HP := Lib.hid (show ParseR L 0 25 0 0 [] from .inr (.inl ⟨hn.trans h0, rfl, rfl⟩))
      subst h0
      have hk2 : w2.heap[w.heap.size]? = some (.cells #[.int .i64 0, .int .i64 0, .slice none 0 0] 121 (0, 0)) := (hI2.below.block _ (by have := HSA.out; omega)).trans HKA.out
      have HB2 := Lib.hid (HBA.out.trans (hI2.below.mono (by have := HSA.out; omega)))
      have hs3 : w.heap.size < w2.heap.size := (Array.getElem?_eq_some_iff.1 hk2).1
      have t0 : w2.cell? ⟨w.heap.size, 0, none⟩ = some (.int .i64 0) := by rw [cell_of_row w2 _ 0 _ _ (0, 0) hk2]; rfl
      have t1 : w2.cell? ⟨w.heap.size, 1, none⟩ = some (.int .i64 0) := by rw [cell_of_row w2 _ 1 _ _ (0, 0) hk2]; rfl
      have t2 : w2.cell? ⟨w.heap.size, 2, none⟩ = some (.slice none 0 0) := by rw [cell_of_row w2 _ 2 _ _ (0, 0) hk2]; rfl
      have f0 : w2.frozen? ⟨w.heap.size, 0, none⟩ = false := frozen_of_row w2 _ 0 _ _ hk2
      have f1 : w2.frozen? ⟨w.heap.size, 1, none⟩ = false := frozen_of_row w2 _ 1 _ _ hk2
      have f2 : w2.frozen? ⟨w.heap.size, 2, none⟩ = false := frozen_of_row w2 _ 2 _ _ hk2
      have HK2 := Lib.hid hk2
      clear hn hto hI2 hk2
      go_wp2_with fail
      refine (cwhen_any true 25 _).mono ?_
      rintro e w3 ⟨rfl, rfl⟩
      rw [if_pos rfl]
      go_wp2_with fail
      refine (first_two 0 25 _ _).mono ?_
      rintro e w4 ⟨rfl, rfl⟩
      have e25 : firstNZ [0, 25] = 25 := by decide
      rw [e25]
      clear e25
      go_wp2
      obtain ⟨rF, bF⟩ := asm_end (x' := .int .i64 0) (y' := .int .i64 0) (z' := .slice none 0 0) HK2.out HB2.out (.cells #[.int .i64 0, .int .i64 25] 26)
      obtain ⟨WF, hWF⟩ : ∃ WF, ((((w2.setCell ⟨w.heap.size, 0, none⟩ (.int .i64 0)).setCell ⟨w.heap.size, 1, none⟩ (.int .i64 0)).setCell ⟨w.heap.size, 2, none⟩ (.slice none 0 0)).alloc (.cells #[.int .i64 0, .int .i64 25] 26)) = WF := ⟨_, rfl⟩
      rw [hWF] at rF bF ⊢
      exact bodyPost_ret (v := .tuple #[.agg #[.int .i64 0, .int .i64 0, .slice none 0 0], .int .i64 0, .int .i64 25]) (results_row_tmp2 Tryz.results74 _ _ w.heap.size 121 _ (0, 0) _ rfl rF Tryz.underlying121 rfl (by kernel_rfl)) rfl (parse_bad HP.out (by decide) bF)
    · obtain ⟨g, c, g0, c0, us, hp3, hnc, hcm, hg, hg0, k0, k1, k2, hus, hcu, hri, hpos⟩ := parse_rows hI2.rows hto hn (by omega)
      have e0 : ((n : Int) == 0) = false := by simp [h0]
      have hk2 : w2.heap[w.heap.size]? = some (.cells #[.int .i64 0, .int .i64 0, .slice none 0 0] 121 (0, 0)) := (hI2.below.block _ (by have := HSA.out; omega)).trans HKA.out
      have HB2 := Lib.hid (HBA.out.trans (hI2.below.mono (by have := HSA.out; omega)))
      have hs3 : w.heap.size < w2.heap.size := (Array.getElem?_eq_some_iff.1 hk2).1
      have HK2 := Lib.hid hk2
      have cp3 := hp3.cell
      have lp3 := hp3.lt
      have HCU := Lib.hid hcu
      have HRI := Lib.hid hri
      have HPOS := Lib.hid hpos
      have HUS := Lib.hid hus
      have HTO := Lib.hid hto
      have hc2 : c ≤ 9223372036854775807 := by unfold maxLen at hcm; omega
      clear hn hto hI2 hk2 hp3 hus hcu hri hpos hcm
      go_wp2_with fail
      refine (cwhen_any false 25 _).mono ?_
      rintro e w3 ⟨rfl, rfl⟩
      rw [if_neg (by decide)]
      go_wp2_with fail
      refine (first_two 0 0 _ _).mono ?_
      rintro e w4 ⟨rfl, rfl⟩
      have e25 : firstNZ [0, 0] = 0 := by decide
      rw [e25]
      clear e25
      obtain ⟨W5, hW5⟩ : ∃ W5, w2.alloc (.cells #[.int .i64 0, .int .i64 0] 26) = W5 := ⟨_, rfl⟩
      have hB5 : Below w2.heap.size w2 W5 := by rw [← hW5]; exact (Below.refl _ w2).alloc (Nat.le_refl _) _
      rw [hW5]
      clear hW5
      have HB5 := Lib.hid hB5
      have cp3' : W5.cell? ⟨w1.heap.size + 1, 0, none⟩ = some (.slice (some ⟨g, 0, none⟩) n c) := (hB5.cell (by exact lp3)).trans cp3
      have k0' : W5.cell? ⟨g, 0, none⟩ = some (.slice (some ⟨g0, 0, none⟩) 2 c0) := (hB5.cell (by exact hg)).trans k0
      have k1' : W5.cell? ⟨g0, 0, none⟩ = some (.int .i64 (widR L)) := (hB5.cell (by exact hg0)).trans k1
      have k2' : W5.cell? ⟨g0, 1, none⟩ = some (.int .i64 (heiR L)) := (hB5.cell (by exact hg0)).trans k2
      have hs5 := hB5.size
      have KA : Hid (∀ (W : World) (o c' : Nat), (o = 1 ∨ n = 1) → Below W5.heap.size W5 W → Calls Tryz.prog 164 #[.int .i64 (widR L), .int .i64 (heiR L), .slice (some ⟨g, o, none⟩) (n - 1) c'] W (AsmV W (widR L) (heiR L) (rowsR L))) :=
        Lib.hid fun W o c' ho hb => by
          have hbb := HB5.out.trans (hb.mono hs5)
          refine assembled_any (widR L) (heiR L) g o (n - 1) c' us (rowsR L) W (by have := hbb.size; omega) HUS.out (by omega) (fun j u hu => ?_) (HRI.out.on hbb) (by omega) HPOS.out
          rcases ho with rfl | h1
          · exact (hbb.cell (by exact hg)).trans (HCU.out j u hu)
          · have := (List.getElem?_eq_some_iff.1 hu).1
            have := HUS.out
            omega
      obtain ⟨a, ha⟩ : ∃ a, widR L = a := ⟨_, rfl⟩
      obtain ⟨b, hb⟩ : ∃ b, heiR L = b := ⟨_, rfl⟩
      rw [ha] at k1' KA
      rw [hb] at k2' KA
      have HAB := Lib.hid (And.intro ha hb)
      clear ha hb k0 k1 k2 cp3 hB5
      have hk5 := (HB5.out.block w.heap.size hs3).trans HK2.out
      have T0 : W5.cell? ⟨w.heap.size, 0, none⟩ = some (.int .i64 0) := by rw [cell_of_row W5 _ 0 _ _ (0, 0) hk5]; rfl
      have T1 : W5.cell? ⟨w.heap.size, 1, none⟩ = some (.int .i64 0) := by rw [cell_of_row W5 _ 1 _ _ (0, 0) hk5]; rfl
      have T2 : W5.cell? ⟨w.heap.size, 2, none⟩ = some (.slice none 0 0) := by rw [cell_of_row W5 _ 2 _ _ (0, 0) hk5]; rfl
      have F0 : W5.frozen? ⟨w.heap.size, 0, none⟩ = false := frozen_of_row W5 _ 0 _ _ hk5
      have F1 : W5.frozen? ⟨w.heap.size, 1, none⟩ = false := frozen_of_row W5 _ 1 _ _ hk5
      have F2 : W5.frozen? ⟨w.heap.size, 2, none⟩ = false := frozen_of_row W5 _ 2 _ _ hk5
      have HK5 := Lib.hid hk5
      clear hk5
      obtain ⟨er, her⟩ : ∃ er, asmErr a b (rowsR L) = er := ⟨_, rfl⟩
      have HER := Lib.hid her
      clear her
      have hR : Blw W5.heap.size W5 W5.drew := show Below _ _ _ from (Below.refl W5.heap.size W5).drew
      have hR2 : Below W5.heap.size W5 (W5.alloc (.cells #[.int .i64 0, .int .i64 0, .slice none 0 0] 121)).drew := ((Below.refl W5.heap.size W5).alloc (Nat.le_refl _) _).drew
      go_upto_region 8 with fail
      go_cut [9, 10] (fun s9 s10 wr => (∃ Bm, s10 = .pointer (some ⟨Bm, 0, none⟩) ∧ Bm ≠ w.heap.size ∧ ResBox wr Bm 121 er a b (rowsR L).flatten) ∧ s9 = .int .i64 er ∧ Blw W5.heap.size W5 wr)
      case first =>
        clear T0 T1 T2 F0 F1 F2
        by_cases hc1 : c = 1
        · obtain rfl : n = 1 := by omega
          subst hc1
          go_region_held3 (fun w' => w'.cell? ⟨w1.heap.size + 1, 0, none⟩ = some (.slice (some ⟨g, 0, none⟩) 1 1) ∧ w'.cell? ⟨g, 0, none⟩ = some (.slice (some ⟨g0, 0, none⟩) 2 c0) ∧ w'.cell? ⟨g0, 0, none⟩ = some (.int .i64 a) ∧ w'.cell? ⟨g0, 1, none⟩ = some (.int .i64 b))
            (first | go_keep | (go_split_ands; refine ⟨?_, ?_, ?_, ?_⟩ <;> assumption))
            ((go_at_call 164; refine (KA.out _ 0 _ (.inr rfl) (by first | exact hR | exact hR2)).mono ?_; rintro e w6 ⟨X, Y, a', n', c', rfl, hres, hb6⟩
              rw [HER.out] at hres ⊢
              have HRES := Lib.hid hres
              clear hres
              have hbl : Blw W5.heap.size W5 w6 := by first | exact Below.trans hR hb6 | exact Below.trans hR2 (Below.mono hb6 (by simp))
              have HBL := Lib.hid hbl
              have d0 : w6.cell? ⟨w1.heap.size + 1, 0, none⟩ = some (.slice (some ⟨g, 0, none⟩) 1 1) := (Below.cell hbl (by show w1.heap.size + 1 < W5.heap.size; omega)).trans cp3'
              have d1 : w6.cell? ⟨g, 0, none⟩ = some (.slice (some ⟨g0, 0, none⟩) 2 c0) := (Below.cell hbl (by show g < W5.heap.size; omega)).trans k0'
              have d2 : w6.cell? ⟨g0, 0, none⟩ = some (.int .i64 a) := (Below.cell hbl (by show g0 < W5.heap.size; omega)).trans k1'
              have d3 : w6.cell? ⟨g0, 1, none⟩ = some (.int .i64 b) := (Below.cell hbl (by show g0 < W5.heap.size; omega)).trans k2'
              have q0 := World.new_ne w6 _ d0
              have q1 := World.new_ne w6 _ d1
              have q2 := World.new_ne w6 _ d2
              have q4 : ¬ (W5.heap.size = w1.heap.size + 1) := by omega
              have q5 : ¬ (W5.heap.size = g) := by omega
              have q6 : ¬ (W5.heap.size = g0) := by omega
              try (have z0 : w6.cell? ⟨W5.heap.size, 0, none⟩ = some (.int .i64 0) := by rw [hb6.cell (by simp)]; simp [go_sem])
              try (have z1 : w6.cell? ⟨W5.heap.size, 1, none⟩ = some (.int .i64 0) := by rw [hb6.cell (by simp)]; simp [go_sem])
              try (have z2 : w6.cell? ⟨W5.heap.size, 2, none⟩ = some (.slice none 0 0) := by rw [hb6.cell (by simp)]; simp [go_sem])
              try (have y0 : w6.frozen? ⟨W5.heap.size, 0, none⟩ = false := by rw [hb6.frozen (by simp)]; simp [go_sem])
              try (have y1 : w6.frozen? ⟨W5.heap.size, 1, none⟩ = false := by rw [hb6.frozen (by simp)]; simp [go_sem])
              try (have y2 : w6.frozen? ⟨W5.heap.size, 2, none⟩ = false := by rw [hb6.frozen (by simp)]; simp [go_sem])
              try (have zz : Hid (w6.heap[W5.heap.size]? = some (.cells #[.int .i64 0, .int .i64 0, .slice none 0 0] 121 (0, 0))) := Lib.hid ((hb6.block _ (by simp)).trans (heap_alloc_new W5 _)))
              clear hbl hb6))
          all_goals
            go_wp2
            go_meet
            first
              | exact ⟨⟨_, rfl, by have := (HBL.out : Below _ _ _).size; omega, ResBox.new HRES.out⟩, rfl, Below.alloc HBL.out (Below.size HBL.out) _⟩
              | exact ⟨⟨_, rfl, by omega, ResBox.put zz.out HRES.out⟩, rfl, ((Below.setCell HBL.out (p := ⟨W5.heap.size, 0, none⟩) (Nat.le_refl _) _).setCell (p := ⟨W5.heap.size, 1, none⟩) (Nat.le_refl _) _).setCell (p := ⟨W5.heap.size, 2, none⟩) (Nat.le_refl _) _⟩
        · have hc3 : 1 < c := by omega
          have n0 : (0 : Int) < (n : Int) := by omega
          have n1 : (1 : Int) ≤ (n : Int) := by omega
          have n2 : 0 < n := by omega
          have n3 : 1 ≤ n := by omega
          go_region_held3 (fun w' => w'.cell? ⟨w1.heap.size + 1, 0, none⟩ = some (.slice (some ⟨g, 0, none⟩) n c) ∧ w'.cell? ⟨g, 0, none⟩ = some (.slice (some ⟨g0, 0, none⟩) 2 c0) ∧ w'.cell? ⟨g0, 0, none⟩ = some (.int .i64 a) ∧ w'.cell? ⟨g0, 1, none⟩ = some (.int .i64 b))
            (first | go_keep | (go_split_ands; refine ⟨?_, ?_, ?_, ?_⟩ <;> assumption))
            ((go_at_call 164; refine (KA.out _ 1 _ (.inl rfl) (by first | exact hR | exact hR2)).mono ?_; rintro e w6 ⟨X, Y, a', n', c', rfl, hres, hb6⟩
              rw [HER.out] at hres ⊢
              have HRES := Lib.hid hres
              clear hres
              have hbl : Blw W5.heap.size W5 w6 := by first | exact Below.trans hR hb6 | exact Below.trans hR2 (Below.mono hb6 (by simp))
              have HBL := Lib.hid hbl
              have d0 : w6.cell? ⟨w1.heap.size + 1, 0, none⟩ = some (.slice (some ⟨g, 0, none⟩) n c) := (Below.cell hbl (by show w1.heap.size + 1 < W5.heap.size; omega)).trans cp3'
              have d1 : w6.cell? ⟨g, 0, none⟩ = some (.slice (some ⟨g0, 0, none⟩) 2 c0) := (Below.cell hbl (by show g < W5.heap.size; omega)).trans k0'
              have d2 : w6.cell? ⟨g0, 0, none⟩ = some (.int .i64 a) := (Below.cell hbl (by show g0 < W5.heap.size; omega)).trans k1'
              have d3 : w6.cell? ⟨g0, 1, none⟩ = some (.int .i64 b) := (Below.cell hbl (by show g0 < W5.heap.size; omega)).trans k2'
              have q0 := World.new_ne w6 _ d0
              have q1 := World.new_ne w6 _ d1
              have q2 := World.new_ne w6 _ d2
              have q4 : ¬ (W5.heap.size = w1.heap.size + 1) := by omega
              have q5 : ¬ (W5.heap.size = g) := by omega
              have q6 : ¬ (W5.heap.size = g0) := by omega
              try (have z0 : w6.cell? ⟨W5.heap.size, 0, none⟩ = some (.int .i64 0) := by rw [hb6.cell (by simp)]; simp [go_sem])
              try (have z1 : w6.cell? ⟨W5.heap.size, 1, none⟩ = some (.int .i64 0) := by rw [hb6.cell (by simp)]; simp [go_sem])
              try (have z2 : w6.cell? ⟨W5.heap.size, 2, none⟩ = some (.slice none 0 0) := by rw [hb6.cell (by simp)]; simp [go_sem])
              try (have y0 : w6.frozen? ⟨W5.heap.size, 0, none⟩ = false := by rw [hb6.frozen (by simp)]; simp [go_sem])
              try (have y1 : w6.frozen? ⟨W5.heap.size, 1, none⟩ = false := by rw [hb6.frozen (by simp)]; simp [go_sem])
              try (have y2 : w6.frozen? ⟨W5.heap.size, 2, none⟩ = false := by rw [hb6.frozen (by simp)]; simp [go_sem])
              try (have zz : Hid (w6.heap[W5.heap.size]? = some (.cells #[.int .i64 0, .int .i64 0, .slice none 0 0] 121 (0, 0))) := Lib.hid ((hb6.block _ (by simp)).trans (heap_alloc_new W5 _)))
              clear hbl hb6))
          all_goals
            go_wp2
            go_meet
            first
              | exact ⟨⟨_, rfl, by have := (HBL.out : Below _ _ _).size; omega, ResBox.new HRES.out⟩, rfl, Below.alloc HBL.out (Below.size HBL.out) _⟩
              | exact ⟨⟨_, rfl, by omega, ResBox.put zz.out HRES.out⟩, rfl, ((Below.setCell HBL.out (p := ⟨W5.heap.size, 0, none⟩) (Nat.le_refl _) _).setCell (p := ⟨W5.heap.size, 1, none⟩) (Nat.le_refl _) _).setCell (p := ⟨W5.heap.size, 2, none⟩) (Nat.le_refl _) _⟩
      case rest =>
        rename_i hK
        obtain ⟨⟨Bm, rfl, hne, hbx⟩, rfl, hbl⟩ := hcut
        refine hK _ _ ?_
        clear hK
        obtain ⟨X, Y, a', n', c', hbm, hres⟩ := hbx
        have hk := (Below.block hbl w.heap.size (by omega)).trans HK5.out
        have T0' := (Below.cell hbl (p := ⟨w.heap.size, 0, none⟩) (by show w.heap.size < W5.heap.size; omega)).trans T0
        have T1' := (Below.cell hbl (p := ⟨w.heap.size, 1, none⟩) (by show w.heap.size < W5.heap.size; omega)).trans T1
        have T2' := (Below.cell hbl (p := ⟨w.heap.size, 2, none⟩) (by show w.heap.size < W5.heap.size; omega)).trans T2
        have F0' := (Below.frozen hbl (p := ⟨w.heap.size, 0, none⟩) (by show w.heap.size < W5.heap.size; omega)).trans F0
        have F1' := (Below.frozen hbl (p := ⟨w.heap.size, 1, none⟩) (by show w.heap.size < W5.heap.size; omega)).trans F1
        have F2' := (Below.frozen hbl (p := ⟨w.heap.size, 2, none⟩) (by show w.heap.size < W5.heap.size; omega)).trans F2
        have HBF := Lib.hid (HB2.out.trans ((HB5.out.mono (by omega)).trans (Below.mono hbl (by omega))))
        have HKR := Lib.hid hk
        have HRES := Lib.hid hres
        have r0 := cell_of_row _ Bm 0 _ _ (0, 0) hbm
        have r1 := cell_of_row _ Bm 1 _ _ (0, 0) hbm
        have r2 := cell_of_row _ Bm 2 _ _ (0, 0) hbm
        simp only [List.getElem?_toArray, List.getElem?_cons_zero, List.getElem?_cons_succ] at r0 r1 r2
        clear T0 T1 T2 F0 F1 F2 hbl hk hres hbm cp3' k0' k1' k2'
        have hpr : ParseR L (if er = 0 then 0 else (n : Int)) er a b (rowsR L).flatten := by
          obtain ⟨ha, hb⟩ := HAB.out
          have he : asmErr (widR L) (heiR L) (rowsR L) = er := by rw [ha, hb]; exact HER.out
          exact .inr (.inr ⟨by have := HN.out; omega, by rw [HN.out]; exact HTO.out, ha.symm, hb.symm, rfl, he.symm, by rw [he, HN.out]⟩)
        have HPR := Lib.hid hpr
        clear hpr
        by_cases her0 : er = 0
        · subst her0
          go_wp2
          have rF := blk_set3 HKR.out (.int .i64 X) (.int .i64 Y) (.slice a' n' c')
          have bF := below_set3 HBF.out (Nat.le_refl _) (.int .i64 X) (.int .i64 Y) (.slice a' n' c')
          have rR := ResV.stored HKR.out (OneBlk.set3 _ _ (.int .i64 X) (.int .i64 Y) (.slice a' n' c')) HRES.out
          have hp0 := HPR.out
          first | rw [if_pos rfl] at hp0 | rw [if_pos trivial] at hp0
          exact bodyPost_ret (v := .tuple #[.agg #[.int .i64 X, .int .i64 Y, .slice a' n' c'], .int .i64 0, .int .i64 0]) (results_row_tmp2 Tryz.results74 _ _ w.heap.size 121 _ (0, 0) _ rfl rF Tryz.underlying121 rfl (by kernel_rfl)) rfl ⟨X, Y, a', n', c', 0, 0, a, b, _, rfl, hp0, rR, bF⟩
        · have ev : (er != 0) = true := by simp [her0]
          have H0 := Lib.hid her0
          clear her0
          go_wp2
          have rF := blk_set3 HKR.out (.int .i64 0) (.int .i64 0) (.slice none 0 0)
          have bF := below_set3 HBF.out (Nat.le_refl _) (.int .i64 0) (.int .i64 0) (.slice none 0 0)
          have hp0 := HPR.out
          rw [if_neg H0.out] at hp0
          exact bodyPost_ret (v := .tuple #[.agg #[.int .i64 0, .int .i64 0, .slice none 0 0], .int .i64 n, .int .i64 er]) (results_row_tmp2 Tryz.results74 _ _ w.heap.size 121 _ (0, 0) _ rfl rF Tryz.underlying121 rfl (by kernel_rfl)) rfl ⟨0, 0, none, 0, 0, n, er, a, b, _, rfl, hp0, ResV.none _ _ _ _ _ H0.out, bF⟩
end Go.Proofs.YtpmjiifdnnhecaaGreatDoor
