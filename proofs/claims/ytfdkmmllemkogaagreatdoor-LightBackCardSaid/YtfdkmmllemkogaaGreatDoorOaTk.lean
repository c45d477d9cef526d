/-
  Streams: the bytes of a right map's stream, whole and without the last one, as Unpack takes them.
-/
import Derived.Test.YtfdkmmllemkogaaGreatDoorOaBp
import Derived.Test.YtfdkmmllemkogaaGreatDoorOZd
import Derived.Test.YtfdkmmllemkogaaGreatDoorOaSt
namespace Go.Proofs.YtfdkmmllemkogaaGreatDoor
open Go.RowKit
set_option linter.unusedVariables false
set_option linter.unusedSimpArgs false

theorem num_word {v : Int} (h0 : 0 ≤ v) (h1 : v ≤ 4294967295) : numOf (wordOf v) = v := by
  unfold numOf wordOf byt
  simp only [List.foldl_cons, List.foldl_nil]
  omega
theorem packS_len (W H : Nat) (ks : List Int) : (packS W H ks).length = 6 + 4 * ks.length := by
  unfold packS; rw [List.length_append, packBody_len]; rfl
theorem packLen (W H : Nat) (ks : List Int) : (packL W H ks).length = 10 + 4 * ks.length := by
  unfold packL; rw [List.length_append, packS_len]
  have : (wordOf (chkOf (packS W H ks))).length = 4 := rfl
  omega
theorem body_word (T : List Int) : ∀ (ks : List Int) (i : Nat), i < ks.length → ((packBody ks ++ T).drop (4 * i)).take 4 = wordOf (smpOf (ks[i]?.getD 0))
  | [], i, h => by simp at h
  | k :: r, 0, _ => by
    have e : packBody (k :: r) = wordOf (smpOf k) ++ packBody r := by unfold packBody; rw [List.flatMap_cons]
    rw [e]; rfl
  | k :: r, i + 1, h => by
    have ih := body_word T r i (by simp at h; omega)
    have e : packBody (k :: r) = wordOf (smpOf k) ++ packBody r := by unfold packBody; rw [List.flatMap_cons]
    have hd : (wordOf (smpOf k) ++ packBody r ++ T).drop (4 + 4 * i) = (packBody r ++ T).drop (4 * i) := by rw [← List.drop_drop]; rfl
    rw [e, show 4 * (i + 1) = 4 + 4 * i by omega, hd, ih]; rfl
theorem smpOf_not_neg {k : Int} (hk : k.natAbs ≤ 16384) : smpOf k ≠ 2147483648 := fun h => by
  have h1 := smpOf_smp k (by omega)
  have h0 := smpOf_smp 0 (by decide)
  rw [smpOf_zero] at h0
  have h2 := Smp.order h1 h0
  rw [h] at h2
  have h3 : Ieee.single.order 2147483648 0 = some .eq := by decide +kernel
  rw [h3] at h2
  have h4 : compare k 0 = .eq := (Option.some.inj h2).symm
  have h5 : k = 0 := by simpa using h4
  subst h5
  rw [smpOf_zero] at h
  exact absurd h (by decide)
theorem smpOf_w (n : Int) (hn : n.natAbs < 2 ^ 24) : smpOf n < 2 ^ 32 := by
  have := floatBits_wf (smpOf_run n hn)
  simpa [Lit.wf] using this
theorem pack_W (W H : Nat) (ks : List Int) : unW (packL W H ks) = (W : Int) ∧ unH (packL W H ks) = (H : Int) ∧ unN (packL W H ks) = W * H := by
  have h1 : unW (packL W H ks) = (W : Int) := rfl
  have h2 : unH (packL W H ks) = (H : Int) := rfl
  refine ⟨h1, h2, ?_⟩
  unfold unN; rw [h1, h2, Int.toNat_natCast, Int.toNat_natCast]
theorem pack_Xs {W H : Nat} {ks : List Int} (ha : W * H = ks.length) (hk : ∀ k ∈ ks, k.natAbs ≤ 16384) : unXs (packL W H ks) = ks.map smpOf := by
  unfold unXs
  rw [(pack_W W H ks).2.2, ha]
  apply List.ext_getElem?
  intro i
  rw [List.getElem?_map, List.getElem?_map]
  by_cases hi : i < ks.length
  · rw [List.getElem?_range hi, List.getElem?_eq_getElem hi]
    show some (wordAt (packL W H ks) i) = some (smpOf ks[i])
    have hki := hk _ (List.getElem_mem hi)
    have hw := smpOf_w ks[i] (by omega)
    have e : quad (packL W H ks) i = wordOf (smpOf ks[i]) := by
      have h := body_word (wordOf (chkOf (packS W H ks))) ks i hi
      rw [List.getElem?_eq_getElem hi] at h
      have hd : (packL W H ks).drop (6 + 4 * i) = (packBody ks ++ wordOf (chkOf (packS W H ks))).drop (4 * i) := by rw [← List.drop_drop]; rfl
      unfold quad
      rw [hd]; exact h
    unfold wordAt
    rw [e, num_word (by omega) (by omega), Int.toNat_natCast]
  · rw [List.getElem?_eq_none (by simp; omega), List.getElem?_eq_none (by omega)]; rfl
/-- The stream of a right map has no error, and gives the map back. -/
theorem pack_reads {W H : Nat} {ks : List Int} (hW : 1 ≤ W ∧ W ≤ 64) (hH : 1 ≤ H ∧ H ≤ 64) (ha : W * H = ks.length) (hk : ∀ k ∈ ks, k.natAbs ≤ 16384) : unErr (packL W H ks) = 0 ∧ unL (packL W H ks) = ks := by
  obtain ⟨e1, e2, e3⟩ := pack_W W H ks
  have hx := pack_Xs ha hk
  have hend : unEnd (packL W H ks) = (packS W H ks).length := by unfold unEnd; rw [e3, packS_len, ha]
  have hl := packLen W H ks
  have hc := chk_bd (packS W H ks)
  have h0 : unErr0 (packL W H ks) = 0 := by
    unfold unErr0
    have hm : ¬ ((packL W H ks).take 4 ≠ magicL) := fun h => h rfl
    have hd : (packL W H ks).drop (unEnd (packL W H ks)) = wordOf (chkOf (packS W H ks)) := by rw [hend]; unfold packL; exact List.drop_left
    have ht : (packL W H ks).take (unEnd (packL W H ks)) = packS W H ks := by rw [hend]; unfold packL; exact List.take_left
    rw [if_neg (by omega), if_neg hm, if_neg (by omega), if_neg (by rw [hend, packS_len]; omega), if_neg (by rw [hend, packS_len]; omega), hd, ht, num_word hc.1 (by omega), if_neg (fun h => h rfl)]
  refine ⟨?_, by unfold unL; rw [hx]; exact kOf_smps hk⟩
  unfold unErr
  have h1 : mapErr (unW (packL W H ks)) (unH (packL W H ks)) (unN (packL W H ks)) (unXs (packL W H ks)) = 0 := by
    rw [e1, e2, e3, hx]
    exact mapErr_ok (by omega) (by omega) (by simp) hk
  rw [if_pos h0, if_pos h1, hx]
  refine firstNZ_zero (fun x hx => ?_)
  obtain ⟨y, hy, rfl⟩ := List.mem_map.1 hx
  obtain ⟨k, hk', rfl⟩ := List.mem_map.1 hy
  unfold zeroErr
  rw [if_neg (smpOf_not_neg (hk k hk'))]
/-- The stream of a right map without its last byte is torn. -/
theorem pack_torn {W H : Nat} {ks : List Int} (ha : W * H = ks.length) : unErr ((packL W H ks).dropLast) = 28 := by
  obtain ⟨e1, e2, e3⟩ := pack_W W H ks
  have hl := packLen W H ks
  have hd : (packL W H ks).dropLast = (packL W H ks).take (9 + 4 * ks.length) := by rw [List.dropLast_eq_take, hl, show 10 + 4 * ks.length - 1 = 9 + 4 * ks.length by omega]
  have hlen : (packL W H ks).dropLast.length = 9 + 4 * ks.length := by rw [List.length_dropLast, hl]; omega
  have hb : ∀ j, j < 9 → byteAt ((packL W H ks).dropLast) j = byteAt (packL W H ks) j := fun j hj => by
    unfold byteAt; rw [hd, List.getElem?_take_of_lt (by omega)]
  have f1 : unW ((packL W H ks).dropLast) = unW (packL W H ks) := hb 4 (by omega)
  have f2 : unH ((packL W H ks).dropLast) = unH (packL W H ks) := hb 5 (by omega)
  have f3 : unN ((packL W H ks).dropLast) = ks.length := by
    have : unN ((packL W H ks).dropLast) = unN (packL W H ks) := by unfold unN; rw [f1, f2]
    rw [this, e3, ha]
  have hm : ¬ ((packL W H ks).dropLast.take 4 ≠ magicL) := fun h => h (by
    rw [hd, List.take_take, Nat.min_eq_left (by omega)]; rfl)
  have h0 : unErr0 ((packL W H ks).dropLast) = 28 := by
    unfold unErr0 unEnd
    rw [f3, hlen, if_neg (by omega), if_neg hm, if_neg (by omega), if_pos (by omega)]
  unfold unErr
  rw [h0]; rfl
theorem pack_bytes {W H : Nat} {ks : List Int} (hW : W ≤ 64) (hH : H ≤ 64) : BytesV (packL W H ks) (10 + 4 * ks.length) := by
  refine ⟨packLen W H ks, fun v hv => ?_⟩
  unfold packL at hv
  rcases List.mem_append.1 hv with h | h
  · exact byte_bd hW hH v h
  · unfold wordOf at h
    simp at h
    rcases h with rfl | rfl | rfl | rfl <;> exact byt_bd _ _
end Go.Proofs.YtfdkmmllemkogaaGreatDoor
