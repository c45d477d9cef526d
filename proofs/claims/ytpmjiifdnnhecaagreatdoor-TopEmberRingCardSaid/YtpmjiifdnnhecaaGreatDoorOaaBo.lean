/-
  Contract of the reference's Made, the map with integers, where no integer is large.
-/
import Derived.Deep.AppendLies
import Derived.Deep.RegionHeldLaw
import Derived.Deep.RegionLaw
import Derived.Test.YtpmjiifdnnhecaaGreatDoorOaaZk
import Derived.Shelf.Strings.Builder1
import Derived.Shelf.Strings.OnBuilder
import Derived.Shelf.LaysM
import Derived.Shelf.Strconv.Itoa3
import Derived.Test.YtpmjiifdnnhecaaGreatDoorProg
import Derived.Lib.AppendIntMem
import Derived.Lib.ItoaLen
import Derived.Test.YtpmjiifdnnhecaaGreatDoorOaaWc
import Derived.Test.YtpmjiifdnnhecaaGreatDoorOaaXd
import Derived.Test.YtpmjiifdnnhecaaGreatDoorOaaWy
import Derived.Shelf.Strings.BuilderK
import Derived.Test.YtpmjiifdnnhecaaGreatDoorOaaXe
import Derived.Test.YtpmjiifdnnhecaaGreatDoorOaaXi
namespace Go.Proofs.YtpmjiifdnnhecaaGreatDoor
open Go.RowKit
set_option linter.unusedVariables false
set_option linter.unusedSimpArgs false

theorem blk_last {w : World} {B : Nat} {T : TypeId} {x y z : Value} (h : w.heap[B]? = some (.cells #[x, y, z] T (0, 0))) (c : Value) : (w.setCell ⟨B, 2, none⟩ c).heap[B]? = some (.cells #[x, y, c] T (0, 0)) := by
  simp only [World.setCell, Array.getElem?_modify, if_true, h, Option.map_some]
  simp
theorem setCell_other {w : World} {B C i : Nat} {c : Value} (h : B ≠ C) : (w.setCell ⟨B, i, none⟩ c).heap[C]? = w.heap[C]? := by
  simp [World.setCell, Array.getElem?_modify, h]

end Go.Proofs.YtpmjiifdnnhecaaGreatDoor

/-
  Results that are maps: the map that a list of integers makes, or nothing with an error; one() of two such results.
-/

namespace Go.Proofs.YtpmjiifdnnhecaaGreatDoor
open Go.RowKit
set_option linter.unusedVariables false
set_option linter.unusedSimpArgs false

/-- The value of a result that is a map: the map with the integers ls if there is no error, else nothing. -/
structure ResV (w : World) (r W H : Int) (ls : List Int) (X Y : Int) (a : Option Addr) (n c : Nat) : Prop where
  bad : r ≠ 0 → X = 0 ∧ Y = 0 ∧ a = none ∧ n = 0 ∧ c = 0
  ok : r = 0 → X = W ∧ Y = H ∧ ls.length = n ∧ n ≤ 4096 ∧ (∀ j, j < n → (ls[j]?.getD 0).natAbs ≤ 16384) ∧
    ∃ g, a = some ⟨g, 0, none⟩ ∧ g < w.heap.size ∧ ∀ j, j < n → w.cell? ⟨g, j, none⟩ = some (.float .f32 (smpOf (ls[j]?.getD 0)))
theorem ResV.kept {w w' : World} {r W H : Int} {ls : List Int} {X Y : Int} {a : Option Addr} {n c : Nat} (h : ResV w r W H ls X Y a n c) (hb : Below w.heap.size w w') : ResV w' r W H ls X Y a n c :=
  ⟨h.bad, fun h0 => by
    obtain ⟨h1, h2, h3, h4, h5, g, h6, h7, h8⟩ := h.ok h0
    exact ⟨h1, h2, h3, h4, h5, g, h6, Nat.lt_of_lt_of_le h7 hb.size, fun j hj => (hb.cell (p := ⟨g, j, none⟩) h7).trans (h8 j hj)⟩⟩
theorem ResV.none (w : World) (r W H : Int) (ls : List Int) (h : r ≠ 0) : ResV w r W H ls 0 0 none 0 0 :=
  ⟨fun _ => ⟨rfl, rfl, rfl, rfl, rfl⟩, fun h0 => absurd h0 h⟩
theorem ResV.some {w : World} {W H : Int} {ls : List Int} {g n c : Nat} (hl : ls.length = n) (hn : n ≤ 4096) (hs : ∀ j, j < n → (ls[j]?.getD 0).natAbs ≤ 16384) (hg : g < w.heap.size) (hc : ∀ j, j < n → w.cell? ⟨g, j, Option.none⟩ = Option.some (.float .f32 (smpOf (ls[j]?.getD 0)))) :
    ResV w 0 W H ls W H (Option.some ⟨g, 0, Option.none⟩) n c :=
  ⟨fun h => absurd rfl h, fun _ => ⟨rfl, rfl, hl, hn, hs, g, rfl, hg, hc⟩⟩

/-- The first index of an integer that is large. -/
theorem first_large {ls : List Int} {n : Nat} (h : ¬ ∀ j, j < n → (ls[j]?.getD 0).natAbs ≤ 16384) :
    ∃ j0, j0 < n ∧ 16384 < (ls[j0]?.getD 0).natAbs ∧ ∀ j, j < j0 → (ls[j]?.getD 0).natAbs ≤ 16384 := by
  induction n with
  | zero => exact absurd (fun j hj => by omega) h
  | succ n ih =>
    by_cases h1 : ∀ j, j < n → (ls[j]?.getD 0).natAbs ≤ 16384
    · refine ⟨n, by omega, ?_, h1⟩
      by_cases h2 : 16384 < (ls[n]?.getD 0).natAbs
      · exact h2
      · refine absurd (fun j hj => ?_) h
        by_cases h3 : j < n
        · exact h1 j h3
        · obtain rfl : j = n := by omega
          omega
    · obtain ⟨j0, h2, h3, h4⟩ := ih h1
      exact ⟨j0, by omega, h3, h4⟩

/-- The error of integers that are to be those of samples. -/
def largeErr (n : Nat) (ls : List Int) : Int := if ∀ j, j < n → (ls[j]?.getD 0).natAbs ≤ 16384 then 0 else 4

end Go.Proofs.YtpmjiifdnnhecaaGreatDoor

/-
  Variables that hold maps: what a store of a map into one of them keeps.
-/

namespace Go.Proofs.YtpmjiifdnnhecaaGreatDoor
open Go.RowKit
set_option linter.unusedVariables false
set_option linter.unusedSimpArgs false

/-- A world in which one block alone is another one. -/
structure OneBlk (w w' : World) (B : Nat) : Prop where
  other : ∀ k, k ≠ B → w'.heap[k]? = w.heap[k]?
  size : w'.heap.size = w.heap.size
theorem OneBlk.set3 (w : World) (B : Nat) (x y z : Value) : OneBlk w (((w.setCell ⟨B, 0, none⟩ x).setCell ⟨B, 1, none⟩ y).setCell ⟨B, 2, none⟩ z) B :=
  ⟨fun k hk => by simp [World.setCell, Array.getElem?_modify, Ne.symm hk], by simp⟩
theorem below_set3 {w w0 : World} {N B : Nat} (h : Below N w0 w) (hB : N ≤ B) (x y z : Value) : Below N w0 (((w.setCell ⟨B, 0, none⟩ x).setCell ⟨B, 1, none⟩ y).setCell ⟨B, 2, none⟩ z) :=
  ((h.setCell (p := ⟨B, 0, none⟩) hB _).setCell (p := ⟨B, 1, none⟩) hB _).setCell (p := ⟨B, 2, none⟩) hB _

/-- A result stays where a variable that holds a map is written. -/
theorem ResV.stored {w w' : World} {B : Nat} {x y : Int} {s : Value} {T : TypeId} (hB : w.heap[B]? = Option.some (.cells #[.int .i64 x, .int .i64 y, s] T (0, 0))) (ho : OneBlk w w' B) {r W H : Int} {ls : List Int} {X Y : Int} {a : Option Addr} {n c : Nat}
    (h : ResV w r W H ls X Y a n c) : ResV w' r W H ls X Y a n c :=
  ⟨h.bad, fun h0 => by
    obtain ⟨h1, h2, h3, h4, h5, g, h6, h7, h8⟩ := h.ok h0
    refine ⟨h1, h2, h3, h4, h5, g, h6, by rw [ho.size]; exact h7, fun j hj => ?_⟩
    by_cases hg : g = B
    · subst hg
      have h9 := h8 0 (by omega)
      rw [cell_of_row w g 0 _ _ (0, 0) hB] at h9
      simp at h9
    · rw [World.cell?_of_block (ho.other g hg)]
      exact h8 j hj⟩

/-- A variable that holds a result. -/
def ResBox (w : World) (B : Nat) (T : TypeId) (r W H : Int) (ls : List Int) : Prop :=
  ∃ X Y a n c, w.heap[B]? = some (.cells #[.int .i64 X, .int .i64 Y, .slice a n c] T (0, 0)) ∧ ResV w r W H ls X Y a n c
theorem ResBox.kept {w w' : World} {B : Nat} {T : TypeId} {r W H : Int} {ls : List Int} (h : ResBox w B T r W H ls) (hb : Below w.heap.size w w') : ResBox w' B T r W H ls := by
  obtain ⟨X, Y, a, n, c, h1, h2⟩ := h
  exact ⟨_, _, _, _, _, (hb.block _ (lt_of_blk h1)).trans h1, h2.kept hb⟩
theorem ResBox.new {w : World} {T : TypeId} {r W H : Int} {ls : List Int} {X Y : Int} {a : Option Addr} {n c : Nat} (h : ResV w r W H ls X Y a n c) : ResBox (w.alloc (.cells #[.int .i64 X, .int .i64 Y, .slice a n c] T)) w.heap.size T r W H ls :=
  ⟨_, _, _, _, _, blk_alloc_new _ _, h.kept ((Below.refl _ _).alloc (Nat.le_refl _) _)⟩

theorem ResBox.put {w : World} {B : Nat} {T : TypeId} {x y : Int} {s : Value} (hB : w.heap[B]? = some (.cells #[.int .i64 x, .int .i64 y, s] T (0, 0))) {r W H : Int} {ls : List Int} {X Y : Int} {a : Option Addr} {n c : Nat}
    (h : ResV w r W H ls X Y a n c) : ResBox (((w.setCell ⟨B, 0, none⟩ (.int .i64 X)).setCell ⟨B, 1, none⟩ (.int .i64 Y)).setCell ⟨B, 2, none⟩ (.slice a n c)) B T r W H ls :=
  ⟨_, _, _, _, _, blk_set3 hB _ _ _, h.stored hB (OneBlk.set3 w B _ _ _)⟩

/-- A variable of the reference that holds what a result must be, where there is no error. -/
def WantBox (w : World) (B : Nat) (r W H : Int) (ls : List Int) : Prop :=
  ∃ X Y a n c, w.heap[B]? = some (.cells #[.int .i64 X, .int .i64 Y, .slice a n c] 117 (0, 0)) ∧ (r = 0 → ResV w r W H ls X Y a n c)
theorem WantBox.kept {w w' : World} {B : Nat} {r W H : Int} {ls : List Int} (h : WantBox w B r W H ls) (hb : Below w.heap.size w w') : WantBox w' B r W H ls := by
  obtain ⟨X, Y, a, n, c, h1, h2⟩ := h
  exact ⟨_, _, _, _, _, (hb.block _ (lt_of_blk h1)).trans h1, fun h0 => (h2 h0).kept hb⟩
theorem WantBox.zero {w : World} {B : Nat} {r W H : Int} {ls : List Int} (h : w.heap[B]? = some (.cells #[.int .i64 0, .int .i64 0, .slice none 0 0] 117 (0, 0))) (hr : r ≠ 0) : WantBox w B r W H ls :=
  ⟨0, 0, none, 0, 0, h, fun h0 => absurd h0 hr⟩
/-- Another variable is written. -/
theorem WantBox.stored {w w' : World} {B B' : Nat} {x y : Int} {s : Value} {T : TypeId} (hB : w.heap[B]? = some (.cells #[.int .i64 x, .int .i64 y, s] T (0, 0))) (ho : OneBlk w w' B) (hne : B' ≠ B) {r W H : Int} {ls : List Int}
    (h : WantBox w B' r W H ls) : WantBox w' B' r W H ls := by
  obtain ⟨X, Y, a, n, c, h1, h2⟩ := h
  exact ⟨_, _, _, _, _, (ho.other _ hne).trans h1, fun h0 => (h2 h0).stored hB ho⟩
/-- The variable itself is written. -/
theorem WantBox.put {w : World} {B : Nat} {x y : Int} {s : Value} (hB : w.heap[B]? = some (.cells #[.int .i64 x, .int .i64 y, s] 117 (0, 0))) {r W H : Int} {ls : List Int} {X Y : Int} {a : Option Addr} {n c : Nat}
    (h : r = 0 → ResV w r W H ls X Y a n c) : WantBox (((w.setCell ⟨B, 0, none⟩ (.int .i64 X)).setCell ⟨B, 1, none⟩ (.int .i64 Y)).setCell ⟨B, 2, none⟩ (.slice a n c)) B r W H ls :=
  ⟨_, _, _, _, _, blk_set3 hB _ _ _, fun h0 => (h h0).stored hB (OneBlk.set3 w B _ _ _)⟩
end Go.Proofs.YtpmjiifdnnhecaaGreatDoor

/-
  The shelf's contracts of strings.Join, Builder.String and strconv.Itoa over this program, as the kit's command lays them in plain words.
-/
namespace Go.Proofs
open Go.Shelf
def Tryz.lays169_ren : Go.Shelf.Ren := ⟨fun | 169 => 160 | n => n, fun | 70 => 243 | 9 => 9 | 0 => 0 | 72 => 245 | 37 => 143 | 127 => 295 | 3 => 3 | 5 => 5 | n => n, fun | n => n⟩
theorem Tryz.lays169 : Go.Proofs.Lays.n169 Tryz.prog Tryz.lays169_ren := {
  mixed := by kernel_rfl
  f169 := Tryz.func160.trans (congrArg some (by kernel_rfl))
  t0 := Tryz.underlying0
  a0 := Tryz.isAgg0
  z0 := Tryz.sizeOf0
  v0 := Tryz.zeroValue0
  t3 := Tryz.underlying3
  a3 := Tryz.isAgg3
  z3 := Tryz.sizeOf3
  v3 := Tryz.zeroValue3
  t9 := Tryz.underlying9
  a9 := Tryz.isAgg9
  z9 := Tryz.sizeOf9
  v9 := Tryz.zeroValue9
  t37 := Tryz.underlying143
  a37 := Tryz.isAgg143
  z37 := Tryz.sizeOf143
  v37 := Tryz.zeroValue143
  t70 := Tryz.underlying243
  a70 := Tryz.isAgg243
  z70 := Tryz.sizeOf243
  v70 := Tryz.zeroValue243
  t72 := Tryz.underlying245
  a72 := Tryz.isAgg245
  z72 := Tryz.sizeOf245
  v72 := Tryz.zeroValue245
  t127 := Tryz.underlying295
  a127 := Tryz.isAgg295
  z127 := Tryz.sizeOf295
  v127 := Tryz.zeroValue295 }
theorem Tryz.Builder_Extra_169 : Builder.Extra Tryz.prog Tryz.lays169_ren := {
  sizeBuilder := by kernel_rfl
  liesBuilder := by kernel_rfl
  t5 := Tryz.underlying5
  a5 := Tryz.isAgg5
  z5 := Tryz.sizeOf5
  v5 := Tryz.zeroValue5
  infoByte := by kernel_rfl
  cellsByte := by kernel_rfl
  sizeByte := by kernel_rfl
  neB5 := by decide }
def Tryz.lays156_ren : Go.Shelf.Ren := ⟨fun | 156 => 100 | 165 => 179 | 166 => 158 | 169 => 160 | 240 => 206 | 241 => 218 | 276 => 229 | 277 => 236 | n => n, fun | 31 => 112 | 9 => 9 | 3 => 3 | 4 => 4 | 0 => 0 | 20 => 20 | 72 => 245 | 76 => 248 | 70 => 243 | 37 => 143 | 75 => 247 | 127 => 295 | 164 => 315 | 5 => 5 | 80 => 253 | n => n, fun | n => n⟩
theorem Tryz.lays156 : Go.Proofs.Lays.n156 Tryz.prog Tryz.lays156_ren := {
  mixed := by kernel_rfl
  f156 := Tryz.func100.trans (congrArg some (by kernel_rfl))
  f165 := Tryz.func179.trans (congrArg some (by kernel_rfl))
  f166 := Tryz.func158.trans (congrArg some (by kernel_rfl))
  f169 := Tryz.func160.trans (congrArg some (by kernel_rfl))
  f240 := Tryz.func206.trans (congrArg some (by kernel_rfl))
  f241 := Tryz.func218.trans (congrArg some (by kernel_rfl))
  f276 := Tryz.func229.trans (congrArg some (by kernel_rfl))
  f277 := Tryz.func236.trans (congrArg some (by kernel_rfl))
  t0 := Tryz.underlying0
  a0 := Tryz.isAgg0
  z0 := Tryz.sizeOf0
  v0 := Tryz.zeroValue0
  t3 := Tryz.underlying3
  a3 := Tryz.isAgg3
  z3 := Tryz.sizeOf3
  v3 := Tryz.zeroValue3
  t4 := Tryz.underlying4
  a4 := Tryz.isAgg4
  z4 := Tryz.sizeOf4
  v4 := Tryz.zeroValue4
  t9 := Tryz.underlying9
  a9 := Tryz.isAgg9
  z9 := Tryz.sizeOf9
  v9 := Tryz.zeroValue9
  t20 := Tryz.underlying20
  a20 := Tryz.isAgg20
  z20 := Tryz.sizeOf20
  v20 := Tryz.zeroValue20
  t31 := Tryz.underlying112
  a31 := Tryz.isAgg112
  z31 := Tryz.sizeOf112
  v31 := Tryz.zeroValue112
  t37 := Tryz.underlying143
  a37 := Tryz.isAgg143
  z37 := Tryz.sizeOf143
  v37 := Tryz.zeroValue143
  t70 := Tryz.underlying243
  a70 := Tryz.isAgg243
  z70 := Tryz.sizeOf243
  v70 := Tryz.zeroValue243
  t72 := Tryz.underlying245
  a72 := Tryz.isAgg245
  z72 := Tryz.sizeOf245
  v72 := Tryz.zeroValue245
  t75 := Tryz.underlying247
  a75 := Tryz.isAgg247
  z75 := Tryz.sizeOf247
  v75 := Tryz.zeroValue247
  t76 := Tryz.underlying248
  a76 := Tryz.isAgg248
  z76 := Tryz.sizeOf248
  v76 := Tryz.zeroValue248
  t127 := Tryz.underlying295
  a127 := Tryz.isAgg295
  z127 := Tryz.sizeOf295
  v127 := Tryz.zeroValue295
  t164 := Tryz.underlying315
  a164 := Tryz.isAgg315
  z164 := Tryz.sizeOf315
  v164 := Tryz.zeroValue315 }
theorem Tryz.Builder_Extra_156 : Builder.Extra Tryz.prog Tryz.lays156_ren := {
  sizeBuilder := by kernel_rfl
  liesBuilder := by kernel_rfl
  t5 := Tryz.underlying5
  a5 := Tryz.isAgg5
  z5 := Tryz.sizeOf5
  v5 := Tryz.zeroValue5
  infoByte := by kernel_rfl
  cellsByte := by kernel_rfl
  sizeByte := by kernel_rfl
  neB5 := by decide }
open Go.RowKit in
theorem Tryz.strings_Join (bk o c : Nat) (xs : List ByteArray) (sep : ByteArray) (w : World) (hcells : ∀ (j : Nat) x, xs[j]? = some x → w.cell? ⟨bk, o + j, none⟩ = some (.string x)) (hbk : bk < w.heap.size) (hN : xs.length ≤ 140737488355328) (hcap : xs.length ≤ c) (hlen : (Lib.join (xs.map (·.data.toList)) sep.data.toList).length ≤ 140737488355328) :
    Calls Tryz.prog 100 #[.slice (some ⟨bk, o, none⟩) xs.length c, .string sep] w fun e w' => e = .returned (.string ⟨(Lib.join (xs.map (·.data.toList)) sep.data.toList).toArray⟩) ∧ Below w.heap.size w w' := Any.strings_Join Tryz.lays156 Tryz.Builder_Extra_156 bk o c xs sep w hcells hbk hN hcap hlen
def Tryz.laysM171_ren : Go.Shelf.Ren := ⟨fun | 171 => 178 | 243 => 217 | 246 => 235 | 283 => 246 | 284 => 247 | 285 => 248 | 286 => 249 | 129 => 259 | 317 => 258 | 318 => 260 | 319 => 261 | 320 => 262 | 337 => 273 | 338 => 274 | n => n, fun | 3 => 3 | 9 => 9 | 2 => 2 | 4 => 4 | 171 => 327 | 0 => 0 | 53 => 319 | 37 => 143 | 5 => 5 | 173 => 330 | 212 => 337 | 51 => 264 | 20 => 20 | 213 => 338 | 46 => 301 | 232 => 353 | 233 => 354 | n => n, fun | 17 => 3 | 18 => 4 | 19 => 5 | n => n⟩
theorem Tryz.laysM171 : Go.Proofs.LaysM.n171 Tryz.prog Tryz.laysM171_ren := {
  mixed := by kernel_rfl
  f129 := Tryz.func259.trans (congrArg some (by kernel_rfl))
  f171 := Tryz.func178.trans (congrArg some (by kernel_rfl))
  f243 := Tryz.func217.trans (congrArg some (by kernel_rfl))
  f246 := Tryz.func235.trans (congrArg some (by kernel_rfl))
  f283 := Tryz.func246.trans (congrArg some (by kernel_rfl))
  f284 := Tryz.func247.trans (congrArg some (by kernel_rfl))
  f285 := Tryz.func248.trans (congrArg some (by kernel_rfl))
  f286 := Tryz.func249.trans (congrArg some (by kernel_rfl))
  f317 := Tryz.func258.trans (congrArg some (by kernel_rfl))
  f318 := Tryz.func260.trans (congrArg some (by kernel_rfl))
  f319 := Tryz.func261.trans (congrArg some (by kernel_rfl))
  f320 := Tryz.func262.trans (congrArg some (by kernel_rfl))
  f337 := Tryz.func273.trans (congrArg some (by kernel_rfl))
  f338 := Tryz.func274.trans (congrArg some (by kernel_rfl))
  t0 := Tryz.underlying0
  a0 := Tryz.isAgg0
  z0 := Tryz.sizeOf0
  v0 := Tryz.zeroValue0
  t2 := Tryz.underlying2
  a2 := Tryz.isAgg2
  z2 := Tryz.sizeOf2
  v2 := Tryz.zeroValue2
  t3 := Tryz.underlying3
  a3 := Tryz.isAgg3
  z3 := Tryz.sizeOf3
  v3 := Tryz.zeroValue3
  t4 := Tryz.underlying4
  a4 := Tryz.isAgg4
  z4 := Tryz.sizeOf4
  v4 := Tryz.zeroValue4
  t5 := Tryz.underlying5
  a5 := Tryz.isAgg5
  z5 := Tryz.sizeOf5
  v5 := Tryz.zeroValue5
  t9 := Tryz.underlying9
  a9 := Tryz.isAgg9
  z9 := Tryz.sizeOf9
  v9 := Tryz.zeroValue9
  t20 := Tryz.underlying20
  a20 := Tryz.isAgg20
  z20 := Tryz.sizeOf20
  v20 := Tryz.zeroValue20
  t37 := Tryz.underlying143
  a37 := Tryz.isAgg143
  z37 := Tryz.sizeOf143
  v37 := Tryz.zeroValue143
  t46 := Tryz.underlying301
  a46 := Tryz.isAgg301
  z46 := Tryz.sizeOf301
  v46 := Tryz.zeroValue301
  t51 := Tryz.underlying264
  a51 := Tryz.isAgg264
  z51 := Tryz.sizeOf264
  v51 := Tryz.zeroValue264
  t53 := Tryz.underlying319
  a53 := Tryz.isAgg319
  z53 := Tryz.sizeOf319
  v53 := Tryz.zeroValue319
  t171 := Tryz.underlying327
  a171 := Tryz.isAgg327
  z171 := Tryz.sizeOf327
  v171 := Tryz.zeroValue327
  t173 := Tryz.underlying330
  a173 := Tryz.isAgg330
  z173 := Tryz.sizeOf330
  v173 := Tryz.zeroValue330
  t212 := Tryz.underlying337
  a212 := Tryz.isAgg337
  z212 := Tryz.sizeOf337
  v212 := Tryz.zeroValue337
  t213 := Tryz.underlying338
  a213 := Tryz.isAgg338
  z213 := Tryz.sizeOf338
  t232 := Tryz.underlying353
  a232 := Tryz.isAgg353
  z232 := Tryz.sizeOf353
  v232 := Tryz.zeroValue353
  t233 := Tryz.underlying354
  a233 := Tryz.isAgg354
  z233 := Tryz.sizeOf354
  v233 := Tryz.zeroValue354
  g17 := by kernel_rfl
  g18 := by kernel_rfl
  g19 := by kernel_rfl
  i0 := by kernel_rfl
  i2 := by kernel_rfl
  i3 := by kernel_rfl
  i4 := by kernel_rfl
  i5 := by kernel_rfl
  i9 := by kernel_rfl
  i20 := by kernel_rfl
  i37 := by kernel_rfl
  i46 := by kernel_rfl
  i51 := by kernel_rfl
  i53 := by kernel_rfl
  i171 := by kernel_rfl
  i173 := by kernel_rfl
  i212 := by kernel_rfl
  i232 := by kernel_rfl
  i233 := by kernel_rfl
  m17 := by kernel_rfl
  m18 := by kernel_rfl
  m19 := by kernel_rfl }
open Go.RowKit Go.Sort Go.Lib in
theorem Tryz.strconv_Itoa (n : Int) (h0 : -9223372036854775808 ≤ n) (h1 : n ≤ 9223372036854775807) (w : World) (htab : Lib.TabIs Tryz.prog w "internal/strconv.uint64pow10" .u64 Lib.pow10Tab) :
    Calls Tryz.prog 178 #[.int .i64 n] w fun e w' => e = .returned (.string ⟨(Lib.itoa n).toArray⟩) ∧ ∃ k os, w' = grow (w.drewN k) os := Any.strconv_Itoa Tryz.laysM171 n h0 h1 w htab
end Go.Proofs

/-
  Contracts of strings.Builder.WriteString and strconv.Itoa over this program, off the shelf's.
-/
namespace Go.Proofs.YtpmjiifdnnhecaaGreatDoor
open Go.RowKit Go.Shelf
set_option linter.unusedVariables false

/-- The library's table of the powers of ten. -/
def TabAt (w : World) : Prop := Lib.TabIs Tryz.prog w "internal/strconv.uint64pow10" .u64 Lib.pow10Tab
theorem TabAt.on {w w' : World} (h : TabAt w) (hb : Below w.heap.size w w') : TabAt w' := Lib.tabBelow_of_tabIs h w' hb
theorem itoa_any (n : Int) (h0 : -9223372036854775808 ≤ n) (h1 : n ≤ 9223372036854775807) (w : World) (ht : TabAt w) :
    Calls Tryz.prog 178 #[.int .i64 n] w fun e w' => e = .returned (.string ⟨(Lib.itoa n).toArray⟩) ∧ Below w.heap.size w w' :=
  (Tryz.strconv_Itoa n h0 h1 w ht).mono fun e w' ⟨he, k, os, hw⟩ => ⟨he, by subst hw; exact Lib.below_grow _ _ (Nat.le_refl _) k os⟩
end Go.Proofs.YtpmjiifdnnhecaaGreatDoor

/-
  Contract of common.Line: the word, then a space and the decimal numeral of each integer, then a line feed. Conditions: at most 4096 integers that lie in memory, a word of at most 64 bytes.
-/

namespace Go.Proofs.YtpmjiifdnnhecaaGreatDoor
open Go.RowKit Go.Shelf
set_option linter.unusedVariables false
set_option linter.unusedSimpArgs false

theorem Tryz.infoStr : (Tryz.prog.info? 9).map (fun i => (i.zero, i.size, i.bytes)) = some (some (.string ⟨#[]⟩), 1, 16) := by kernel_rfl
def strV (l : List UInt8) : Value := .string ⟨l.toArray⟩
theorem owns_single (w : World) (v : Value) (T : TypeId) : (w.alloc (.cells #[v] T)).ownsRow w.heap.size T 1 (.slice (some ⟨w.heap.size, 0, none⟩) 1 1) 1 [v] :=
  ⟨rfl, .inr ⟨w.heap.size, 1, #[v], rfl, Nat.le_refl _, heap_alloc_new w _, by decide, by unfold maxLen; omega, rfl, rfl⟩⟩

theorem owns_capW {w : World} {B T n c g : Nat} {xs : List Value} (h : w.ownsRow B T 1 (.slice (some ⟨g, 0, none⟩) n c) n xs) : n ≤ c ∧ c ≤ maxLen := by
  rcases h.2 with ⟨h, _⟩ | ⟨g', cap, cur, h1, h2, h3, h4, h5, _⟩
  · cases h
  · simp at h1
    obtain ⟨rfl, rfl⟩ := h1
    exact ⟨h4, h5⟩

set_option maxHeartbeats 2000000 in
set_option maxRecDepth 100000 in
theorem mapped_str {w : World} (b o n c : Nat) (ks : List Int) (hk : ks.length = n) (hn : n ≤ 4096) (hb : b < w.heap.size) (ht : TabAt w)
    (hc : ∀ j, j < n → w.cell? ⟨b, o + j, none⟩ = some (.int .i64 (ks[j]?.getD 0))) (hs : ∀ j, j < n → (ks[j]?.getD 0).natAbs < 2 ^ 40) :
    Calls Tryz.prog 177 #[.slice (some ⟨b, o, none⟩) n c, .func (.func 178) #[] #[]] w fun e w' =>
      e = .returned (.slice (some ⟨w.heap.size, 0, none⟩) n n) ∧ w'.ownsRow w.heap.size 9 1 (.slice (some ⟨w.heap.size, 0, none⟩) n n) n (ks.map (fun k => strV (Lib.itoa k))) ∧ Below w.heap.size w w' := by
  obtain ⟨i0, hi, hz0, hz1, hz2⟩ := info_parts Tryz.infoStr
  have Hk := Lib.hid hk
  have Hc := Lib.hid hc
  have Hs := Lib.hid hs
  have HT := Lib.hid ht
  clear hk hc hs ht
  go_enter Tryz.func177, Tryz.ntmps177
  go_wp2_with (at_make; refine wpList_make_own _ rfl _ _ 112 rfl w.heap.size 9 i0 (.string ⟨#[]⟩) 1 Tryz.underlying112 hi hz0 hz1 _ _ _ n rfl rfl (by omega) ?b2 ?b3 (Nat.le_refl _) ?_)
  case b2 => rw [hz2]; omega
  case b3 => unfold maxLen; omega
  intro w0 hown0 hgrow0
  go_wp2
  go_loopw [5, 13] (fun out i wr => ∃ k : Nat, k ≤ n ∧ i = .int .i64 k ∧ out = .slice (some ⟨w.heap.size, 0, none⟩) k n ∧
      wr.ownsRow w.heap.size 9 1 (.slice (some ⟨w.heap.size, 0, none⟩) k n) k ((ks.take k).map (fun k => strV (Lib.itoa k))) ∧ Below w.heap.size w wr)
    (fun _ i _ => n - (intOf i).toNat)
  case atStart => exact ⟨0, Nat.zero_le _, rfl, rfl, hown0, (Below.refl _ _).grown hgrow0 (Nat.le_refl _) (fun k h => by cases h)⟩
  case round =>
    obtain ⟨k, hk, rfl, rfl, hown, hnx⟩ := hrel
    by_cases hlt : k < n
    · have hcell : wr.cell? ⟨b, o + k, none⟩ = some (.int .i64 (ks[k]?.getD 0)) := (hnx.cell (by exact hb)).trans (Hc.out k hlt)
      obtain ⟨kk, hkk⟩ : ∃ kk : Int, ks[k]?.getD 0 = kk := ⟨_, rfl⟩
      have hks := Hs.out k hlt
      rw [hkk] at hcell hks
      have HKK := Lib.hid hkk
      have K := Lib.hid (itoa_any kk (by omega) (by omega) wr (HT.out.on hnx))
      have hsz := hnx.size
      have HOW := Lib.hid hown
      clear hown hkk hks
      go_wp2_with (first
        | (go_at_call 178; refine K.out.mono ?_; rintro e w1 ⟨rfl, hb1⟩
           have hown1 := owns_kept HOW.out hb1 (Nat.le_refl _)
           have hs1 := hb1.size)
        | (at_builtin; refine wpList_append_fits _ rfl (.tmp 17) (.tmp 21) 112 rfl w.heap.size 9 i0 1 Tryz.underlying112 hi hz1 w.heap.size k n _ rfl (hown1.alloc _) ⟨w1.heap.size, 0, none⟩ 1 1 [strV (Lib.itoa kk)] rfl rfl (cell_one_new _ _ _) (by intro u hu; simp at hu; subst hu; rfl) (by omega) ?_; intro w2 hown2 hgrow2))
      go_roundw
      case rel => exact ⟨k + 1, by omega, by go_num, rfl, by rw [take_map_succ (fun k => strV (Lib.itoa k)) ks k (by have := Hk.out; omega) 0, HKK.out]; exact hown2, ((hnx.trans (hb1.mono hsz)).alloc (by omega) _).grown hgrow2 (by simp; omega) (fun j hj => by cases hj; exact Nat.le_refl _)⟩
      case measure => simp [intOf]; omega
    · go_wp2
      go_ret
      obtain rfl : k = n := by omega
      rw [List.take_of_length_le (by have := Hk.out; omega)] at hown
      exact ⟨rfl, hown, hnx⟩

/-- A line of a text. -/
def lineL (wd : List UInt8) (ks : List Int) : List UInt8 := Lib.join (wd :: ks.map Lib.itoa) [32] ++ [10]
theorem joinTail_len (ls : List (List UInt8)) (h : ∀ l ∈ ls, l.length ≤ 21) : (Lib.joinTail [32] ls).length ≤ 22 * ls.length := by
  induction ls with
  | nil => simp [Lib.joinTail]
  | cons l ls ih =>
    have h1 := h l List.mem_cons_self
    have h2 := ih fun l' h' => h l' (List.mem_cons_of_mem _ h')
    simp only [Lib.joinTail, List.map_cons, List.flatten_cons, List.length_append, List.length_cons, List.length_nil] at h2 ⊢
    omega
theorem join_len (wd : List UInt8) (ks : List Int) (h : ∀ k ∈ ks, k.natAbs < 2 ^ 40) : (Lib.join (wd :: ks.map Lib.itoa) [32]).length ≤ wd.length + 22 * ks.length := by
  rw [Lib.join_cons, List.length_append]
  have := joinTail_len (ks.map Lib.itoa) (fun l hl => by obtain ⟨k, hk, rfl⟩ := List.mem_map.1 hl; have := h k hk; exact Lib.itoa_length_le k (by omega) (by omega))
  rw [List.length_map] at this
  omega

set_option maxHeartbeats 2000000 in
set_option maxRecDepth 100000 in
theorem line_any {w : World} (wd : List UInt8) (b o n c : Nat) (ks : List Int) (hwd : wd.length ≤ 64) (hk : ks.length = n) (hn : n ≤ 4096) (hb : b < w.heap.size) (ht : TabAt w)
    (hc : ∀ j, j < n → w.cell? ⟨b, o + j, none⟩ = some (.int .i64 (ks[j]?.getD 0))) (hs : ∀ j, j < n → (ks[j]?.getD 0).natAbs < 2 ^ 40) :
    Calls Tryz.prog 99 #[strV wd, .slice (some ⟨b, o, none⟩) n c] w fun e w' => e = .returned (strV (lineL wd ks)) ∧ Below w.heap.size w w' := by
  obtain ⟨i0, hi, hz0, hz1, hz2⟩ := info_parts Tryz.infoStr
  have hmem : ∀ k ∈ ks, k.natAbs < 2 ^ 40 := fun k hk' => by
    obtain ⟨j, hj, rfl⟩ := List.getElem_of_mem hk'
    have := hs j (by omega)
    rw [List.getElem?_eq_getElem hj] at this
    exact this
  have hjl := join_len wd ks hmem
  obtain ⟨W1, hW1⟩ : ∃ W1, w.alloc (.cells #[strV wd] 9) = W1 := ⟨_, rfl⟩
  have hB1 : Below w.heap.size w W1 := by rw [← hW1]; exact (Below.refl _ w).alloc (Nat.le_refl _) _
  have hS1 : W1.heap.size = w.heap.size + 1 := by rw [← hW1]; simp
  have hO1 : W1.ownsRow w.heap.size 9 1 (.slice (some ⟨w.heap.size, 0, none⟩) 1 1) 1 [strV wd] := by rw [← hW1]; exact owns_single w _ _
  have K := Lib.hid (mapped_str b o n c ks hk hn (by omega) (ht.on hB1) (fun j hj => (hB1.cell (p := ⟨b, o + j, none⟩) hb).trans (hc j hj)) hs : Calls _ _ _ W1 _)
  have Hk := Lib.hid hk
  have HB1 := Lib.hid hB1
  have HS1 := Lib.hid hS1
  have HO1 := Lib.hid hO1
  have HJL := Lib.hid hjl
  clear hk hc hs ht hB1 hS1 hO1 hjl hmem
  go_enter Tryz.func99, Tryz.ntmps99
  unfold strV at *
  obtain ⟨xs, hxs⟩ : ∃ xs : List ByteArray, xs = (wd :: ks.map Lib.itoa).map (fun l => ⟨l.toArray⟩) := ⟨_, rfl⟩
  have hxl : xs.length = 1 + n := by rw [hxs]; simp [Hk.out]; omega
  have hxm : xs.map (fun x : ByteArray => x.data.toList) = wd :: ks.map Lib.itoa := by rw [hxs, List.map_map]; exact List.map_id' _
  have hxv : [Value.string ⟨wd.toArray⟩] ++ ks.map (fun k => Value.string ⟨(Lib.itoa k).toArray⟩) = xs.map Value.string := by rw [hxs]; simp [List.map_map]
  have HXL := Lib.hid hxl
  have HXM := Lib.hid hxm
  have HXV := Lib.hid hxv
  clear hxs hxl hxm hxv
  go_wp2_with (first
    | (go_at_call 177; refine K.out.mono ?_; rintro e w2 ⟨rfl, hown2, hb2⟩
       have hown6 := owns_kept HO1.out hb2 (Nat.le_refl _)
       have hs2 := hb2.size)
    | (at_builtin; refine wpList_append_own _ rfl (.tmp 6) (.tmp 8) 112 rfl w.heap.size 9 i0 (.string ⟨#[]⟩) 1 16 Tryz.underlying112 hi hz0 hz1 hz2 rfl (by decide) _ 1 _ rfl hown6 ⟨W1.heap.size, 0, none⟩ n n (ks.map (fun k => .string ⟨(Lib.itoa k).toArray⟩)) rfl (by simp [Hk.out]) (fun j u hu => by
          have := hown2.cells (g := W1.heap.size) rfl j u hu
          simpa [Addr.add] using this) (by intro u hu; obtain ⟨k, _, rfl⟩ := List.mem_map.1 hu; rfl) (by unfold maxLen; omega) (by omega) (by have := HS1.out; omega) ?_; intro v' w3 hown3 hgrow3 _
       rw [HXV.out] at hown3
       obtain ⟨gv, cv, rfl, hgv, hgB⟩ := owns_some hown3 (by omega)
       have hcv := owns_capW hown3
       have KJ := Tryz.strings_Join gv 0 cv xs ⟨#[32]⟩ w3 (fun j x hx => by rw [Nat.zero_add]; exact owns_cell hown3 (by rw [List.getElem?_map, hx]; rfl)) hgv (by rw [HXL.out]; omega) (by rw [HXL.out]; omega) (by rw [HXM.out]; have := HJL.out; have := Hk.out; simp only [List.toList_toArray] at *; omega)
       rw [HXL.out, HXM.out] at KJ
       have KJH := Lib.hid KJ
       clear KJ)
    | (go_at_call 100; refine KJH.out.mono ?_; rintro e w4 ⟨rfl, hb4⟩))
  · exfalso
    rename_i h
    have := HJL.out
    have := Hk.out
    omega
  refine bodyPost_ret (results_tmp Tryz.results99 _ _ _) rfl ?_
  refine ⟨?_, ((HB1.out.trans (hb2.mono (by have := HS1.out; omega))).grown hgrow3 (by have := HS1.out; omega) (fun j hj => by cases hj; exact Nat.le_refl _)).trans (hb4.mono (by have := hgrow3.1; have := HS1.out; omega))⟩
  have : (⟨(Lib.join (wd :: ks.map Lib.itoa) [32]).toArray⟩ : ByteArray) ++ ⟨#[10]⟩ = ⟨(lineL wd ks).toArray⟩ := by
    apply ByteArray.ext
    simp [lineL, ByteArray.data_append]
  rw [this]
  rfl
end Go.Proofs.YtpmjiifdnnhecaaGreatDoor

/-
  The text builder between two writes, and the iterator over the chunks of a slice: contracts.
-/
namespace Go.Proofs.YtpmjiifdnnhecaaGreatDoor
open Go.RowKit Go.Shelf
set_option linter.unusedVariables false
set_option linter.unusedSimpArgs false
attribute [local go_sem] Oper.semAt_some

/-! ### The builder -/

abbrev Bld (B b : Nat) (p : Value) (l : List UInt8) (w : World) : Prop := Lib.BuilderAtF 245 5 B b p (Lib.byteCells l) w
abbrev Oth (b : Nat) (w w' : World) : Prop := Lib.OthersKept 5 (some b) w w'

theorem bld_write (B b : Nat) (l s : List UInt8) (w : World) (h : Lib.IsBuilderF 245 5 B b (Lib.byteCells l) w) (hlen : l.length + s.length ≤ 140737488355328) (hBw : B ≤ w.heap.size) :
    Calls Tryz.prog 158 #[.pointer (some ⟨b, 0, none⟩), .string ⟨s.toArray⟩] w fun e w' => e = .returned (.tuple #[.int .i64 s.length, .nilIface]) ∧ Bld B b (.pointer (some ⟨b, 0, none⟩)) (l ++ s) w' ∧ Below B w w' ∧ Oth b w w' :=
  (Any.Builder_WriteString_k (P := Tryz.prog) (ρ := Tryz.lays156_ren) { Tryz.lays156 with } Tryz.Builder_Extra_156 B b (Lib.byteCells l) ⟨s.toArray⟩ w h (by rw [Lib.byteCells_length]; exact hlen) hBw).mono fun e w' ⟨he, h1, h2, h3⟩ =>
    ⟨he, by
      have e1 : Lib.byteCells (l ++ s) = Lib.byteCells l ++ Lib.strCells ⟨s.toArray⟩ := by simp [Lib.byteCells, Lib.strCells]
      show Lib.BuilderAtF _ _ _ _ _ (Lib.byteCells (l ++ s)) w'
      rw [e1]; exact h1, h2, h3⟩
theorem bld_string (B b : Nat) (l : List UInt8) (w : World) (h : Lib.IsBuilderF 245 5 B b (Lib.byteCells l) w) (hBw : B ≤ w.heap.size) :
    Calls Tryz.prog 160 #[.pointer (some ⟨b, 0, none⟩)] w fun e w' => e = .returned (strV l) ∧ Below B w w' ∧ Oth b w w' :=
  (Any.Builder_String_any_k Tryz.lays169 Tryz.Builder_Extra_169 B b l w h hBw).mono fun e w' ⟨he, h1, h2, h3⟩ => ⟨he, h2, h3⟩
theorem bld_kept {B b N : Nat} {p : Value} {l : List UInt8} {w w' : World} (h : Bld B b p l w) (hb : Below N w w') (hN : w.heap.size ≤ N) : Bld B b p l w' := by
  have hlt := h.lt
  obtain ⟨hB, v, hbk, hown, hne⟩ := h
  refine ⟨hB, v, (hb.block _ (by omega)).trans hbk, ⟨hown.1, ?_⟩, hne⟩
  rcases hown.2 with h | ⟨g, cap, cur, fz, h1, h2, h3, h4⟩
  · exact .inl h
  · exact .inr ⟨g, cap, cur, fz, h1, h2, (hb.block _ (by have := (Array.getElem?_eq_some_iff.1 h3).1; omega)).trans h3, h4⟩
theorem bld_own {β : Type} (B b : Nat) (p : Value) (f : β → List UInt8) : Own (fun (s : β) W => Bld B b p (f s) W) := by
  rintro s X Y row h hg hr
  obtain ⟨hB, v, hbk, hown, hne⟩ := h
  have key : ∀ (k : Nat) (cs : Array Value) (t : TypeId) (fz : Nat × Nat), X.heap[k]? = some (Obj.cells cs t fz) → Y.heap[k]? = some (Obj.cells cs t fz) := fun k cs t fz hk =>
    (hg.block k (Array.getElem?_eq_some_iff.1 hk).1 (fun e => by obtain ⟨o, ho, hc⟩ := hr k e.symm; rw [hk] at ho; cases ho; cases hc)).trans hk
  refine ⟨hB, v, key _ _ _ _ hbk, ⟨hown.1, ?_⟩, hne⟩
  rcases hown.2 with h | ⟨g, cap, cur, fz, h1, h2, h3, h4⟩
  · exact .inl h
  · exact .inr ⟨g, cap, cur, fz, h1, h2, key _ _ _ _ h3, h4⟩
theorem oth_keeps {b : Nat} {w w' : World} (h : Oth b w w') (hsz : w.heap.size ≤ w'.heap.size) (hb : ∃ cs t fz, w.heap[b]? = some (.cells cs t fz)) : KeepsOthers w w' := by
  obtain ⟨cs, t, fz, hb⟩ := hb
  refine ⟨hsz, fun k o hk ho => ?_⟩
  refine h k o hk (fun e => ?_) (fun c fz' e => by rw [e] at ho; cases ho)
  rw [Option.some.inj e, hb] at hk
  cases hk
  cases ho
theorem oth_row {b B : Nat} {w w' : World} (h : Oth b w w') {cs : Array Value} {t : TypeId} {fz : Nat × Nat} (hB : w.heap[B]? = some (.cells cs t fz)) (hne : B ≠ b) (ht : t ≠ 5) : w'.heap[B]? = some (.cells cs t fz) :=
  h B _ hB (fun e => hne (Option.some.inj e)) (fun c fz' e => by cases e; exact ht rfl)

/-! ### The chunks -/

/-- The index of a chunk. -/
abbrev Ch (H : Nat) := { y : Nat // y < H }
abbrev encC (ga W : Nat) {H : Nat} (y : Ch H) : Array Value := #[.slice (some ⟨ga, y.1 * W, none⟩) W W]
/-- What a round must keep: the two boxes of the iterator. -/
def KeepsTwo (Bs Bn : Nat) (v : Value) (W : Nat) (A B : World) : Prop :=
  A.cell? ⟨Bs, 0, none⟩ = some v ∧ A.cell? ⟨Bn, 0, none⟩ = some (.int .i64 (W : Nat)) → B.cell? ⟨Bs, 0, none⟩ = some v ∧ B.cell? ⟨Bn, 0, none⟩ = some (.int .i64 (W : Nat))
theorem KeepsTwo.t {Bs Bn W : Nat} {v : Value} {A B C : World} (h : KeepsTwo Bs Bn v W A B) (k : KeepsTwo Bs Bn v W B C) : KeepsTwo Bs Bn v W A C := fun x => k (h x)
theorem KeepsTwo.b {Bs Bn W N : Nat} {v : Value} (A : World) (l : Nat) (o o' : Obj) (_ : N ≤ l) (hl : A.heap[l]? = some o) (ho : o.isCells = false) (_ : o.isWalk = false) : KeepsTwo Bs Bn v W A (A.putObj l o') := fun x =>
  ⟨cell_kept x.1 (grownBy_putObj' A l o') (fun r e => by cases e; exact ⟨o, hl, ho⟩), cell_kept x.2 (grownBy_putObj' A l o') (fun r e => by cases e; exact ⟨o, hl, ho⟩)⟩

set_option maxRecDepth 100000 in
set_option maxHeartbeats 3200000 in
theorem chunk1_in (F : Fence) (k : Nat) (h6 : F.fn 207) (hro : F.round = none) (hk : 1 ≤ k) (l Bs Bn ga W H n : Nat) (hW1 : 1 ≤ W) (hN : H * W = n) (hn : n ≤ 4096) (J Jx : List (Ch H) → World → Prop)
    (hY : ∀ pre x W1, J pre W1 → pre.length < H → YieldAt F (k - 1) Tryz.prog l (encC ga W x) W1 fun e W' =>
      (e = .returned (.bool true) ∧ J (pre ++ [x]) W' ∧ KeepsTwo Bs Bn (.slice (some ⟨ga, 0, none⟩) n n) W W1 W') ∨ (e = .returned (.bool false) ∧ Jx (pre ++ [x]) W'))
    (hD : ∀ pre W1, J pre W1 → J pre W1.drew)
    (w : World) (hcS : w.cell? ⟨Bs, 0, none⟩ = some (.slice (some ⟨ga, 0, none⟩) n n)) (hcN : w.cell? ⟨Bn, 0, none⟩ = some (.int .i64 W)) (h0 : J [] w) :
    CallsIn F k Tryz.prog 207 #[.func (.yield l) #[] #[], .pointer (some ⟨Bs, 0, none⟩), .pointer (some ⟨Bn, 0, none⟩)] w fun e W' => (∃ v, e = .returned v) ∧
      ((∃ ys : List (Ch H), ys.map Subtype.val = List.range H ∧ J ys W') ∨ (∃ pre, True ∧ Jx pre W')) := by
  have HY := Lib.hid hY
  have HN := Lib.hid hN
  have HD := Lib.hid hD
  clear hY hN hD
  refine callsIn_of_wp Tryz.func207 rfl h6 ?_ hro
  simp only [Tryz.ntmps207, List.size_toArray, List.length_cons, List.length_nil, Nat.reduceAdd, Nat.reduceSub, Array.replicate_succ, Array.replicate_zero, List.push_toArray, List.append_toArray, List.nil_append, List.cons_append]
  gi_wp2
  gi_loopw [4] (fun iv wr => ∃ y m : Nat, y ≤ H ∧ y * W = m ∧ iv = .int .i64 m ∧ wr.cell? ⟨Bs, 0, none⟩ = some (.slice (some ⟨ga, 0, none⟩) n n) ∧ wr.cell? ⟨Bn, 0, none⟩ = some (.int .i64 W) ∧ ∃ ps : List (Ch H), ps.map Subtype.val = List.range y ∧ J ps wr)
    (fun iv _ => n - (intOf iv).toNat)
  case atStart => exact ⟨0, 0, Nat.zero_le _, by simp, rfl, hcS, hcN, [], rfl, h0⟩
  case round =>
    obtain ⟨y, m, hy, hm, rfl, hcs, hcn, ps, hps, hJ⟩ := hrel
    have HM := Lib.hid hm
    have HPS := Lib.hid hps
    clear hm hps hcS hcN h0
    by_cases hlt : y < H
    · have hmw : m + W ≤ n := by
        rw [← HM.out, ← HN.out]
        have := Nat.mul_le_mul_right W (show y + 1 ≤ H by omega)
        rw [Nat.add_mul] at this; omega
      have i1 : (m : Int) < (n : Int) := by omega
      have j1 : m ≤ n := by omega
      have j2 : ¬ (n = m) := by omega
      obtain ⟨q, hq⟩ : ∃ q, n - m = q := ⟨_, rfl⟩
      have j3 : (W : Int) ≤ (q : Int) := by omega
      have j4 : ¬ ((q : Int) < (W : Int)) := by omega
      gi_wp2_with fail
      have hmix : Tryz.prog.follows Departure.mixedOrders = true := by kernel_rfl
      obtain ⟨S, hSdef⟩ : ∃ S : World → Prop, S = fun w' => w'.cell? ⟨Bs, 0, none⟩ = some (.slice (some ⟨ga, 0, none⟩) n n) ∧ w'.cell? ⟨Bn, 0, none⟩ = some (.int .i64 W) := ⟨_, rfl⟩
      have hS : S wr.drew := by rw [hSdef]; exact ⟨hcs, hcn⟩
      refine wpIn_region_heldI S hmix ?_
      change wpAnyHIn _ _ _ _ _ _ _ 7 _ _ wr.drew
      refine wpAnyHIn_take (i := 0) (v := ?_) rfl (by kernel_rfl) (by kernel_rfl) (by kernel_rfl) (by kernel_rfl) (fun _ _ _ h => h) ⟨Or.inl ⟨by rfl, ?_⟩, fun _ => rfl⟩ hS ?_
      rotate_left 1
      · intro Wy hSy
        rw [hSdef] at hSy
        obtain ⟨s0, s1⟩ := hSy
        go_simp
        try with_reducible rfl
      try simp only [Act.put, List.setIfInBounds_toArray, List.set_cons_zero, List.set_cons_succ]
      refine wpAnyHIn_take (i := 1) (v := ?_) rfl (by kernel_rfl) (by kernel_rfl) (by kernel_rfl) (by kernel_rfl) (fun _ _ _ h => h) ⟨Or.inl ⟨by rfl, ?_⟩, fun _ => rfl⟩ hS ?_
      rotate_left 1
      · intro Wy hSy
        rw [hSdef] at hSy
        obtain ⟨s0, s1⟩ := hSy
        go_simp
        try with_reducible rfl
      try simp only [Act.put, List.setIfInBounds_toArray, List.set_cons_zero, List.set_cons_succ]
      refine wpAnyHIn_take (i := 2) (v := ?_) rfl (by kernel_rfl) (by kernel_rfl) (by kernel_rfl) (by kernel_rfl) (fun _ _ _ h => h) ⟨Or.inl ⟨by rfl, ?_⟩, fun _ => rfl⟩ hS ?_
      rotate_left 1
      · intro Wy hSy
        rw [hSdef] at hSy
        obtain ⟨s0, s1⟩ := hSy
        go_simp
        try with_reducible rfl
      try simp only [Act.put, List.setIfInBounds_toArray, List.set_cons_zero, List.set_cons_succ]
      refine wpAnyHIn_take (i := 3) (v := ?_) rfl (by kernel_rfl) (by kernel_rfl) (by kernel_rfl) (by kernel_rfl) (fun _ _ _ h => h) ⟨Or.inl ⟨by rfl, ?_⟩, fun _ => rfl⟩ hS ?_
      rotate_left 1
      · intro Wy hSy
        rw [hSdef] at hSy
        obtain ⟨s0, s1⟩ := hSy
        go_simp
        try with_reducible rfl
      try simp only [Act.put, List.setIfInBounds_toArray, List.set_cons_zero, List.set_cons_succ]
      refine wpAnyHIn_take (i := 4) (v := ?_) rfl (by kernel_rfl) (by kernel_rfl) (by kernel_rfl) (by kernel_rfl) (fun _ _ _ h => h) ⟨Or.inl ⟨by rfl, ?_⟩, fun _ => rfl⟩ hS ?_
      rotate_left 1
      · intro Wy hSy
        rw [hSdef] at hSy
        obtain ⟨s0, s1⟩ := hSy
        go_simp
        try with_reducible rfl
      try simp only [Act.put, List.setIfInBounds_toArray, List.set_cons_zero, List.set_cons_succ]
      refine wpAnyHIn_take (i := 5) (v := ?_) rfl (by kernel_rfl) (by kernel_rfl) (by kernel_rfl) (by kernel_rfl) (fun _ _ _ h => h) ⟨Or.inl ⟨by rfl, ?_⟩, fun _ => rfl⟩ hS ?_
      rotate_left 1
      · intro Wy hSy
        rw [hSdef] at hSy
        obtain ⟨s0, s1⟩ := hSy
        go_simp
        try with_reducible rfl
      try simp only [Act.put, List.setIfInBounds_toArray, List.set_cons_zero, List.set_cons_succ]
      refine wpAnyHIn_end (i := 6) (by kernel_rfl) rfl (by kernel_rfl) (by kernel_rfl) (fun K hK => ?_)
      go_simp
      refine hK _ _ ?_
      clear hK K
      try simp only [Act.put, List.setIfInBounds_toArray, List.set_cons_zero, List.set_cons_succ]
      have j5 : min (W : Int) (q : Int) = (W : Int) := by omega
      rw [j5]
      have hlen : ps.length < H := by
        rw [← List.length_map (f := Subtype.val), HPS.out, List.length_range]; exact hlt
      have hY1 := HY.out ps ⟨y, hlt⟩ wr.drew (HD.out _ _ hJ) hlen
      dsimp only [encC] at hY1
      rw [HM.out] at hY1
      obtain ⟨fn, tmps, assign, body, hy1, hR⟩ := hY1
      have HR := Lib.hid hR
      have i5 : IntKind.i64.wrap ((m : Int) + (W : Int)) = ((m + W : Nat) : Int) := by rw [show (m : Int) + (W : Int) = ((m + W : Nat) : Int) by push_cast; rfl]; exact IntWalk.i64_in _ ⟨by omega, by omega⟩
      obtain ⟨u, hu⟩ : ∃ u, m + W = u := ⟨_, rfl⟩
      rw [hu] at i5
      have j6 : u ≤ n := by omega
      have j7 : m ≤ u := by omega
      have j8 : u - m = W := by omega
      have j9 : ¬ (W = 0) := by omega
      have hcs' : wr.drew.cell? ⟨Bs, 0, none⟩ = some (.slice (some ⟨ga, 0, none⟩) n n) := hcs
      clear hR
      gi_wp2_with fail
      refine HR.out.mono ?_
      rintro e W3 (⟨rfl, hJ3, hk3⟩ | ⟨rfl, hJx3⟩)
      · obtain ⟨hcs3, hcn3⟩ := hk3 ⟨hcs, hcn⟩
        gi_wp2
        go_roundw
        case rel => exact ⟨y + 1, u, by omega, by rw [Nat.add_mul, HM.out, Nat.one_mul]; exact hu, rfl, hcs3, hcn3, _, by rw [List.map_append, HPS.out, List.range_succ]; rfl, hJ3⟩
        case measure => simp [intOf]; omega
      · gi_wp2
        refine bodyPost_ret (results_none rfl _ _ _) rfl ?_
        exact ⟨⟨_, rfl⟩, .inr ⟨_, trivial, hJx3⟩⟩
    · obtain rfl : y = H := by omega
      have hmn : m = n := by rw [← HM.out, HN.out]
      subst hmn
      gi_wp2
      go_end0
      exact ⟨⟨_, rfl⟩, .inl ⟨ps, HPS.out, hJ⟩⟩

set_option maxHeartbeats 1000000 in
/-- The iterator's maker. -/
theorem chunk_any (ao : Option Addr) (n c : Nat) (W : Int) (hW : 1 ≤ W) (w : World) :
    Calls Tryz.prog 159 #[.slice ao n c, .int .i64 W] w fun e w' => e = .returned (.func (.func 207) #[] #[.pointer (some ⟨w.heap.size, 0, none⟩), .pointer (some ⟨w.heap.size + 1, 0, none⟩)]) ∧
      w' = (w.alloc (.cells #[.slice ao n c] 157)).alloc (.cells #[.int .i64 W] 3) := by
  have h0 : ¬ (W < 1) := by omega
  go_enter Tryz.func159, Tryz.ntmps159
  go_wp2
  go_ret
  exact ⟨rfl, rfl⟩

/-- The chunks, in their order. -/
theorem chunk_stops (F : Fence) (k : Nat) (h6 : F.fn 207) (hro : F.round = none) (hk : 1 ≤ k) (Bs Bn ga W H n : Nat) (hW1 : 1 ≤ W) (hN : H * W = n) (hn : n ≤ 4096) (w : World) (hbs : Bs < w.heap.size) (hbn : Bn < w.heap.size)
    (hcS : w.cell? ⟨Bs, 0, none⟩ = some (.slice (some ⟨ga, 0, none⟩) n n)) (hcN : w.cell? ⟨Bn, 0, none⟩ = some (.int .i64 W)) :
    SeqStopsK F k Tryz.prog 207 #[.pointer (some ⟨Bs, 0, none⟩), .pointer (some ⟨Bn, 0, none⟩)] (encC ga W) (KeepsTwo Bs Bn (.slice (some ⟨ga, 0, none⟩) n n) W) (fun ys : List (Ch H) => ys.map Subtype.val = List.range H) (fun _ => True) H w := fun l J Jx W1 hW1' hJ _ hY h0 =>
  chunk1_in F k h6 hro hk l Bs Bn ga W H n hW1 hN hn J Jx hY (fun pre W2 h => hJ pre W2 W2.drew none h ⟨rfl, rfl, rfl, Nat.le_refl _, fun _ _ _ => rfl⟩ (fun r e => by cases e)) W1 ((hW1'.cell (p := ⟨Bs, 0, none⟩) hbs).trans hcS) ((hW1'.cell (p := ⟨Bn, 0, none⟩) hbn).trans hcN) h0
end Go.Proofs.YtpmjiifdnnhecaaGreatDoor
