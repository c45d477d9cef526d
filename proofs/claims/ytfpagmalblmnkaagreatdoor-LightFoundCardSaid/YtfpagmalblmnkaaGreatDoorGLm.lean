/-
  What serves every walk: the code from a region on, blocks that are kept, cells of a block.
-/
import Derived.Test.YtfpagmalblmnkaaGreatDoorGGb
import Derived.Test.YtfpagmalblmnkaaGreatDoorGZr
import Derived.Deep.CutBlock
import Derived.Deep.DeepCutAuto
import Derived.Shelf.Strings.Builder1
import Derived.Shelf.Strings.OnBuilder
import Derived.Shelf.LaysM
import Derived.Shelf.Strconv.Itoa3
import Derived.Test.YtfpagmalblmnkaaGreatDoorProg
import Derived.Lib.AppendIntMem
import Derived.Lib.ItoaLen
import Derived.Test.YtfpagmalblmnkaaGreatDoorGWc
import Derived.Test.YtfpagmalblmnkaaGreatDoorGWx
namespace Go.Proofs.YtfpagmalblmnkaaGreatDoor
open Go.RowKit Go.Shelf
set_option linter.unusedVariables false
set_option linter.unusedSimpArgs false

def headsC (n : Nat) : Code → Bool
  | .region m _ _ => m == n
  | .seq a _ => headsC n a
  | _ => false
def tailC (n : Nat) : Code → Option Code
  | .seq a b => if headsC n a then some (.seq a b) else match tailC n b with
    | some c => some c
    | none => tailC n a
  | .block _ c => tailC n c
  | .scope c => tailC n c
  | .loop c => tailC n c
  | .cond _ a b => match tailC n a with
    | some c => some c
    | none => tailC n b
  | c => if headsC n c then some c else none
theorem Kp.subs {w w1 : World} {l m : List (Nat × Obj)} (h : Kp w w1 l) (hs : ∀ p ∈ m, p ∈ l) : Kp w w1 m := ⟨h.1, fun p hp => h.2 p (hs p hp)⟩
theorem cells3 {w : World} {B : Nat} {T : TypeId} {x y z : Value} (h : w.heap[B]? = some (.cells #[x, y, z] T (0, 0))) :
    w.cell? ⟨B, 0, none⟩ = some x ∧ w.cell? ⟨B, 1, none⟩ = some y ∧ w.cell? ⟨B, 2, none⟩ = some z :=
  ⟨by rw [cell_of_row w _ 0 _ _ (0, 0) h]; rfl, by rw [cell_of_row w _ 1 _ _ (0, 0) h]; rfl, by rw [cell_of_row w _ 2 _ _ (0, 0) h]; rfl⟩
theorem cells2 {w : World} {B : Nat} {T : TypeId} {x y : Value} (h : w.heap[B]? = some (.cells #[x, y] T (0, 0))) :
    w.cell? ⟨B, 0, none⟩ = some x ∧ w.cell? ⟨B, 1, none⟩ = some y :=
  ⟨by rw [cell_of_row w _ 0 _ _ (0, 0) h]; rfl, by rw [cell_of_row w _ 1 _ _ (0, 0) h]; rfl⟩
theorem Kp.swap {w w1 : World} {a b : Nat × Obj} {l : List (Nat × Obj)} (h : Kp w w1 (a :: b :: l)) : Kp w w1 (b :: a :: l) := h.subs fun p hp => by
  rcases List.mem_cons.1 hp with rfl | hp
  · exact .tail _ (.head _)
  · rcases List.mem_cons.1 hp with rfl | hp
    · exact .head _
    · exact .tail _ (.tail _ hp)
theorem Kp.swap2 {w w1 : World} {a b c : Nat × Obj} {l : List (Nat × Obj)} (h : Kp w w1 (a :: b :: c :: l)) : Kp w w1 (a :: c :: b :: l) := h.subs fun p hp => by
  rcases List.mem_cons.1 hp with rfl | hp
  · exact .head _
  · rcases List.mem_cons.1 hp with rfl | hp
    · exact .tail _ (.tail _ (.head _))
    · rcases List.mem_cons.1 hp with rfl | hp
      · exact .tail _ (.head _)
      · exact .tail _ (.tail _ (.tail _ hp))
theorem Kp.drop1 {w w1 : World} {a b : Nat × Obj} {l : List (Nat × Obj)} (h : Kp w w1 (a :: b :: l)) : Kp w w1 (a :: l) := h.subs fun p hp => by
  rcases List.mem_cons.1 hp with rfl | hp
  · exact .head _
  · exact .tail _ (.tail _ hp)
theorem Kp.cons {w w1 : World} {l : List (Nat × Obj)} (h : Kp w w1 l) {B : Nat} {O : Obj} (hB : w1.heap[B]? = some O) : Kp w w1 ((B, O) :: l) := ⟨h.1, fun p hp => by
  rcases List.mem_cons.1 hp with rfl | hp
  · exact hB
  · exact h.2 p hp⟩
/-- The world of a walk may be taken as any that has what is known of it. -/
theorem wp_world {P : Program} {c : Code} {Q : Exit → Act → World → Prop} {fr : Act} {w1 : World} (R : World → Prop) (h : R w1) (k : ∀ w', R w' → Code.wp P c Q fr w') : Code.wp P c Q fr w1 := k w1 h
theorem kp_set4 {w w1 : World} {l : List (Nat × Obj)} (h : Kp w w1 l) {x y z u : Value} {T : TypeId} (a b c d : Value) :
    Kp w (((((w1.alloc (.cells #[x, y, z, u] T)).setCell ⟨w1.heap.size, 0, none⟩ a).setCell ⟨w1.heap.size, 1, none⟩ b).setCell ⟨w1.heap.size, 2, none⟩ c).setCell ⟨w1.heap.size, 3, none⟩ d) ((w1.heap.size, .cells #[a, b, c, d] T (0, 0)) :: l) := by
  have hs : w.heap.size ≤ w1.heap.size := h.1.size
  have k := h.alloc (.cells #[x, y, z, u] T)
  refine ⟨(((k.1.setCell (p := ⟨w1.heap.size, 0, none⟩) hs _).setCell (p := ⟨w1.heap.size, 1, none⟩) hs _).setCell (p := ⟨w1.heap.size, 2, none⟩) hs _).setCell (p := ⟨w1.heap.size, 3, none⟩) hs _, fun p hp => ?_⟩
  rcases List.mem_cons.1 hp with rfl | hp
  · exact blk_set4u (blk_alloc_new _ _) _ _ _ _
  · have hne : p.1 ≠ w1.heap.size := by have := lt_of_blk (h.2 p hp); omega
    refine (Below.heap_setCell _ _ _ _ hne).trans ((Below.heap_setCell _ _ _ _ hne).trans ((Below.heap_setCell _ _ _ _ hne).trans ((Below.heap_setCell _ _ _ _ hne).trans (k.2 p (.tail _ hp)))))
theorem cells4 {w : World} {B : Nat} {T : TypeId} {x y z u : Value} (h : w.heap[B]? = some (.cells #[x, y, z, u] T (0, 0))) :
    w.cell? ⟨B, 0, none⟩ = some x ∧ w.cell? ⟨B, 1, none⟩ = some y ∧ w.cell? ⟨B, 2, none⟩ = some z ∧ w.cell? ⟨B, 3, none⟩ = some u :=
  ⟨by rw [cell_of_row w _ 0 _ _ (0, 0) h]; rfl, by rw [cell_of_row w _ 1 _ _ (0, 0) h]; rfl, by rw [cell_of_row w _ 2 _ _ (0, 0) h]; rfl, by rw [cell_of_row w _ 3 _ _ (0, 0) h]; rfl⟩
end Go.Proofs.YtfpagmalblmnkaaGreatDoor

/-
  The shelf's contracts of strings.Join, Builder.String and strconv.Itoa over this program, as the kit's command lays them in plain words.
-/
namespace Go.Proofs
open Go.Shelf
def Tryz.lays169_ren : Go.Shelf.Ren := ⟨fun | 169 => 70 | n => n, fun | 70 => 129 | 9 => 9 | 0 => 0 | 72 => 131 | 37 => 71 | 127 => 203 | 3 => 3 | 5 => 5 | n => n, fun | n => n⟩
theorem Tryz.lays169 : Go.Proofs.Lays.n169 Tryz.prog Tryz.lays169_ren := {
  mixed := by kernel_rfl
  f169 := Tryz.func70.trans (congrArg some (by kernel_rfl))
  t0 := Tryz.underlying0
  a0 := Tryz.isAgg0
  z0 := Tryz.sizeOf0
  v0 := Tryz.zeroValue0
  t3 := Tryz.underlying3
  a3 := Tryz.isAgg3
  z3 := Tryz.sizeOf3
  v3 := Tryz.zeroValue3
  t9 := Tryz.underlying9
  a9 := Tryz.isAgg9
  z9 := Tryz.sizeOf9
  v9 := Tryz.zeroValue9
  t37 := Tryz.underlying71
  a37 := Tryz.isAgg71
  z37 := Tryz.sizeOf71
  v37 := Tryz.zeroValue71
  t70 := Tryz.underlying129
  a70 := Tryz.isAgg129
  z70 := Tryz.sizeOf129
  v70 := Tryz.zeroValue129
  t72 := Tryz.underlying131
  a72 := Tryz.isAgg131
  z72 := Tryz.sizeOf131
  v72 := Tryz.zeroValue131
  t127 := Tryz.underlying203
  a127 := Tryz.isAgg203
  z127 := Tryz.sizeOf203
  v127 := Tryz.zeroValue203 }
theorem Tryz.Builder_Extra_169 : Builder.Extra Tryz.prog Tryz.lays169_ren := {
  sizeBuilder := by kernel_rfl
  liesBuilder := by kernel_rfl
  t5 := Tryz.underlying5
  a5 := Tryz.isAgg5
  z5 := Tryz.sizeOf5
  v5 := Tryz.zeroValue5
  infoByte := by kernel_rfl
  cellsByte := by kernel_rfl
  sizeByte := by kernel_rfl
  neB5 := by decide }
open Go.RowKit in
theorem Tryz.Builder_String_any (B b : Nat) (l : List UInt8) (w : World) (h : Lib.IsBuilder 131 5 B b (Lib.byteCells l) w) (hBw : B ≤ w.heap.size) :
    Calls Tryz.prog 70 #[.pointer (some ⟨b, 0, none⟩)] w fun e w' => e = .returned (.string ⟨l.toArray⟩) ∧ Below B w w' := Any.Builder_String_any Tryz.lays169 Tryz.Builder_Extra_169 B b l w h hBw
def Tryz.lays156_ren : Go.Shelf.Ren := ⟨fun | 156 => 129 | 165 => 160 | 166 => 66 | 169 => 70 | 240 => 128 | 241 => 175 | 276 => 159 | 277 => 183 | n => n, fun | 31 => 99 | 9 => 9 | 3 => 3 | 4 => 4 | 0 => 0 | 20 => 20 | 72 => 131 | 76 => 134 | 70 => 129 | 37 => 71 | 75 => 133 | 127 => 203 | 164 => 228 | 5 => 5 | 80 => 143 | n => n, fun | n => n⟩
theorem Tryz.lays156 : Go.Proofs.Lays.n156 Tryz.prog Tryz.lays156_ren := {
  mixed := by kernel_rfl
  f156 := Tryz.func129.trans (congrArg some (by kernel_rfl))
  f165 := Tryz.func160.trans (congrArg some (by kernel_rfl))
  f166 := Tryz.func66.trans (congrArg some (by kernel_rfl))
  f169 := Tryz.func70.trans (congrArg some (by kernel_rfl))
  f240 := Tryz.func128.trans (congrArg some (by kernel_rfl))
  f241 := Tryz.func175.trans (congrArg some (by kernel_rfl))
  f276 := Tryz.func159.trans (congrArg some (by kernel_rfl))
  f277 := Tryz.func183.trans (congrArg some (by kernel_rfl))
  t0 := Tryz.underlying0
  a0 := Tryz.isAgg0
  z0 := Tryz.sizeOf0
  v0 := Tryz.zeroValue0
  t3 := Tryz.underlying3
  a3 := Tryz.isAgg3
  z3 := Tryz.sizeOf3
  v3 := Tryz.zeroValue3
  t4 := Tryz.underlying4
  a4 := Tryz.isAgg4
  z4 := Tryz.sizeOf4
  v4 := Tryz.zeroValue4
  t9 := Tryz.underlying9
  a9 := Tryz.isAgg9
  z9 := Tryz.sizeOf9
  v9 := Tryz.zeroValue9
  t20 := Tryz.underlying20
  a20 := Tryz.isAgg20
  z20 := Tryz.sizeOf20
  v20 := Tryz.zeroValue20
  t31 := Tryz.underlying99
  a31 := Tryz.isAgg99
  z31 := Tryz.sizeOf99
  v31 := Tryz.zeroValue99
  t37 := Tryz.underlying71
  a37 := Tryz.isAgg71
  z37 := Tryz.sizeOf71
  v37 := Tryz.zeroValue71
  t70 := Tryz.underlying129
  a70 := Tryz.isAgg129
  z70 := Tryz.sizeOf129
  v70 := Tryz.zeroValue129
  t72 := Tryz.underlying131
  a72 := Tryz.isAgg131
  z72 := Tryz.sizeOf131
  v72 := Tryz.zeroValue131
  t75 := Tryz.underlying133
  a75 := Tryz.isAgg133
  z75 := Tryz.sizeOf133
  v75 := Tryz.zeroValue133
  t76 := Tryz.underlying134
  a76 := Tryz.isAgg134
  z76 := Tryz.sizeOf134
  v76 := Tryz.zeroValue134
  t127 := Tryz.underlying203
  a127 := Tryz.isAgg203
  z127 := Tryz.sizeOf203
  v127 := Tryz.zeroValue203
  t164 := Tryz.underlying228
  a164 := Tryz.isAgg228
  z164 := Tryz.sizeOf228
  v164 := Tryz.zeroValue228 }
theorem Tryz.Builder_Extra_156 : Builder.Extra Tryz.prog Tryz.lays156_ren := {
  sizeBuilder := by kernel_rfl
  liesBuilder := by kernel_rfl
  t5 := Tryz.underlying5
  a5 := Tryz.isAgg5
  z5 := Tryz.sizeOf5
  v5 := Tryz.zeroValue5
  infoByte := by kernel_rfl
  cellsByte := by kernel_rfl
  sizeByte := by kernel_rfl
  neB5 := by decide }
open Go.RowKit in
theorem Tryz.strings_Join_none (a : Option Addr) (c : Nat) (sep : ByteArray) (w : World) :
    Calls Tryz.prog 129 #[.slice a 0 c, .string sep] w fun e w' => e = .returned (.string ⟨#[]⟩) ∧ w' = w := Any.strings_Join_none Tryz.lays156 Tryz.Builder_Extra_156 a c sep w
open Go.RowKit in
theorem Tryz.strings_Join (bk o c : Nat) (xs : List ByteArray) (sep : ByteArray) (w : World) (hcells : ∀ (j : Nat) x, xs[j]? = some x → w.cell? ⟨bk, o + j, none⟩ = some (.string x)) (hbk : bk < w.heap.size) (hN : xs.length ≤ 140737488355328) (hcap : xs.length ≤ c) (hlen : (Lib.join (xs.map (·.data.toList)) sep.data.toList).length ≤ 140737488355328) :
    Calls Tryz.prog 129 #[.slice (some ⟨bk, o, none⟩) xs.length c, .string sep] w fun e w' => e = .returned (.string ⟨(Lib.join (xs.map (·.data.toList)) sep.data.toList).toArray⟩) ∧ Below w.heap.size w w' := Any.strings_Join Tryz.lays156 Tryz.Builder_Extra_156 bk o c xs sep w hcells hbk hN hcap hlen
def Tryz.laysM171_ren : Go.Shelf.Ren := ⟨fun | 171 => 131 | 243 => 161 | 246 => 176 | 283 => 184 | 284 => 185 | 285 => 186 | 286 => 187 | 129 => 197 | 317 => 196 | 318 => 198 | 319 => 199 | 320 => 200 | 337 => 211 | 338 => 212 | n => n, fun | 3 => 3 | 9 => 9 | 2 => 2 | 4 => 4 | 171 => 80 | 0 => 0 | 53 => 238 | 37 => 71 | 5 => 5 | 173 => 248 | 212 => 255 | 51 => 184 | 20 => 20 | 213 => 256 | 46 => 221 | 232 => 272 | 233 => 273 | n => n, fun | 17 => 2 | 18 => 3 | 19 => 4 | n => n⟩
theorem Tryz.laysM171 : Go.Proofs.LaysM.n171 Tryz.prog Tryz.laysM171_ren := {
  mixed := by kernel_rfl
  f129 := Tryz.func197.trans (congrArg some (by kernel_rfl))
  f171 := Tryz.func131.trans (congrArg some (by kernel_rfl))
  f243 := Tryz.func161.trans (congrArg some (by kernel_rfl))
  f246 := Tryz.func176.trans (congrArg some (by kernel_rfl))
  f283 := Tryz.func184.trans (congrArg some (by kernel_rfl))
  f284 := Tryz.func185.trans (congrArg some (by kernel_rfl))
  f285 := Tryz.func186.trans (congrArg some (by kernel_rfl))
  f286 := Tryz.func187.trans (congrArg some (by kernel_rfl))
  f317 := Tryz.func196.trans (congrArg some (by kernel_rfl))
  f318 := Tryz.func198.trans (congrArg some (by kernel_rfl))
  f319 := Tryz.func199.trans (congrArg some (by kernel_rfl))
  f320 := Tryz.func200.trans (congrArg some (by kernel_rfl))
  f337 := Tryz.func211.trans (congrArg some (by kernel_rfl))
  f338 := Tryz.func212.trans (congrArg some (by kernel_rfl))
  t0 := Tryz.underlying0
  a0 := Tryz.isAgg0
  z0 := Tryz.sizeOf0
  v0 := Tryz.zeroValue0
  t2 := Tryz.underlying2
  a2 := Tryz.isAgg2
  z2 := Tryz.sizeOf2
  v2 := Tryz.zeroValue2
  t3 := Tryz.underlying3
  a3 := Tryz.isAgg3
  z3 := Tryz.sizeOf3
  v3 := Tryz.zeroValue3
  t4 := Tryz.underlying4
  a4 := Tryz.isAgg4
  z4 := Tryz.sizeOf4
  v4 := Tryz.zeroValue4
  t5 := Tryz.underlying5
  a5 := Tryz.isAgg5
  z5 := Tryz.sizeOf5
  v5 := Tryz.zeroValue5
  t9 := Tryz.underlying9
  a9 := Tryz.isAgg9
  z9 := Tryz.sizeOf9
  v9 := Tryz.zeroValue9
  t20 := Tryz.underlying20
  a20 := Tryz.isAgg20
  z20 := Tryz.sizeOf20
  v20 := Tryz.zeroValue20
  t37 := Tryz.underlying71
  a37 := Tryz.isAgg71
  z37 := Tryz.sizeOf71
  v37 := Tryz.zeroValue71
  t46 := Tryz.underlying221
  a46 := Tryz.isAgg221
  z46 := Tryz.sizeOf221
  v46 := Tryz.zeroValue221
  t51 := Tryz.underlying184
  a51 := Tryz.isAgg184
  z51 := Tryz.sizeOf184
  v51 := Tryz.zeroValue184
  t53 := Tryz.underlying238
  a53 := Tryz.isAgg238
  z53 := Tryz.sizeOf238
  v53 := Tryz.zeroValue238
  t171 := Tryz.underlying80
  a171 := Tryz.isAgg80
  z171 := Tryz.sizeOf80
  v171 := Tryz.zeroValue80
  t173 := Tryz.underlying248
  a173 := Tryz.isAgg248
  z173 := Tryz.sizeOf248
  v173 := Tryz.zeroValue248
  t212 := Tryz.underlying255
  a212 := Tryz.isAgg255
  z212 := Tryz.sizeOf255
  v212 := Tryz.zeroValue255
  t213 := Tryz.underlying256
  a213 := Tryz.isAgg256
  z213 := Tryz.sizeOf256
  t232 := Tryz.underlying272
  a232 := Tryz.isAgg272
  z232 := Tryz.sizeOf272
  v232 := Tryz.zeroValue272
  t233 := Tryz.underlying273
  a233 := Tryz.isAgg273
  z233 := Tryz.sizeOf273
  v233 := Tryz.zeroValue273
  g17 := by kernel_rfl
  g18 := by kernel_rfl
  g19 := by kernel_rfl
  i0 := by kernel_rfl
  i2 := by kernel_rfl
  i3 := by kernel_rfl
  i4 := by kernel_rfl
  i5 := by kernel_rfl
  i9 := by kernel_rfl
  i20 := by kernel_rfl
  i37 := by kernel_rfl
  i46 := by kernel_rfl
  i51 := by kernel_rfl
  i53 := by kernel_rfl
  i171 := by kernel_rfl
  i173 := by kernel_rfl
  i212 := by kernel_rfl
  i232 := by kernel_rfl
  i233 := by kernel_rfl
  m17 := by kernel_rfl
  m18 := by kernel_rfl
  m19 := by kernel_rfl }
open Go.RowKit Go.Sort Go.Lib in
theorem Tryz.strconv_Itoa (n : Int) (h0 : -9223372036854775808 ≤ n) (h1 : n ≤ 9223372036854775807) (w : World) (htab : Lib.TabIs Tryz.prog w "internal/strconv.uint64pow10" .u64 Lib.pow10Tab) :
    Calls Tryz.prog 131 #[.int .i64 n] w fun e w' => e = .returned (.string ⟨(Lib.itoa n).toArray⟩) ∧ ∃ k os, w' = grow (w.drewN k) os := Any.strconv_Itoa Tryz.laysM171 n h0 h1 w htab
end Go.Proofs

/-
  Contracts of strings.Builder.WriteString and strconv.Itoa over this program, off the shelf's.
-/
namespace Go.Proofs.YtfpagmalblmnkaaGreatDoor
open Go.RowKit Go.Shelf
set_option linter.unusedVariables false

theorem writeString_any (B b : Nat) (bs : List Value) (s : ByteArray) (w : World) (h : Lib.IsBuilder 131 5 B b bs w) (hlen : bs.length + s.size ≤ 140737488355328) (hBw : B ≤ w.heap.size) :
    Calls Tryz.prog 66 #[.pointer (some ⟨b, 0, none⟩), .string s] w fun e w' => e = .returned (.tuple #[.int .i64 s.size, .nilIface]) ∧ Lib.BuilderAt 131 5 B b (.pointer (some ⟨b, 0, none⟩)) (bs ++ Lib.strCells s) w' ∧ Below B w w' :=
  Any.Builder_WriteString (P := Tryz.prog) (ρ := Tryz.lays156_ren) { Tryz.lays156 with } Tryz.Builder_Extra_156 B b bs s w h hlen hBw

/-- The library's table of the powers of ten. -/
def TabAt (w : World) : Prop := Lib.TabIs Tryz.prog w "internal/strconv.uint64pow10" .u64 Lib.pow10Tab
theorem TabAt.on {w w' : World} (h : TabAt w) (hb : Below w.heap.size w w') : TabAt w' := Lib.tabBelow_of_tabIs h w' hb
theorem itoa_any (n : Int) (h0 : -9223372036854775808 ≤ n) (h1 : n ≤ 9223372036854775807) (w : World) (ht : TabAt w) :
    Calls Tryz.prog 131 #[.int .i64 n] w fun e w' => e = .returned (.string ⟨(Lib.itoa n).toArray⟩) ∧ Below w.heap.size w w' :=
  (Tryz.strconv_Itoa n h0 h1 w ht).mono fun e w' ⟨he, k, os, hw⟩ => ⟨he, by subst hw; exact Lib.below_grow _ _ (Nat.le_refl _) k os⟩
end Go.Proofs.YtfpagmalblmnkaaGreatDoor

/-
  Contract of common.Line: the word, then a space and the decimal numeral of each integer, then a line feed. Conditions: at most 4096 integers that lie in memory, a word of at most 64 bytes.
-/
namespace Go.Proofs.YtfpagmalblmnkaaGreatDoor
open Go.RowKit Go.Shelf
set_option linter.unusedVariables false
set_option linter.unusedSimpArgs false

theorem Tryz.infoStr : (Tryz.prog.info? 9).map (fun i => (i.zero, i.size, i.bytes)) = some (some (.string ⟨#[]⟩), 1, 16) := by kernel_rfl
def strV (l : List UInt8) : Value := .string ⟨l.toArray⟩
theorem owns_single (w : World) (v : Value) (T : TypeId) : (w.alloc (.cells #[v] T)).ownsRow w.heap.size T 1 (.slice (some ⟨w.heap.size, 0, none⟩) 1 1) 1 [v] :=
  ⟨rfl, .inr ⟨w.heap.size, 1, #[v], rfl, Nat.le_refl _, heap_alloc_new w _, by decide, by unfold maxLen; omega, rfl, rfl⟩⟩

theorem owns_capW {w : World} {B T n c g : Nat} {xs : List Value} (h : w.ownsRow B T 1 (.slice (some ⟨g, 0, none⟩) n c) n xs) : n ≤ c ∧ c ≤ maxLen := by
  rcases h.2 with ⟨h, _⟩ | ⟨g', cap, cur, h1, h2, h3, h4, h5, _⟩
  · cases h
  · simp at h1
    obtain ⟨rfl, rfl⟩ := h1
    exact ⟨h4, h5⟩

set_option maxHeartbeats 2000000 in
set_option maxRecDepth 100000 in
theorem mapped_str {w : World} (b o n c : Nat) (ks : List Int) (hk : ks.length = n) (hn : n ≤ 4096) (hb : b < w.heap.size) (ht : TabAt w)
    (hc : ∀ j, j < n → w.cell? ⟨b, o + j, none⟩ = some (.int .i64 (ks[j]?.getD 0))) (hs : ∀ j, j < n → (ks[j]?.getD 0).natAbs < 2 ^ 40) :
    Calls Tryz.prog 130 #[.slice (some ⟨b, o, none⟩) n c, .func (.func 131) #[] #[]] w fun e w' =>
      e = .returned (.slice (some ⟨w.heap.size, 0, none⟩) n n) ∧ w'.ownsRow w.heap.size 9 1 (.slice (some ⟨w.heap.size, 0, none⟩) n n) n (ks.map (fun k => strV (Lib.itoa k))) ∧ Below w.heap.size w w' := by
  obtain ⟨i0, hi, hz0, hz1, hz2⟩ := info_parts Tryz.infoStr
  have Hk := Lib.hid hk
  have Hc := Lib.hid hc
  have Hs := Lib.hid hs
  have HT := Lib.hid ht
  clear hk hc hs ht
  go_enter Tryz.func130, Tryz.ntmps130
  go_wp2_with (at_make; refine wpList_make_own _ rfl _ _ 99 rfl w.heap.size 9 i0 (.string ⟨#[]⟩) 1 Tryz.underlying99 hi hz0 hz1 _ _ _ n rfl rfl (by omega) ?b2 ?b3 (Nat.le_refl _) ?_)
  case b2 => rw [hz2]; omega
  case b3 => unfold maxLen; omega
  intro w0 hown0 hgrow0
  go_wp2
  go_loopw [5, 13] (fun out i wr => ∃ k : Nat, k ≤ n ∧ i = .int .i64 k ∧ out = .slice (some ⟨w.heap.size, 0, none⟩) k n ∧
      wr.ownsRow w.heap.size 9 1 (.slice (some ⟨w.heap.size, 0, none⟩) k n) k ((ks.take k).map (fun k => strV (Lib.itoa k))) ∧ Below w.heap.size w wr)
    (fun _ i _ => n - (intOf i).toNat)
  case atStart => exact ⟨0, Nat.zero_le _, rfl, rfl, hown0, (Below.refl _ _).grown hgrow0 (Nat.le_refl _) (fun k h => by cases h)⟩
  case round =>
    obtain ⟨k, hk, rfl, rfl, hown, hnx⟩ := hrel
    by_cases hlt : k < n
    · have hcell : wr.cell? ⟨b, o + k, none⟩ = some (.int .i64 (ks[k]?.getD 0)) := (hnx.cell (by exact hb)).trans (Hc.out k hlt)
      obtain ⟨kk, hkk⟩ : ∃ kk : Int, ks[k]?.getD 0 = kk := ⟨_, rfl⟩
      have hks := Hs.out k hlt
      rw [hkk] at hcell hks
      have HKK := Lib.hid hkk
      have K := Lib.hid (itoa_any kk (by omega) (by omega) wr (HT.out.on hnx))
      have hsz := hnx.size
      have HOW := Lib.hid hown
      clear hown hkk hks
      go_wp2_with (first
        | (go_at_call 131; refine K.out.mono ?_; rintro e w1 ⟨rfl, hb1⟩
           have hown1 := owns_kept HOW.out hb1 (Nat.le_refl _)
           have hs1 := hb1.size)
        | (at_builtin; refine wpList_append_fits _ rfl (.tmp 17) (.tmp 21) 99 rfl w.heap.size 9 i0 1 Tryz.underlying99 hi hz1 w.heap.size k n _ rfl (hown1.alloc _) ⟨w1.heap.size, 0, none⟩ 1 1 [strV (Lib.itoa kk)] rfl rfl (cell_one_new _ _ _) (by intro u hu; simp at hu; subst hu; rfl) (by omega) ?_; intro w2 hown2 hgrow2))
      go_roundw
      case rel => exact ⟨k + 1, by omega, by go_num, rfl, by rw [take_map_succ (fun k => strV (Lib.itoa k)) ks k (by have := Hk.out; omega) 0, HKK.out]; exact hown2, ((hnx.trans (hb1.mono hsz)).alloc (by omega) _).grown hgrow2 (by simp; omega) (fun j hj => by cases hj; exact Nat.le_refl _)⟩
      case measure => simp [intOf]; omega
    · go_wp2
      go_ret
      obtain rfl : k = n := by omega
      rw [List.take_of_length_le (by have := Hk.out; omega)] at hown
      exact ⟨rfl, hown, hnx⟩

/-- A line of a text. -/
def lineL (wd : List UInt8) (ks : List Int) : List UInt8 := Lib.join (wd :: ks.map Lib.itoa) [32] ++ [10]
theorem joinTail_len (ls : List (List UInt8)) (h : ∀ l ∈ ls, l.length ≤ 21) : (Lib.joinTail [32] ls).length ≤ 22 * ls.length := by
  induction ls with
  | nil => simp [Lib.joinTail]
  | cons l ls ih =>
    have h1 := h l List.mem_cons_self
    have h2 := ih fun l' h' => h l' (List.mem_cons_of_mem _ h')
    simp only [Lib.joinTail, List.map_cons, List.flatten_cons, List.length_append, List.length_cons, List.length_nil] at h2 ⊢
    omega
theorem join_len (wd : List UInt8) (ks : List Int) (h : ∀ k ∈ ks, k.natAbs < 2 ^ 40) : (Lib.join (wd :: ks.map Lib.itoa) [32]).length ≤ wd.length + 22 * ks.length := by
  rw [Lib.join_cons, List.length_append]
  have := joinTail_len (ks.map Lib.itoa) (fun l hl => by obtain ⟨k, hk, rfl⟩ := List.mem_map.1 hl; have := h k hk; exact Lib.itoa_length_le k (by omega) (by omega))
  rw [List.length_map] at this
  omega

set_option maxHeartbeats 2000000 in
set_option maxRecDepth 100000 in
theorem line_any {w : World} (wd : List UInt8) (b o n c : Nat) (ks : List Int) (hwd : wd.length ≤ 64) (hk : ks.length = n) (hn : n ≤ 4096) (hb : b < w.heap.size) (ht : TabAt w)
    (hc : ∀ j, j < n → w.cell? ⟨b, o + j, none⟩ = some (.int .i64 (ks[j]?.getD 0))) (hs : ∀ j, j < n → (ks[j]?.getD 0).natAbs < 2 ^ 40) :
    Calls Tryz.prog 67 #[strV wd, .slice (some ⟨b, o, none⟩) n c] w fun e w' => e = .returned (strV (lineL wd ks)) ∧ Below w.heap.size w w' := by
  obtain ⟨i0, hi, hz0, hz1, hz2⟩ := info_parts Tryz.infoStr
  have hmem : ∀ k ∈ ks, k.natAbs < 2 ^ 40 := fun k hk' => by
    obtain ⟨j, hj, rfl⟩ := List.getElem_of_mem hk'
    have := hs j (by omega)
    rw [List.getElem?_eq_getElem hj] at this
    exact this
  have hjl := join_len wd ks hmem
  obtain ⟨W1, hW1⟩ : ∃ W1, w.alloc (.cells #[strV wd] 9) = W1 := ⟨_, rfl⟩
  have hB1 : Below w.heap.size w W1 := by rw [← hW1]; exact (Below.refl _ w).alloc (Nat.le_refl _) _
  have hS1 : W1.heap.size = w.heap.size + 1 := by rw [← hW1]; simp
  have hO1 : W1.ownsRow w.heap.size 9 1 (.slice (some ⟨w.heap.size, 0, none⟩) 1 1) 1 [strV wd] := by rw [← hW1]; exact owns_single w _ _
  have K := Lib.hid (mapped_str b o n c ks hk hn (by omega) (ht.on hB1) (fun j hj => (hB1.cell (p := ⟨b, o + j, none⟩) hb).trans (hc j hj)) hs : Calls _ _ _ W1 _)
  have Hk := Lib.hid hk
  have HB1 := Lib.hid hB1
  have HS1 := Lib.hid hS1
  have HO1 := Lib.hid hO1
  have HJL := Lib.hid hjl
  clear hk hc hs ht hB1 hS1 hO1 hjl hmem
  go_enter Tryz.func67, Tryz.ntmps67
  unfold strV at *
  obtain ⟨xs, hxs⟩ : ∃ xs : List ByteArray, xs = (wd :: ks.map Lib.itoa).map (fun l => ⟨l.toArray⟩) := ⟨_, rfl⟩
  have hxl : xs.length = 1 + n := by rw [hxs]; simp [Hk.out]; omega
  have hxm : xs.map (fun x : ByteArray => x.data.toList) = wd :: ks.map Lib.itoa := by rw [hxs, List.map_map]; exact List.map_id' _
  have hxv : [Value.string ⟨wd.toArray⟩] ++ ks.map (fun k => Value.string ⟨(Lib.itoa k).toArray⟩) = xs.map Value.string := by rw [hxs]; simp [List.map_map]
  have HXL := Lib.hid hxl
  have HXM := Lib.hid hxm
  have HXV := Lib.hid hxv
  clear hxs hxl hxm hxv
  go_wp2_with (first
    | (go_at_call 130; refine K.out.mono ?_; rintro e w2 ⟨rfl, hown2, hb2⟩
       have hown6 := owns_kept HO1.out hb2 (Nat.le_refl _)
       have hs2 := hb2.size)
    | (at_builtin; refine wpList_append_own _ rfl (.tmp 6) (.tmp 8) 99 rfl w.heap.size 9 i0 (.string ⟨#[]⟩) 1 16 Tryz.underlying99 hi hz0 hz1 hz2 rfl (by decide) _ 1 _ rfl hown6 ⟨W1.heap.size, 0, none⟩ n n (ks.map (fun k => .string ⟨(Lib.itoa k).toArray⟩)) rfl (by simp [Hk.out]) (fun j u hu => by
          have := hown2.cells (g := W1.heap.size) rfl j u hu
          simpa [Addr.add] using this) (by intro u hu; obtain ⟨k, _, rfl⟩ := List.mem_map.1 hu; rfl) (by unfold maxLen; omega) (by omega) (by have := HS1.out; omega) ?_; intro v' w3 hown3 hgrow3 _
       rw [HXV.out] at hown3
       obtain ⟨gv, cv, rfl, hgv, hgB⟩ := owns_some hown3 (by omega)
       have hcv := owns_capW hown3
       have KJ := Tryz.strings_Join gv 0 cv xs ⟨#[32]⟩ w3 (fun j x hx => by rw [Nat.zero_add]; exact owns_cell hown3 (by rw [List.getElem?_map, hx]; rfl)) hgv (by rw [HXL.out]; omega) (by rw [HXL.out]; omega) (by rw [HXM.out]; have := HJL.out; have := Hk.out; simp only [List.toList_toArray] at *; omega)
       rw [HXL.out, HXM.out] at KJ
       have KJH := Lib.hid KJ
       clear KJ)
    | (go_at_call 129; refine KJH.out.mono ?_; rintro e w4 ⟨rfl, hb4⟩))
  · exfalso
    rename_i h
    have := HJL.out
    have := Hk.out
    omega
  refine bodyPost_ret (results_tmp Tryz.results67 _ _ _) rfl ?_
  refine ⟨?_, ((HB1.out.trans (hb2.mono (by have := HS1.out; omega))).grown hgrow3 (by have := HS1.out; omega) (fun j hj => by cases hj; exact Nat.le_refl _)).trans (hb4.mono (by have := hgrow3.1; have := HS1.out; omega))⟩
  have : (⟨(Lib.join (wd :: ks.map Lib.itoa) [32]).toArray⟩ : ByteArray) ++ ⟨#[10]⟩ = ⟨(lineL wd ks).toArray⟩ := by
    apply ByteArray.ext
    simp [lineL, ByteArray.data_append]
  rw [this]
  rfl
end Go.Proofs.YtfpagmalblmnkaaGreatDoor
