/-
  The shelf's contracts of strings.CutPrefix, CutSuffix, Cut, genSplit and strconv.Atoi over this program, as the kit's command lays them in plain words.
-/
import Derived.Shelf.Small.Wraps
import Derived.Shelf.Strconv.Atoi
import Derived.Shelf.Strings.Cut
import Derived.Shelf.Strings.Split
import Derived.Test.YtnbohpcaejbpeaaGreatDoorProg
import Derived.Test.YtnbohpcaejbpeaaGreatDoorCSf
import Derived.Lib.SmallJoins
import Derived.Lib.ItoaMem
import Derived.Lib.ItoaLen
import Derived.Laws.Runes
import Derived.Laws.Concat
import Derived.Test.YtnbohpcaejbpeaaGreatDoorCZy
import Derived.Test.YtnbohpcaejbpeaaGreatDoorCBd
namespace Go.Proofs
open Go.Shelf
def Tryz.lays103_ren : Go.Shelf.Ren := ⟨fun | 103 => 153 | 210 => 168 | 206 => 181 | n => n, fun | 9 => 9 | 4 => 4 | 24 => 193 | 3 => 3 | n => n, fun | n => n⟩
theorem Tryz.lays103 : Go.Proofs.Lays.n103 Tryz.prog Tryz.lays103_ren := {
  mixed := by kernel_rfl
  f103 := Tryz.func153.trans (congrArg some (by kernel_rfl))
  f206 := Tryz.func181.trans (congrArg some (by kernel_rfl))
  f210 := Tryz.func168.trans (congrArg some (by kernel_rfl))
  t3 := Tryz.underlying3
  a3 := Tryz.isAgg3
  z3 := Tryz.sizeOf3
  v3 := Tryz.zeroValue3
  t4 := Tryz.underlying4
  a4 := Tryz.isAgg4
  z4 := Tryz.sizeOf4
  v4 := Tryz.zeroValue4
  t9 := Tryz.underlying9
  a9 := Tryz.isAgg9
  z9 := Tryz.sizeOf9
  v9 := Tryz.zeroValue9
  t24 := Tryz.underlying193
  a24 := Tryz.isAgg193
  z24 := Tryz.sizeOf193
  v24 := Tryz.zeroValue193 }
open Go.RowKit in
theorem Tryz.strings_CutPrefix (s p : ByteArray) (w : World) :
    Calls Tryz.prog 153 #[.string s, .string p] w fun e w' => e = .returned (.tuple #[.string ⟨(Lib.trimPrefix s.data.toList p.data.toList).toArray⟩, .bool (Lib.hasPrefix s.data.toList p.data.toList)]) ∧ w' = w := Any.strings_CutPrefix Tryz.lays103 s p w
def Tryz.lays104_ren : Go.Shelf.Ren := ⟨fun | 104 => 134 | 211 => 152 | 207 => 167 | n => n, fun | 9 => 9 | 4 => 4 | 24 => 193 | 3 => 3 | n => n, fun | n => n⟩
theorem Tryz.lays104 : Go.Proofs.Lays.n104 Tryz.prog Tryz.lays104_ren := {
  mixed := by kernel_rfl
  f104 := Tryz.func134.trans (congrArg some (by kernel_rfl))
  f207 := Tryz.func167.trans (congrArg some (by kernel_rfl))
  f211 := Tryz.func152.trans (congrArg some (by kernel_rfl))
  t3 := Tryz.underlying3
  a3 := Tryz.isAgg3
  z3 := Tryz.sizeOf3
  v3 := Tryz.zeroValue3
  t4 := Tryz.underlying4
  a4 := Tryz.isAgg4
  z4 := Tryz.sizeOf4
  v4 := Tryz.zeroValue4
  t9 := Tryz.underlying9
  a9 := Tryz.isAgg9
  z9 := Tryz.sizeOf9
  v9 := Tryz.zeroValue9
  t24 := Tryz.underlying193
  a24 := Tryz.isAgg193
  z24 := Tryz.sizeOf193
  v24 := Tryz.zeroValue193 }
open Go.RowKit in
theorem Tryz.strings_CutSuffix (s p : ByteArray) (w : World) (hs : s.size ≤ 9223372036854775807) :
    Calls Tryz.prog 134 #[.string s, .string p] w fun e w' => e = .returned (.tuple #[.string ⟨(Lib.trimSuffix s.data.toList p.data.toList).toArray⟩, .bool (Lib.hasSuffix s.data.toList p.data.toList)]) ∧ w' = w := Any.strings_CutSuffix Tryz.lays104 s p w hs
def Tryz.lays172_ren : Go.Shelf.Ren := ⟨fun | 172 => 170 | 244 => 182 | 245 => 183 | 247 => 191 | 279 => 192 | 280 => 193 | 281 => 194 | 282 => 195 | 287 => 198 | 316 => 199 | 171 => 102 | 205 => 200 | 321 => 201 | 322 => 202 | 243 => 132 | 246 => 150 | 283 => 160 | 284 => 161 | 285 => 162 | 286 => 163 | 129 => 174 | 317 => 173 | 318 => 175 | 319 => 176 | 320 => 177 | 337 => 188 | 338 => 189 | n => n, fun | 9 => 9 | 3 => 3 | 75 => 94 | 76 => 95 | 4 => 4 | 5 => 5 | 167 => 230 | 37 => 42 | 0 => 0 | 85 => 231 | 2 => 2 | 168 => 233 | 53 => 202 | 175 => 244 | 46 => 178 | 210 => 248 | 127 => 163 | 145 => 254 | 143 => 252 | 21 => 21 | 171 => 74 | 173 => 213 | 212 => 221 | 51 => 129 | 20 => 20 | 213 => 222 | 232 => 238 | 233 => 239 | 80 => 104 | n => n, fun | 15 => 7 | 16 => 8 | 17 => 2 | 18 => 3 | 19 => 4 | n => n⟩
theorem Tryz.lays172 : Go.Proofs.Lays.n172 Tryz.prog Tryz.lays172_ren := {
  mixed := by kernel_rfl
  f129 := Tryz.func174.trans (congrArg some (by kernel_rfl))
  f171 := Tryz.func102.trans (congrArg some (by kernel_rfl))
  f172 := Tryz.func170.trans (congrArg some (by kernel_rfl))
  f205 := Tryz.func200.trans (congrArg some (by kernel_rfl))
  f243 := Tryz.func132.trans (congrArg some (by kernel_rfl))
  f244 := Tryz.func182.trans (congrArg some (by kernel_rfl))
  f245 := Tryz.func183.trans (congrArg some (by kernel_rfl))
  f246 := Tryz.func150.trans (congrArg some (by kernel_rfl))
  f247 := Tryz.func191.trans (congrArg some (by kernel_rfl))
  f279 := Tryz.func192.trans (congrArg some (by kernel_rfl))
  f280 := Tryz.func193.trans (congrArg some (by kernel_rfl))
  f281 := Tryz.func194.trans (congrArg some (by kernel_rfl))
  f282 := Tryz.func195.trans (congrArg some (by kernel_rfl))
  f283 := Tryz.func160.trans (congrArg some (by kernel_rfl))
  f284 := Tryz.func161.trans (congrArg some (by kernel_rfl))
  f285 := Tryz.func162.trans (congrArg some (by kernel_rfl))
  f286 := Tryz.func163.trans (congrArg some (by kernel_rfl))
  f287 := Tryz.func198.trans (congrArg some (by kernel_rfl))
  f316 := Tryz.func199.trans (congrArg some (by kernel_rfl))
  f317 := Tryz.func173.trans (congrArg some (by kernel_rfl))
  f318 := Tryz.func175.trans (congrArg some (by kernel_rfl))
  f319 := Tryz.func176.trans (congrArg some (by kernel_rfl))
  f320 := Tryz.func177.trans (congrArg some (by kernel_rfl))
  f321 := Tryz.func201.trans (congrArg some (by kernel_rfl))
  f322 := Tryz.func202.trans (congrArg some (by kernel_rfl))
  f337 := Tryz.func188.trans (congrArg some (by kernel_rfl))
  f338 := Tryz.func189.trans (congrArg some (by kernel_rfl))
  t0 := Tryz.underlying0
  a0 := Tryz.isAgg0
  z0 := Tryz.sizeOf0
  v0 := Tryz.zeroValue0
  t2 := Tryz.underlying2
  a2 := Tryz.isAgg2
  z2 := Tryz.sizeOf2
  v2 := Tryz.zeroValue2
  t3 := Tryz.underlying3
  a3 := Tryz.isAgg3
  z3 := Tryz.sizeOf3
  v3 := Tryz.zeroValue3
  t4 := Tryz.underlying4
  a4 := Tryz.isAgg4
  z4 := Tryz.sizeOf4
  v4 := Tryz.zeroValue4
  t5 := Tryz.underlying5
  a5 := Tryz.isAgg5
  z5 := Tryz.sizeOf5
  v5 := Tryz.zeroValue5
  t9 := Tryz.underlying9
  a9 := Tryz.isAgg9
  z9 := Tryz.sizeOf9
  v9 := Tryz.zeroValue9
  t20 := Tryz.underlying20
  a20 := Tryz.isAgg20
  z20 := Tryz.sizeOf20
  v20 := Tryz.zeroValue20
  t21 := Tryz.underlying21
  a21 := Tryz.isAgg21
  z21 := Tryz.sizeOf21
  v21 := Tryz.zeroValue21
  t37 := Tryz.underlying42
  a37 := Tryz.isAgg42
  z37 := Tryz.sizeOf42
  v37 := Tryz.zeroValue42
  t46 := Tryz.underlying178
  a46 := Tryz.isAgg178
  z46 := Tryz.sizeOf178
  v46 := Tryz.zeroValue178
  t51 := Tryz.underlying129
  a51 := Tryz.isAgg129
  z51 := Tryz.sizeOf129
  v51 := Tryz.zeroValue129
  t53 := Tryz.underlying202
  a53 := Tryz.isAgg202
  z53 := Tryz.sizeOf202
  v53 := Tryz.zeroValue202
  t75 := Tryz.underlying94
  a75 := Tryz.isAgg94
  z75 := Tryz.sizeOf94
  v75 := Tryz.zeroValue94
  t76 := Tryz.underlying95
  a76 := Tryz.isAgg95
  z76 := Tryz.sizeOf95
  v76 := Tryz.zeroValue95
  t85 := Tryz.underlying231
  a85 := Tryz.isAgg231
  z85 := Tryz.sizeOf231
  v85 := Tryz.zeroValue231
  t127 := Tryz.underlying163
  a127 := Tryz.isAgg163
  z127 := Tryz.sizeOf163
  v127 := Tryz.zeroValue163
  t143 := Tryz.underlying252
  a143 := Tryz.isAgg252
  z143 := Tryz.sizeOf252
  v143 := Tryz.zeroValue252
  t145 := Tryz.underlying254
  a145 := Tryz.isAgg254
  z145 := Tryz.sizeOf254
  v145 := Tryz.zeroValue254
  t167 := Tryz.underlying230
  a167 := Tryz.isAgg230
  z167 := Tryz.sizeOf230
  v167 := Tryz.zeroValue230
  t168 := Tryz.underlying233
  a168 := Tryz.isAgg233
  z168 := Tryz.sizeOf233
  v168 := Tryz.zeroValue233
  t171 := Tryz.underlying74
  a171 := Tryz.isAgg74
  z171 := Tryz.sizeOf74
  v171 := Tryz.zeroValue74
  t173 := Tryz.underlying213
  a173 := Tryz.isAgg213
  z173 := Tryz.sizeOf213
  v173 := Tryz.zeroValue213
  t175 := Tryz.underlying244
  a175 := Tryz.isAgg244
  z175 := Tryz.sizeOf244
  v175 := Tryz.zeroValue244
  t210 := Tryz.underlying248
  a210 := Tryz.isAgg248
  z210 := Tryz.sizeOf248
  v210 := Tryz.zeroValue248
  t212 := Tryz.underlying221
  a212 := Tryz.isAgg221
  z212 := Tryz.sizeOf221
  v212 := Tryz.zeroValue221
  t213 := Tryz.underlying222
  a213 := Tryz.isAgg222
  z213 := Tryz.sizeOf222
  t232 := Tryz.underlying238
  a232 := Tryz.isAgg238
  z232 := Tryz.sizeOf238
  v232 := Tryz.zeroValue238
  t233 := Tryz.underlying239
  a233 := Tryz.isAgg239
  z233 := Tryz.sizeOf239
  v233 := Tryz.zeroValue239
  g15 := by kernel_rfl
  g16 := by kernel_rfl
  g17 := by kernel_rfl
  g18 := by kernel_rfl
  g19 := by kernel_rfl }
open Go.RowKit in
theorem Tryz.strconv_Atoi (s : ByteArray) (n : Int) (hl : s.size ≤ 18) (h : Lib.atoi s.data.toList = some n) (w : World) :
    Calls Tryz.prog 170 #[.string s] w fun e w' => e = .returned (.tuple #[.int .i64 n, .nilIface]) ∧ ∃ t, w' = Lib.bytesWorld w 5 t := Any.strconv_Atoi Tryz.lays172 s n hl h w
def Tryz.lays145_ren : Go.Shelf.Ren := ⟨fun | 145 => 137 | 220 => 155 | 219 => 171 | 217 => 184 | 225 => 185 | 224 => 186 | 267 => 187 | 266 => 196 | 314 => 197 | n => n, fun | 9 => 9 | 4 => 4 | 59 => 197 | 3 => 3 | 5 => 5 | 46 => 178 | 146 => 236 | 51 => 129 | n => n, fun | 1 => 1 | n => n⟩
theorem Tryz.lays145 : Go.Proofs.Lays.n145 Tryz.prog Tryz.lays145_ren := {
  mixed := by kernel_rfl
  f145 := Tryz.func137.trans (congrArg some (by kernel_rfl))
  f217 := Tryz.func184.trans (congrArg some (by kernel_rfl))
  f219 := Tryz.func171.trans (congrArg some (by kernel_rfl))
  f220 := Tryz.func155.trans (congrArg some (by kernel_rfl))
  f224 := Tryz.func186.trans (congrArg some (by kernel_rfl))
  f225 := Tryz.func185.trans (congrArg some (by kernel_rfl))
  f266 := Tryz.func196.trans (congrArg some (by kernel_rfl))
  f267 := Tryz.func187.trans (congrArg some (by kernel_rfl))
  f314 := Tryz.func197.trans (congrArg some (by kernel_rfl))
  t3 := Tryz.underlying3
  a3 := Tryz.isAgg3
  z3 := Tryz.sizeOf3
  v3 := Tryz.zeroValue3
  t4 := Tryz.underlying4
  a4 := Tryz.isAgg4
  z4 := Tryz.sizeOf4
  v4 := Tryz.zeroValue4
  t5 := Tryz.underlying5
  a5 := Tryz.isAgg5
  z5 := Tryz.sizeOf5
  v5 := Tryz.zeroValue5
  t9 := Tryz.underlying9
  a9 := Tryz.isAgg9
  z9 := Tryz.sizeOf9
  v9 := Tryz.zeroValue9
  t46 := Tryz.underlying178
  a46 := Tryz.isAgg178
  z46 := Tryz.sizeOf178
  v46 := Tryz.zeroValue178
  t51 := Tryz.underlying129
  a51 := Tryz.isAgg129
  z51 := Tryz.sizeOf129
  v51 := Tryz.zeroValue129
  t59 := Tryz.underlying197
  a59 := Tryz.isAgg197
  z59 := Tryz.sizeOf197
  v59 := Tryz.zeroValue197
  t146 := Tryz.underlying236
  a146 := Tryz.isAgg236
  z146 := Tryz.sizeOf236
  v146 := Tryz.zeroValue236
  g1 := by kernel_rfl }
open Go.RowKit Go.Lib in
theorem Tryz.strings_Cut (s sep : ByteArray) (m : Int) (w : World) (hs : s.size < 4294967281) (hm : w.cell? ⟨1, 0, none⟩ = some (.int .i64 m)) :
    Calls Tryz.prog 137 #[.string s, .string sep] w fun e w' => e = .returned (.tuple #[.string ⟨(Lib.cut s.data.toList sep.data.toList).1.toArray⟩, .string ⟨(Lib.cut s.data.toList sep.data.toList).2.1.toArray⟩, .bool (Lib.cut s.data.toList sep.data.toList).2.2]) ∧ ∃ n, w' = w.drewN n := Any.strings_Cut Tryz.lays145 s sep m w hs hm
def Tryz.lays221_ren : Go.Shelf.Ren := ⟨fun | 221 => 151 | 268 => 164 | 138 => 165 | 143 => 166 | 195 => 178 | 197 => 179 | 218 => 180 | 219 => 171 | 260 => 190 | 217 => 184 | 225 => 185 | 224 => 186 | 267 => 187 | 266 => 196 | 314 => 197 | n => n, fun | 9 => 9 | 3 => 3 | 31 => 49 | 4 => 4 | 0 => 0 | 105 => 225 | 21 => 21 | 5 => 5 | 46 => 178 | 119 => 240 | 139 => 243 | 138 => 242 | 146 => 236 | 51 => 129 | n => n, fun | 1 => 1 | 3 => 5 | 4 => 6 | n => n⟩
theorem Tryz.lays221 : Go.Proofs.Lays.n221 Tryz.prog Tryz.lays221_ren := {
  mixed := by kernel_rfl
  f138 := Tryz.func165.trans (congrArg some (by kernel_rfl))
  f143 := Tryz.func166.trans (congrArg some (by kernel_rfl))
  f195 := Tryz.func178.trans (congrArg some (by kernel_rfl))
  f197 := Tryz.func179.trans (congrArg some (by kernel_rfl))
  f217 := Tryz.func184.trans (congrArg some (by kernel_rfl))
  f218 := Tryz.func180.trans (congrArg some (by kernel_rfl))
  f219 := Tryz.func171.trans (congrArg some (by kernel_rfl))
  f221 := Tryz.func151.trans (congrArg some (by kernel_rfl))
  f224 := Tryz.func186.trans (congrArg some (by kernel_rfl))
  f225 := Tryz.func185.trans (congrArg some (by kernel_rfl))
  f260 := Tryz.func190.trans (congrArg some (by kernel_rfl))
  f266 := Tryz.func196.trans (congrArg some (by kernel_rfl))
  f267 := Tryz.func187.trans (congrArg some (by kernel_rfl))
  f268 := Tryz.func164.trans (congrArg some (by kernel_rfl))
  f314 := Tryz.func197.trans (congrArg some (by kernel_rfl))
  t0 := Tryz.underlying0
  a0 := Tryz.isAgg0
  z0 := Tryz.sizeOf0
  v0 := Tryz.zeroValue0
  t3 := Tryz.underlying3
  a3 := Tryz.isAgg3
  z3 := Tryz.sizeOf3
  v3 := Tryz.zeroValue3
  t4 := Tryz.underlying4
  a4 := Tryz.isAgg4
  z4 := Tryz.sizeOf4
  v4 := Tryz.zeroValue4
  t5 := Tryz.underlying5
  a5 := Tryz.isAgg5
  z5 := Tryz.sizeOf5
  v5 := Tryz.zeroValue5
  t9 := Tryz.underlying9
  a9 := Tryz.isAgg9
  z9 := Tryz.sizeOf9
  v9 := Tryz.zeroValue9
  t21 := Tryz.underlying21
  a21 := Tryz.isAgg21
  z21 := Tryz.sizeOf21
  v21 := Tryz.zeroValue21
  t31 := Tryz.underlying49
  a31 := Tryz.isAgg49
  z31 := Tryz.sizeOf49
  v31 := Tryz.zeroValue49
  t46 := Tryz.underlying178
  a46 := Tryz.isAgg178
  z46 := Tryz.sizeOf178
  v46 := Tryz.zeroValue178
  t51 := Tryz.underlying129
  a51 := Tryz.isAgg129
  z51 := Tryz.sizeOf129
  v51 := Tryz.zeroValue129
  t105 := Tryz.underlying225
  a105 := Tryz.isAgg225
  z105 := Tryz.sizeOf225
  v105 := Tryz.zeroValue225
  t119 := Tryz.underlying240
  a119 := Tryz.isAgg240
  z119 := Tryz.sizeOf240
  t138 := Tryz.underlying242
  a138 := Tryz.isAgg242
  z138 := Tryz.sizeOf242
  v138 := Tryz.zeroValue242
  t139 := Tryz.underlying243
  a139 := Tryz.isAgg243
  z139 := Tryz.sizeOf243
  v139 := Tryz.zeroValue243
  t146 := Tryz.underlying236
  a146 := Tryz.isAgg236
  z146 := Tryz.sizeOf236
  v146 := Tryz.zeroValue236
  g1 := by kernel_rfl
  g3 := by kernel_rfl
  g4 := by kernel_rfl }
open Go.RowKit Go.Lib in
theorem Tryz.strings_genSplit (s sep : ByteArray) (sv : Nat) (n : Int) (N : Nat) (m : Int) (w : World) (hs : s.size < 4294967281) (hm : w.cell? ⟨1, 0, none⟩ = some (.int .i64 m)) (h1 : 1 ≤ sep.size) (hsv : sv ≤ sep.size) (hn0 : n ≠ 0) (hn63 : n ≤ 9223372036854775807) (hN : (N : Int) = min (if n < 0 then (Lib.countB s sep : Int) + 1 else n) ((s.size : Int) + 1)) :
    Calls Tryz.prog 151 #[.string s, .string sep, .int .i64 sv, .int .i64 n] w fun e w' =>
      e = .returned (.slice (some ⟨w.heap.size, 0, none⟩) (Lib.splitB sep sv (N - 1) s).length N) ∧ w' = w.alloc (.cells (Lib.cellsOf (Lib.splitB sep sv (N - 1) s) N) 9) := Any.strings_genSplit Tryz.lays221 (by kernel_rfl) s sep sv n N m w hs hm h1 hsv hn0 hn63 hN
end Go.Proofs

/-
  Texts: what strconv.Atoi, strings.CutPrefix, CutSuffix, Cut and SplitAfter answer, off the shelf's contracts.
-/
namespace Go.Proofs.YtnbohpcaejbpeaaGreatDoor
open Go.RowKit
set_option linter.unusedVariables false
set_option linter.unusedSimpArgs false

theorem digVal_of {b : UInt8} (h : dgt (b.toNat : Int)) : Lib.digitVal b = some (b.toNat - 48) := by
  unfold Lib.digitVal; unfold dgt at h
  rw [if_pos ⟨by omega, by omega⟩]
theorem decFrom_dig (s : ByteArray) (h : digTo s s.size) : ∀ k, k ≤ s.size → Lib.decFrom 0 ((listB s).take k) = some (digV s k).toNat
  | 0, _ => rfl
  | k + 1, hk => by
    obtain ⟨b, hb, hbi⟩ := byteI_list (s := s) (k := k) (by omega)
    have hd := h k (by omega)
    rw [hbi] at hd
    have ih := decFrom_dig s h k (by omega)
    rw [Lib.decFrom_take (listB s) k 0 _ b _ ih hb (digVal_of hd)]
    have h0 := digV_nonneg (s := s) k (fun i hi => h i (by omega))
    unfold dgt at hd
    have e : digV s (k + 1) = 10 * digV s k + (byteI s k - 48) := rfl
    rw [e, hbi]
    congr 1
    omega
theorem atoi_nat {s : ByteArray} (h : natP s) : Lib.atoi s.data.toList = some (digV s s.size) := by
  obtain ⟨h1, h2, h3, h4⟩ := h
  have hd := decFrom_dig s h4 s.size (Nat.le_refl _)
  rw [List.take_of_length_le (by rw [listB_len]; exact Nat.le_refl _)] at hd
  have hn := digV_nonneg (s := s) s.size h4
  obtain ⟨b, hb, hbi⟩ := byteI_list (s := s) (k := 0) (by omega)
  have hb0 := h4 0 (by omega)
  rw [hbi] at hb0
  unfold dgt at hb0
  change Lib.atoi (listB s) = _
  cases hl : listB s with
  | nil => rw [hl] at hb; cases hb
  | cons c r =>
    rw [hl] at hb hd
    have : c = b := by simpa using hb
    subst this
    have e1 : (c == 45) = false := by
      rw [beq_eq_false_iff_ne]; rintro rfl; simp at hb0
    have e2 : (c == 43) = false := by
      rw [beq_eq_false_iff_ne]; rintro rfl; simp at hb0
    unfold Lib.atoi
    simp only [e1, e2, Bool.false_eq_true, if_false]
    unfold Lib.decNat
    simp only [List.isEmpty_cons, Bool.false_eq_true, if_false, hd, Option.map_some]
    congr 1; omega
theorem atoiC : AtoiC := fun s w h =>
  (Tryz.strconv_Atoi s _ (by have := h.2.1; omega) (atoi_nat h) w).mono fun e w' ⟨he, t, hw⟩ => ⟨he, by subst hw; exact Go.Joins.below_bytesWorld _ _ _ _ (Nat.le_refl _)⟩

open Classical in
theorem prefix_minus (s : ByteArray) : Lib.hasPrefix (listB s) [45] = decide (minusP s) := by
  rw [Bool.eq_iff_iff, decide_eq_true_iff]
  unfold minusP Lib.hasPrefix
  have hl := listB_len s
  cases hs : listB s with
  | nil => rw [hs] at hl; simp at hl ⊢; omega
  | cons b r =>
    rw [hs] at hl
    simp at hl
    obtain ⟨c, hc, hci⟩ := byteI_list (s := s) (k := 0) (by omega)
    rw [hs] at hc
    have : b = c := by simpa using hc
    subst this
    rw [hci]
    simp only [List.isPrefixOf, Bool.and_true, beq_iff_eq]
    constructor
    · rintro rfl; exact ⟨by omega, rfl⟩
    · rintro ⟨_, h⟩
      have h3 : b.toNat = 45 := by omega
      exact (UInt8.toNat_inj.1 h3).symm
theorem restB_list (s : ByteArray) : listB (restB s) = (listB s).drop 1 := by
  unfold restB; rw [listB_extract, List.take_of_length_le (by rw [listB_len]; exact Nat.le_refl _)]
open Classical in
theorem cutPrefixC : CutPrefixC := fun s w => by
  have h := Tryz.strings_CutPrefix s ⟨#[45]⟩ w
  have e1 : Lib.hasPrefix s.data.toList (⟨#[45]⟩ : ByteArray).data.toList = decide (minusP s) := prefix_minus s
  have e2 : Lib.trimPrefix s.data.toList (⟨#[45]⟩ : ByteArray).data.toList = if minusP s then (listB s).drop 1 else listB s := by
    unfold Lib.trimPrefix
    rw [e1]
    by_cases hm : minusP s
    · rw [if_pos hm, if_pos (by simpa using hm)]; rfl
    · rw [if_neg hm, if_neg (by simpa using hm)]; rfl
  rw [e1, e2] at h
  refine ⟨fun hm => ?_, fun hm => ?_⟩
  · rw [if_pos hm, decide_eq_true hm, ← restB_list] at h
    exact h.mono fun e w' ⟨he, hw⟩ => ⟨he.trans (by rw [show (⟨(listB (restB s)).toArray⟩ : ByteArray) = restB s from strB_listB _]), hw⟩
  · rw [if_neg hm, decide_eq_false hm] at h
    exact h.mono fun e w' ⟨he, hw⟩ => ⟨he.trans (by rw [show (⟨(listB s).toArray⟩ : ByteArray) = s from strB_listB _]), hw⟩
theorem cutSuffixC : CutSuffixC := fun s w hs =>
  (Tryz.strings_CutSuffix s ⟨#[10]⟩ w (by omega)).mono fun e w' ⟨he, hw⟩ => ⟨he, hw.symm⟩
theorem cutC : CutC := fun s w hs ⟨m, hm⟩ =>
  (Tryz.strings_Cut s ⟨#[32]⟩ m w (by omega) hm).mono fun e w' ⟨he, n, hw⟩ => ⟨he, by subst hw; exact below_drewN (Below.refl _ _) _⟩
end Go.Proofs.YtnbohpcaejbpeaaGreatDoor

/-
  Texts: Lines of every text: the pieces with their ends, without an empty last one.
-/
namespace Go.Proofs.YtnbohpcaejbpeaaGreatDoor
open Go.RowKit
set_option linter.unusedVariables false
set_option linter.unusedSimpArgs false

/-- All pieces but the last one, and the last one. -/
def headP (s : ByteArray) : List (List UInt8) := (pieces 10 (listB s)).dropLast
def lastP (s : ByteArray) : List UInt8 := (pieces 10 (listB s)).getLast?.getD []
theorem head_last (s : ByteArray) : pieces 10 (listB s) = headP s ++ [lastP s] := by
  obtain ⟨P, q, h⟩ := pieces_ex 10 (listB s)
  unfold headP lastP
  rw [h]; simp
theorem ended_snoc (c : UInt8) : ∀ (P : List (List UInt8)) (q : List UInt8), ended c (P ++ [q]) = P.map (· ++ [c]) ++ [q]
  | [], q => rfl
  | p :: P, q => by
    have ih := ended_snoc c P q
    show (if P ++ [q] = [] then [p] else (p ++ [c]) :: ended c (P ++ [q])) = _
    rw [if_neg (by simp), ih]; rfl
/-- The lines of a text. -/
def allL (s : ByteArray) : List ByteArray := (headP s).map (fun p => strB (p ++ [10])) ++ [strB (lastP s)]
def linesL (s : ByteArray) : List ByteArray := if (lastP s) = [] then (headP s).map (fun p => strB (p ++ [10])) else allL s
theorem listB_inj {a b : ByteArray} (h : listB a = listB b) : a = b := by rw [← strB_listB a, ← strB_listB b, h]
theorem map_listB_inj : ∀ {L M : List ByteArray}, L.map listB = M.map listB → L = M
  | [], [], _ => rfl
  | [], _ :: _, h => by simp at h
  | _ :: _, [], h => by simp at h
  | a :: L, b :: M, h => by
    rw [List.map_cons, List.map_cons] at h
    injection h with h1 h2
    rw [listB_inj h1, map_listB_inj h2]
theorem split_all (s : ByteArray) : Lib.splitB ⟨#[10]⟩ 1 (Lib.countB s ⟨#[10]⟩) s = allL s := by
  apply map_listB_inj
  have h1 := Lib.splitB_data ⟨#[10]⟩ 1 (Lib.countB s ⟨#[10]⟩) s
  have h2 := lines_pieces 10 (Lib.countB s ⟨#[10]⟩) (listB s) rfl
  have h3 : (Lib.splitB ⟨#[10]⟩ 1 (Lib.countB s ⟨#[10]⟩) s).map listB = Lib.splitK [10] 1 (Lib.countB s ⟨#[10]⟩) (listB s) := h1
  rw [h3, h2, head_last, ended_snoc]
  unfold allL
  rw [List.map_append, List.map_map]; rfl
theorem allL_len (s : ByteArray) : (allL s).length = (headP s).length + 1 := by unfold allL; simp
theorem headP_len (s : ByteArray) : (headP s).length ≤ s.size := by
  have h1 := (splitL_len s 10).2
  have h2 := congrArg List.length (splitL_pieces s 10)
  rw [List.length_map, head_last, List.length_append] at h2
  have h3 : ((10 : UInt8).toNat : Int) = 10 := rfl
  rw [h3] at h2
  simp at h2; omega
theorem count_head (s : ByteArray) : Lib.countB s ⟨#[10]⟩ = (headP s).length := by
  have h := congrArg List.length (split_all s)
  rw [Lib.splitB_all ⟨#[10]⟩ (by decide) 1 _ s rfl, allL_len] at h
  omega
/-- What Lines answers. -/
def LinesV (w : World) (s : ByteArray) (e : Ending) (w' : World) : Prop :=
  ∃ (c : Nat) (cs : Array Value), e = .returned (.slice (some ⟨w.heap.size, 0, none⟩) (linesL s).length c) ∧ w'.heap[w.heap.size]? = some (.cells cs 9 (0, 0)) ∧ (∀ (j : Nat) (x : ByteArray), (linesL s)[j]? = some x → cs[j]? = some (Value.string x)) ∧ Below w.heap.size w w'

set_option maxRecDepth 100000 in
set_option maxHeartbeats 1600000 in
theorem splitAfter_any (s : ByteArray) (w : World) (hs : s.size ≤ 1000001) (hm : MaxAt w) :
    Calls Tryz.prog 133 #[.string s, .string ⟨#[10]⟩] w fun e w' => e = .returned (.slice (some ⟨w.heap.size, 0, none⟩) ((headP s).length + 1) ((headP s).length + 1)) ∧ w' = w.alloc (.cells ((allL s).map Value.string).toArray 9) := by
  obtain ⟨m, hm⟩ := hm
  have hle := headP_len s
  have c := Tryz.strings_genSplit s ⟨#[10]⟩ 1 (-1) ((headP s).length + 1) m w (by omega) hm (by decide) (by decide) (by decide) (by decide) (by rw [if_pos (by decide), count_head]; omega)
  rw [Nat.add_sub_cancel, ← count_head, split_all, allL_len, count_head] at c
  have e2 : Lib.cellsOf (allL s) ((headP s).length + 1) = ((allL s).map Value.string).toArray := by rw [← allL_len]; exact Lib.cellsOf_full _
  rw [e2] at c
  have K := Lib.hid c
  clear c hle e2 hm
  go_enter Tryz.func133, Tryz.ntmps133
  go_wp2_with fail
  refine K.out.mono ?_
  rintro e w1 ⟨rfl, rfl⟩
  go_wp2
  go_ret
  exact ⟨rfl, rfl⟩

set_option maxRecDepth 100000 in
set_option maxHeartbeats 1600000 in
theorem lines_any (s : ByteArray) (w : World) (hs : s.size ≤ 1000001) (hm : MaxAt w) :
    Calls Tryz.prog 108 #[.string s] w (LinesV w s) := by
  have K := Lib.hid (splitAfter_any s w hs hm)
  have hle := headP_len s
  have hlast : ((allL s).map Value.string).toArray[(headP s).length]? = some (.string (strB (lastP s))) := by
    unfold allL; simp
  have hemp := empty_list (strB (lastP s))
  have hcs : ∀ (j : Nat) (x : ByteArray), (linesL s)[j]? = some x → ((allL s).map Value.string).toArray[j]? = some (Value.string x) := by
    intro j x h
    rw [List.getElem?_toArray, List.getElem?_map]
    unfold linesL at h
    split at h
    · unfold allL
      rw [List.getElem?_append_left (List.getElem?_eq_some_iff.1 h).1, h]; rfl
    · rw [h]; rfl
  have hll : (linesL s).length = if lastP s = [] then (headP s).length else (headP s).length + 1 := by
    unfold linesL
    split
    · rw [List.length_map]
    · rw [allL_len]
  have HCS := Lib.hid hcs
  obtain ⟨n, hn⟩ : ∃ n, (headP s).length = n := ⟨_, rfl⟩
  obtain ⟨CS, hCS⟩ : ∃ CS, ((allL s).map Value.string).toArray = CS := ⟨_, rfl⟩
  obtain ⟨q, hq⟩ : ∃ q, lastP s = q := ⟨_, rfl⟩
  rw [hn] at hle hlast hll K
  rw [hq] at hlast hemp hll
  rw [hCS] at hlast K HCS
  rw [strB_size] at hemp
  have HLL := Lib.hid hll
  clear hm hcs hll hn hCS hq
  have hcell : (w.alloc (.cells CS 9)).cell? ⟨w.heap.size, n, none⟩ = some (.string (strB q)) := by
    rw [cell_of_row _ w.heap.size n CS _ (0, 0) (heap_alloc_new w _)]; exact hlast
  obtain ⟨W0, hW0⟩ : ∃ W0, w.alloc (.cells CS 9) = W0 := ⟨_, rfl⟩
  have hblk : W0.heap[w.heap.size]? = some (.cells CS 9 (0, 0)) := by rw [← hW0]; exact heap_alloc_new w _
  have hB : Below w.heap.size w W0 := by rw [← hW0]; exact (Below.refl _ w).alloc (Nat.le_refl _) _
  rw [hW0] at K hcell
  have HB := Lib.hid hB
  have HBK := Lib.hid hblk
  clear hlast hblk hB hW0
  by_cases hqe : q = []
  · have hl : (linesL s).length = n := by rw [HLL.out, if_pos hqe]
    have HL := Lib.hid hl
    rw [hqe] at hemp
    have he : (strB q).toList.isEmpty = true := by rw [hqe]; simpa using hemp
    clear hl hemp hqe
    go_enter Tryz.func108, Tryz.ntmps108
    go_wp2_with fail
    refine K.out.mono ?_
    rintro e w1 ⟨rfl, rfl⟩
    go_wp2
    go_ret
    exact ⟨n + 1, CS, by rw [HL.out]; rfl, HBK.out, HCS.out, HB.out⟩
  · have hl : (linesL s).length = n + 1 := by rw [HLL.out, if_neg hqe]
    have HL := Lib.hid hl
    have he : (strB q).toList.isEmpty = false := by
      rw [hemp]; apply decide_eq_false; intro h; exact hqe (List.eq_nil_of_length_eq_zero h)
    clear hl hemp hqe
    go_enter Tryz.func108, Tryz.ntmps108
    go_wp2_with fail
    refine K.out.mono ?_
    rintro e w1 ⟨rfl, rfl⟩
    go_wp2
    go_ret
    exact ⟨n + 1, CS, by rw [HL.out]; rfl, HBK.out, HCS.out, HB.out⟩
end Go.Proofs.YtnbohpcaejbpeaaGreatDoor

/-
  Texts: the reference's Text of an integer: what strconv.Itoa answers.
-/
namespace Go.Proofs.YtnbohpcaejbpeaaGreatDoor
open Go.RowKit
set_option linter.unusedVariables false
set_option linter.unusedSimpArgs false

theorem enc_digit {d : Nat} (h : d < 10) : Utf8.encode (48 + (d : Int)) = strB [UInt8.ofNat (48 + d)] := by
  match d, h with
  | 0, _ => decide
  | 1, _ => decide
  | 2, _ => decide
  | 3, _ => decide
  | 4, _ => decide
  | 5, _ => decide
  | 6, _ => decide
  | 7, _ => decide
  | 8, _ => decide
  | 9, _ => decide
theorem listB_append (a b : ByteArray) : listB (a ++ b) = listB a ++ listB b := by
  unfold listB; rw [ByteArray.data_append, Array.toList_append]
/-- What has been written, and what is still to be. -/
def TextSo (N m : Nat) (o : ByteArray) : Prop := (m = 0 → listB o = Lib.decDigits N) ∧ (m ≠ 0 → Lib.decDigits m ++ listB o = Lib.decDigits N)
theorem text_start {N : Nat} (h : 1 ≤ N) : TextSo N N ⟨#[]⟩ := ⟨fun h' => by omega, fun _ => by show _ ++ ([] : List UInt8) = _; rw [List.append_nil]⟩
theorem text_step {N m : Nat} {o : ByteArray} (h : TextSo N m o) (hm : 1 ≤ m) : TextSo N (m / 10) (strB [UInt8.ofNat (48 + m % 10)] ++ o) := by
  have h2 := h.2 (by omega)
  refine ⟨fun h0 => ?_, fun h0 => ?_⟩
  · have hl : m < 10 := by omega
    rw [listB_append, listB_strB, ← h2, Lib.decDigits_one hl, Nat.mod_eq_of_lt hl]
  · have hl : ¬ m < 10 := by omega
    rw [listB_append, listB_strB, ← h2]
    conv => rhs; rw [Lib.decDigits, dif_neg hl]
    rw [List.append_assoc]
theorem nDigits20 (N : Nat) (h : N < 18446744073709551616) : Lib.nDigits N ≤ 20 := by
  have := Lib.nDigits_le20 N h
  exact this
theorem text_size {N m : Nat} {o : ByteArray} (h : TextSo N m o) (hN : N < 1000000) : o.size ≤ 20 := by
  have hl := Lib.nDigits_le20 N (by omega)
  rw [← Lib.decDigits_length] at hl
  rw [← listB_len]
  by_cases h0 : m = 0
  · rw [h.1 h0]; exact hl
  · have := congrArg List.length (h.2 h0)
    rw [List.length_append] at this; omega

theorem text_minus (o : ByteArray) : Ending.returned (.string ((⟨#[45]⟩ : ByteArray) ++ o)) = .returned (.string (strB (45 :: listB o))) := by
  have h : (⟨#[45]⟩ : ByteArray) ++ o = strB (45 :: listB o) := by
    apply listB_inj
    rw [listB_append]; rfl
  rw [h]

set_option maxRecDepth 100000 in
set_option maxHeartbeats 3200000 in
theorem refText_any (n : Int) (hn0 : -1000000 < n) (hn1 : n < 1000000) (w : World) :
    Calls Tryz.prog 56 #[.int .i64 n] w fun e w' => e = .returned (.string (strB (Lib.itoa n))) ∧ w = w' := by
  by_cases h0 : n = 0
  · subst h0
    have H := Lib.hid (show Lib.itoa 0 = [48] from by rw [show (0 : Int) = ((0 : Nat) : Int) from rfl, Lib.itoa_nonneg, Lib.decDigits_one (by decide)]; rfl)
    go_enter Tryz.func56, Tryz.ntmps56
    go_wp2
    go_ret
    exact ⟨by rw [H.out]; rfl, rfl⟩
  by_cases hp : 0 < n
  · obtain ⟨N, rfl⟩ : ∃ N : Nat, n = N := ⟨n.toNat, by omega⟩
    have hN : 1 ≤ N := by omega
    have e0 : ((N : Int) == 0) = false := by simp; omega
    have H := Lib.hid (Lib.itoa_nonneg N)
    have hN2 : N < 1000000 := by omega
    clear h0 hn0 hn1
    go_enter Tryz.func56, Tryz.ntmps56
    go_wp2
    go_loop [3, 4] (fun out r => ∃ (m : Nat) (o : ByteArray), m ≤ N ∧ r = .int .i64 m ∧ out = .string o ∧ Hid (TextSo N m o)) (fun _ r => (intOf r).toNat)
    case atStart => exact ⟨N, _, Nat.le_refl _, rfl, rfl, Lib.hid (text_start hN)⟩
    case round =>
      obtain ⟨m, o, hm, rfl, rfl, hT⟩ := hrel
      have hos := text_size hT.out (by omega)
      by_cases hz : m = 0
      · have e1 : ((m : Int) != 0) = false := by simp [hz]
        have HO := Lib.hid (hT.out.1 hz)
        clear hz
        go_wp2
        go_ret
        exact ⟨by rw [H.out, ← HO.out, strB_listB]; rfl, rfl⟩
      · have e1 : ((m : Int) != 0) = true := by simp [hz]
        have HT := Lib.hid (text_step hT.out (by omega))
        obtain ⟨d, hd⟩ : ∃ d, m % 10 = d := ⟨_, rfl⟩
        have hd10 : d < 10 := by omega
        have ed := enc_digit hd10
        have em : (m : Int) % 10 = (d : Int) := by omega
        have eq : (m : Int) / 10 = ((m / 10 : Nat) : Int) := by omega
        rw [hd] at HT
        obtain ⟨q, hq⟩ : ∃ q, m / 10 = q := ⟨_, rfl⟩
        rw [hq] at HT eq
        have hqm : q < m := by omega
        have hqN : q ≤ N := by omega
        have hq6 : q < 1000000 := by omega
        obtain ⟨D, hD⟩ : ∃ D, strB [UInt8.ofNat (48 + d)] = D := ⟨_, rfl⟩
        have hDs : D.size = 1 := by rw [← hD]; rfl
        rw [hD] at ed HT
        have hDi : (D.size : Int) ≤ 8388608 := by omega
        have hcv : ∀ w, (convert 21 9 (.int .i32 (48 + (d : Int)))).run Tryz.prog w = .ok (.string D) w := fun w => by
          rw [run_convert_int_string w _ _ .i32 _ (by rw [Tryz.underlying21]; rfl) Tryz.underlying9, ed]
        have hoi : (o.size : Int) ≤ 8388608 := by omega
        clear hz hd hq hD hDs hm ed
        go_wp2
        go_round
        case rel => exact ⟨q, D ++ o, hqN, rfl, rfl, HT⟩
        case measure => simp [intOf]; omega
  · obtain ⟨N, rfl⟩ : ∃ N : Nat, n = -(N : Int) := ⟨n.natAbs, by omega⟩
    have hN : 1 ≤ N := by omega
    have e0 : (-(N : Int) == 0) = false := by simp; omega
    have e9 : -(N : Int) < 0 := by omega
    have H := Lib.hid (Lib.itoa_neg N hN)
    have hN2 : N < 1000000 := by omega
    clear h0 hn0 hn1
    go_enter Tryz.func56, Tryz.ntmps56
    go_wp2
    go_loop [3, 4] (fun out r => ∃ (m : Nat) (o : ByteArray), m ≤ N ∧ r = .int .i64 (-(m : Int)) ∧ out = .string o ∧ Hid (TextSo N m o)) (fun _ r => (intOf r).natAbs)
    case atStart => exact ⟨N, _, Nat.le_refl _, rfl, rfl, Lib.hid (text_start hN)⟩
    case round =>
      obtain ⟨m, o, hm, rfl, rfl, hT⟩ := hrel
      have hos := text_size hT.out (by omega)
      by_cases hz : m = 0
      · have e1 : (-(m : Int) != 0) = false := by simp [hz]
        have HO := Lib.hid (hT.out.1 hz)
        clear hz
        go_wp2
        go_ret
        exact ⟨by rw [H.out, ← HO.out]; exact text_minus o, rfl⟩
      · have e1 : (-(m : Int) != 0) = true := by simp [hz]
        have HT := Lib.hid (text_step hT.out (by omega))
        obtain ⟨d, hd⟩ : ∃ d, m % 10 = d := ⟨_, rfl⟩
        have hd10 : d < 10 := by omega
        have ed := enc_digit hd10
        have em : (-(m : Int)).tmod 10 = -(d : Int) := by rw [Int.neg_tmod, Int.tmod_eq_emod_of_nonneg (by omega)]; omega
        have eq : (-(m : Int)).tdiv 10 = -((m / 10 : Nat) : Int) := by rw [Int.neg_tdiv, Int.tdiv_eq_ediv_of_nonneg (by omega)]; omega
        rw [hd] at HT
        obtain ⟨q, hq⟩ : ∃ q, m / 10 = q := ⟨_, rfl⟩
        rw [hq] at HT eq
        have hqm : q < m := by omega
        have hqN : q ≤ N := by omega
        have hq6 : q < 1000000 := by omega
        obtain ⟨D, hD⟩ : ∃ D, strB [UInt8.ofNat (48 + d)] = D := ⟨_, rfl⟩
        have hDs : D.size = 1 := by rw [← hD]; rfl
        rw [hD] at ed HT
        have hDi : (D.size : Int) ≤ 8388608 := by omega
        have hcv : ∀ w, (convert 21 9 (.int .i32 (48 + (d : Int)))).run Tryz.prog w = .ok (.string D) w := fun w => by
          rw [run_convert_int_string w _ _ .i32 _ (by rw [Tryz.underlying21]; rfl) Tryz.underlying9, ed]
        have hoi : (o.size : Int) ≤ 8388608 := by omega
        by_cases hd0 : d = 0
        · subst hd0
          have em0 : (-(m : Int)).tmod 10 = 0 := em
          have hcv0 : ∀ w, (convert 21 9 (.int .i32 48)).run Tryz.prog w = .ok (.string D) w := hcv
          clear hz hd hq hD hDs hm ed em hcv
          go_wp2
          go_round
          case rel => exact ⟨q, D ++ o, hqN, rfl, rfl, HT⟩
          case measure => simp [intOf]; omega
        · have hdn : -(d : Int) < 0 := by omega
          have hd1 : 0 < d := by omega
          clear hz hd hq hD hDs hm ed hd0
          go_wp2
          go_round
          case rel => exact ⟨q, D ++ o, hqN, rfl, rfl, HT⟩
          case measure => simp [intOf]; omega
end Go.Proofs.YtnbohpcaejbpeaaGreatDoor

/-
  Texts: the reference's Print of a right map.
-/
namespace Go.Proofs.YtnbohpcaejbpeaaGreatDoor
open Go.RowKit
set_option linter.unusedVariables false
set_option linter.unusedSimpArgs false

theorem rowOf_at {W y x : Nat} {ks : List Int} (hx : x < W) : (rowOf W ks y)[x]? = ks[y * W + x]? := by
  unfold rowOf
  rw [List.getElem?_take, if_pos hx, List.getElem?_drop]
theorem lineL_eq (wd : List UInt8) (ks : List Int) : lineL wd ks = wd ++ Lib.joinTail [32] (ks.map Lib.itoa) ++ [10] := by
  unfold lineL; rw [Lib.join_cons]
theorem tail_snoc (L : List (List UInt8)) (x : List UInt8) : Lib.joinTail [32] (L ++ [x]) = Lib.joinTail [32] L ++ (32 :: x) := by
  unfold Lib.joinTail; simp
/-- What has been printed in a row. -/
def rowSo (W : Nat) (ks : List Int) (y x : Nat) : List UInt8 := [114, 111, 119] ++ Lib.joinTail [32] (((rowOf W ks y).take x).map Lib.itoa)
theorem rowSo_zero (W : Nat) (ks : List Int) (y : Nat) : rowSo W ks y 0 = [114, 111, 119] := rfl
theorem rowSo_step {W y x : Nat} {ks : List Int} {v : Int} (hx : x < W) (hv : ks[y * W + x]? = some v) : rowSo W ks y (x + 1) = rowSo W ks y x ++ (32 :: Lib.itoa v) := by
  unfold rowSo
  rw [List.take_add_one, rowOf_at hx, hv, List.map_append, Option.toList_some, List.map_singleton, tail_snoc, List.append_assoc]
theorem rowSo_end {W y : Nat} {ks : List Int} : rowSo W ks y W ++ [10] = lineL [114, 111, 119] (rowOf W ks y) := by
  rw [lineL_eq]; unfold rowSo
  rw [List.take_of_length_le (by unfold rowOf; rw [List.length_take]; omega)]
/-- What has been printed. -/
def textSo (W H : Nat) (ks : List Int) (y : Nat) : List UInt8 := lineL [109, 97, 112] [(W : Int), (H : Int)] ++ rowsL W ks (List.range y)
theorem textSo_step (W H : Nat) (ks : List Int) (y : Nat) : textSo W H ks (y + 1) = textSo W H ks y ++ lineL [114, 111, 119] (rowOf W ks y) := by
  unfold textSo; rw [List.range_succ, rowsL_snoc, List.append_assoc]
theorem itoa_short {k : Int} (h : k.natAbs ≤ 16384) : (Lib.itoa k).length ≤ 21 := Lib.itoa_length_le k (by omega) (by omega)
theorem rowSo_len {W y : Nat} {ks : List Int} (hs : ∀ k ∈ ks, k.natAbs ≤ 16384) (hW : W ≤ 64) (x : Nat) : (rowSo W ks y x).length ≤ 1411 := by
  unfold rowSo
  rw [List.length_append]
  have h := joinTail_len (((rowOf W ks y).take x).map Lib.itoa) (fun l hl => by
    obtain ⟨k, hk, rfl⟩ := List.mem_map.1 hl
    exact itoa_short (hs k (List.mem_of_mem_drop (List.mem_of_mem_take (List.mem_of_mem_take hk)))))
  rw [List.length_map, List.length_take] at h
  have h2 : (rowOf W ks y).length ≤ W := by unfold rowOf; rw [List.length_take]; omega
  simp only [List.length_cons, List.length_nil]
  omega
theorem textSo_len {W H : Nat} {ks : List Int} (hs : ∀ k ∈ ks, k.natAbs ≤ 16384) (hW : W ≤ 64) (hH : H ≤ 64) : ∀ y, (textSo W H ks y).length ≤ 100 + 1412 * y
  | 0 => by
    unfold textSo
    rw [List.range_zero]
    have h := line_len [109, 97, 112] [(W : Int), (H : Int)] (fun k hk => by
      simp only [List.mem_cons, List.not_mem_nil, or_false] at hk
      have h2 : k.natAbs ≤ 64 := by omega
      exact Nat.lt_of_le_of_lt h2 (by decide))
    simp only [rowsL, List.flatMap_nil, List.append_nil]
    simp only [List.length_cons, List.length_nil] at h
    omega
  | y + 1 => by
    have ih := textSo_len hs hW hH y
    rw [textSo_step, List.length_append, ← rowSo_end, List.length_append]
    have := rowSo_len (y := y) hs hW W
    simp only [List.length_cons, List.length_nil]
    omega
theorem head_text (W H : Int) : ((⟨#[109, 97, 112, 32]⟩ : ByteArray) ++ strB (Lib.itoa W) ++ ⟨#[32]⟩ ++ strB (Lib.itoa H) ++ ⟨#[10]⟩) = strB (lineL [109, 97, 112] [W, H]) := by
  apply listB_inj
  rw [lineL_eq]
  simp only [listB_append, listB_strB]
  unfold Lib.joinTail
  simp [listB]

set_option maxRecDepth 100000 in
set_option maxHeartbeats 6400000 in
theorem refPrint_any (W H : Nat) (b o n c : Nat) (xs : List Nat) (ks : List Int) (w : World) (hA : RightMap w W H b o n xs ks) (hb : b < w.heap.size) :
    Calls Tryz.prog 11 #[.agg #[.int .i64 W, .int .i64 H, .slice (some ⟨b, o, none⟩) n c]] w fun e w' => e = .returned (.string (strB (textL W H ks))) ∧ Below w.heap.size w w' := by
  have hW := hA.wid
  have hH := hA.hei
  have hs : ∀ k ∈ ks, k.natAbs ≤ 16384 := fun k hk => by
    obtain ⟨j, hj⟩ := List.getElem?_of_mem hk
    have hlt := (List.getElem?_eq_some_iff.1 hj).1
    have := hA.sizes j (by have := hA.lenk; omega)
    rwa [hj] at this
  have HS := Lib.hid hs
  have HA := Lib.hid hA
  have hN : W * H = n := by have := hA.area; exact_mod_cast this
  have HNN := Lib.hid hN
  have KT : Hid (∀ (v : Int) (w : World), v.natAbs ≤ 16384 → Calls Tryz.prog 56 #[.int .i64 v] w fun e w' => e = .returned (.string (strB (Lib.itoa v))) ∧ w = w') := Lib.hid fun v w h => refText_any v (by omega) (by omega) w
  have KL : Hid (∀ (wr : World) (X Y : Nat), Below w.heap.size w wr → X < W → Y < H → Calls Tryz.prog 57 #[.agg #[.int .i64 W, .int .i64 H, .slice (some ⟨b, o, none⟩) n c], .int .i64 X, .int .i64 Y] wr fun e w' => e = .returned (.int .i64 (ks[Y * W + X]?.getD 0)) ∧ Below wr.heap.size wr w') :=
    Lib.hid fun wr X Y hbl hX hY => refLevel_any W H b o n c xs ks wr (hA.below hbl hb) (by have := hbl.size; omega) X Y hX hY
  have hw1 : (1 : Int) ≤ W := hW.1
  have hw2 : (W : Int) ≤ 64 := hW.2
  have hh1 : (1 : Int) ≤ H := hH.1
  have hh2 : (H : Int) ≤ 64 := hH.2
  obtain ⟨W0, hW0⟩ : ∃ W0, w.alloc (.cells #[.int .i64 W, .int .i64 H, .slice (some ⟨b, o, none⟩) n c] 24) = W0 := ⟨_, rfl⟩
  have hB0 : Below w.heap.size w W0 := by rw [← hW0]; exact (Below.refl _ w).alloc (Nat.le_refl _) _
  have hS0 : W0.heap.size = w.heap.size + 1 := by rw [← hW0]; simp
  have c0 : W0.cell? ⟨w.heap.size, 0, none⟩ = some (.int .i64 W) := by rw [← hW0]; simp [go_sem]
  have c1 : W0.cell? ⟨w.heap.size, 1, none⟩ = some (.int .i64 H) := by rw [← hW0]; simp [go_sem]
  have c2 : W0.cell? ⟨w.heap.size, 2, none⟩ = some (.slice (some ⟨b, o, none⟩) n c) := by rw [← hW0]; simp [go_sem]
  have KTW := Lib.hid (fun w => KT.out (W : Int) w (by omega))
  have KTH := Lib.hid (fun w => KT.out (H : Int) w (by omega))
  have lw := Lib.hid (itoa_short (k := (W : Int)) (by omega))
  have lh := Lib.hid (itoa_short (k := (H : Int)) (by omega))
  have sw : ((strB (Lib.itoa (W : Int))).size : Int) ≤ 21 := by rw [strB_size]; have := lw.out; omega
  have sh : ((strB (Lib.itoa (H : Int))).size : Int) ≤ 21 := by rw [strB_size]; have := lh.out; omega
  have HH := Lib.hid (head_text (W : Int) (H : Int))
  obtain ⟨TW, hTW⟩ : ∃ T, strB (Lib.itoa (W : Int)) = T := ⟨_, rfl⟩
  obtain ⟨TH, hTH⟩ : ∃ T, strB (Lib.itoa (H : Int)) = T := ⟨_, rfl⟩
  rw [hTW] at KTW sw HH
  rw [hTH] at KTH sh HH
  have HB0 := Lib.hid hB0
  have HS0 := Lib.hid hS0
  clear hA hs hW hH hN hB0 hS0 hTW hTH
  have st0 := textSo_len HS.out (by omega : W ≤ 64) (by omega : H ≤ 64)
  have HL := Lib.hid st0
  have HR : Hid (∀ y x, (rowSo W ks y x).length ≤ 1411) := Lib.hid fun y x => rowSo_len HS.out (by omega) x
  have t00 : textSo W H ks 0 = lineL [109, 97, 112] [(W : Int), (H : Int)] := by unfold textSo rowsL; simp
  have HT0 := Lib.hid t00
  clear st0 t00
  go_enter Tryz.func11, Tryz.ntmps11
  go_upto_region 1 with fail
  try rw [hW0]
  clear hW0
  go_cut [3] (fun s3 wr => (∃ T, s3 = .string T ∧ Hid (T = strB (textSo W H ks 0))) ∧ Blw W0.heap.size W0 wr)
  case first =>
    go_region_with
      (first
        | (go_at_call 56; ((with_reducible refine (KTW.out _).mono ?_); rintro e w9 ⟨rfl, rfl⟩))
        | (go_at_call 56; ((with_reducible refine (KTH.out _).mono ?_); rintro e w9 ⟨rfl, rfl⟩)))
    all_goals
      go_wp2
      go_meet
      exact ⟨⟨_, rfl, Lib.hid (by rw [HT0.out]; exact HH.out)⟩, (Below.refl _ _).drew⟩
  case rest =>
    rename_i hK
    obtain ⟨⟨T, rfl, hT⟩, hbl⟩ := hcut
    refine hK _ _ ?_
    clear hK
    go_wp2
    go_loopw [3, 4] (fun out i wr => ∃ (y : Nat) (T : ByteArray), y ≤ H ∧ i = .int .i64 y ∧ out = .string T ∧ Hid (T = strB (textSo W H ks y)) ∧ Blw W0.heap.size W0 wr) (fun _ i _ => H - (intOf i).toNat)
    case atStart => exact ⟨0, T, Nat.zero_le _, rfl, rfl, hT, hbl⟩
    case round =>
      obtain ⟨y, T2, hy, rfl, rfl, hT2, hbw⟩ := hrel
      have r0 : wr.cell? ⟨w.heap.size, 0, none⟩ = some (.int .i64 W) := (Below.cell hbw (by show w.heap.size < W0.heap.size; have := HS0.out; omega)).trans c0
      have r1 : wr.cell? ⟨w.heap.size, 1, none⟩ = some (.int .i64 H) := (Below.cell hbw (by show w.heap.size < W0.heap.size; have := HS0.out; omega)).trans c1
      have hT2s : (T2.size : Int) ≤ 100000 := by rw [hT2.out, strB_size]; have := HL.out y; omega
      have HBW := Lib.hid hbw
      by_cases hlt : y < H
      · clear hbw
        go_wp2
        obtain ⟨wo, rfl⟩ : ∃ wo : World, wo = wr := ⟨_, rfl⟩
        go_loopw [3, 5] (fun out i wr => ∃ (x : Nat) (T : ByteArray), x ≤ W ∧ i = .int .i64 x ∧ out = .string T ∧ Hid (T = strB (textSo W H ks y ++ rowSo W ks y x)) ∧ Blw W0.heap.size W0 wr) (fun _ i _ => W - (intOf i).toNat)
        case atStart => exact ⟨0, _, Nat.zero_le _, rfl, rfl, Lib.hid (by apply listB_inj; rw [listB_append, hT2.out, listB_strB, listB_strB]; rfl), HBW.out⟩
        case round =>
          obtain ⟨x, T3, hx, rfl, rfl, hT3, hbx⟩ := hrel
          have q0 : wr.cell? ⟨w.heap.size, 0, none⟩ = some (.int .i64 W) := (Below.cell hbx (by show w.heap.size < W0.heap.size; have := HS0.out; omega)).trans c0
          have q1 : wr.cell? ⟨w.heap.size, 1, none⟩ = some (.int .i64 H) := (Below.cell hbx (by show w.heap.size < W0.heap.size; have := HS0.out; omega)).trans c1
          have q2 : wr.cell? ⟨w.heap.size, 2, none⟩ = some (.slice (some ⟨b, o, none⟩) n c) := (Below.cell hbx (by show w.heap.size < W0.heap.size; have := HS0.out; omega)).trans c2
          have hT3s : (T3.size : Int) ≤ 110000 := by rw [hT3.out, strB_size, List.length_append]; have := HL.out y; have := HR.out y x; omega
          have HBX := Lib.hid hbx
          by_cases hlx : x < W
          · have KLL := Lib.hid (KL.out wr x y (HB0.out.trans (Below.mono hbx (by have := HS0.out; omega))) hlx hlt)
            have hidx : y * W + x < n := by rw [← HNN.out, Nat.mul_comm W H]; exact Nat.lt_of_lt_of_le (Nat.add_lt_add_left hlx _) (by rw [← Nat.succ_mul]; exact Nat.mul_le_mul_right W hlt)
            obtain ⟨v, hv⟩ : ∃ v, ks[y * W + x]? = some v := ⟨ks[y * W + x]'(by have := HA.out.lenk; omega), List.getElem?_eq_getElem _⟩
            have hvs : v.natAbs ≤ 16384 := HS.out v (List.mem_of_getElem? hv)
            rw [hv, Option.getD_some] at KLL
            have KTT := Lib.hid (fun w => KT.out v w hvs)
            have HST := Lib.hid (rowSo_step hlx hv)
            have hvl : ((strB (Lib.itoa v)).size : Int) ≤ 21 := by rw [strB_size]; have := itoa_short hvs; omega
            obtain ⟨V, hV⟩ : ∃ V, strB (Lib.itoa v) = V := ⟨_, rfl⟩
            rw [hV] at KTT hvl
            have HV := Lib.hid hV
            clear hbx hidx hv hvs hV
            go_wp2_with fail
            refine KLL.out.mono ?_
            rintro e w3 ⟨rfl, hb3⟩
            have HB3 : Hid (Blw W0.heap.size W0 w3) := Lib.hid (Below.trans HBX.out (Below.mono hb3 (Below.size HBX.out)))
            clear hb3
            go_wp2_with fail
            refine (KTT.out _).mono ?_
            rintro e w4 ⟨rfl, rfl⟩
            go_wp2
            go_roundw
            case rel => exact ⟨x + 1, _, by omega, by go_num, rfl, Lib.hid (by apply listB_inj; rw [HST.out]; simp only [listB_append, hT3.out, listB_strB, ← HV.out]; simp [listB]), HB3.out⟩
            case measure => first | (simp [intOf]; done) | (simp [intOf]; omega)
          · obtain rfl : W = x := by omega
            clear hbx
            go_wp2
            go_roundw
            case rel => exact ⟨y + 1, _, by omega, by go_num, rfl, Lib.hid (by apply listB_inj; rw [textSo_step, ← rowSo_end]; simp only [listB_append, hT3.out, listB_strB]; simp [listB]), HBX.out⟩
            case measure => first | (simp [intOf]; done) | (simp [intOf]; omega)
      · obtain rfl : H = y := by omega
        have HF : Hid (Below w.heap.size w wr) := Lib.hid (HB0.out.trans (Below.mono hbw (by have := HS0.out; omega)))
        clear hbw
        go_wp2
        go_ret
        exact ⟨by rw [hT2.out]; rfl, HF.out⟩
end Go.Proofs.YtnbohpcaejbpeaaGreatDoor
